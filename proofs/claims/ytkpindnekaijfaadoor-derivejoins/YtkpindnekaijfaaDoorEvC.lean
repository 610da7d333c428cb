/- What is told of an operation holds: the proof. -/
import Derived.Test.YtkpindnekaijfaaDoorEvB
namespace Go.Proofs.YtkpindnekaijfaaDoor
open Go.RowKit

section
variable {P : Program} {o : Oper} {a : Act} {w w' : World} {l : Slots} {L : Blks} {v : Value} {cs : List Prop} {r : Res} {vs : List Value} {x : Told}
theorem Post.of_below (h : Below w.heap.size w w') (v : Nat → Value) : Post w w' L ⟨v, none, []⟩ 0 :=
  ⟨h.os, h.tape, h.output, h.size, fun k hk _ => h.block k hk, fun o h => (nomatch h), fun _ => rfl, fun u hu => by cases hu⟩
theorem opres_val (hr : (execOp a.eval o).run P w = .ok (.value v) w) : OpRes P o a w L (rv v) := fun next Q K => by
  unfold Oper.wp
  rw [hr]
  exact K 0 w (Post.of_below (Below.refl _ _) _)
theorem opres_new {mk : Nat → Value} {ob : Obj} (hr : (execOp a.eval o).run P w = .ok (.value (mk w.heap.size)) (w.alloc ob)) : OpRes P o a w L ⟨mk, some ob, []⟩ := fun next Q K => by
  unfold Oper.wp
  rw [hr]
  have hb : Below w.heap.size w (w.alloc ob) := (Below.refl _ _).alloc (Nat.le_refl _) _
  refine K w.heap.size _ ⟨hb.os, hb.tape, hb.output, hb.size, fun k hk _ => hb.block k hk, fun o h => ?_, fun h => (nomatch h), fun u hu => by cases hu⟩
  cases h
  exact ⟨rfl, heap_new _ _⟩
theorem opres_call {f : FuncId} {args : List Value} (hr : (execOp a.eval o).run P w = .ok (.enter f args.toArray) w) (hc : ∀ w, Has w L → Calls P f args.toArray w fun e w' => e = .returned v ∧ Below w.heap.size w w') (H : Has w L) : OpRes P o a w L (rv v) := fun next Q K => by
  unfold Oper.wp
  rw [hr]
  refine Calls.mono (hc w H) ?_
  rintro e w' ⟨rfl, hb⟩
  exact K 0 w' (Post.of_below hb _)
theorem opres_callU {f : FuncId} {args : List Value} {us : List (Nat × Obj)} (hr : (execOp a.eval o).run P w = .ok (.enter f args.toArray) w) (hc : ∀ w, Has w L → Calls P f args.toArray w fun e w' => e = .returned v ∧ Post w w' L ⟨fun _ => v, none, us⟩ 0) (H : Has w L) :
    OpRes P o a w L ⟨fun _ => v, none, us⟩ := fun next Q K => by
  unfold Oper.wp
  rw [hr]
  refine Calls.mono (hc w H) ?_
  rintro e w' ⟨rfl, hb⟩
  exact K 0 w' hb
theorem opres_store {b off i : Nat} {cs cs' : Array Value} {T : TypeId} {fr : Nat × Nat} {us : List Value} (hL : L[i]? = some (b, .cells cs T fr)) (H : Has w L) (hr : (execOp a.eval o).run P w = .ok .skip (w.setCells b off us)) (hd : setFrom cs off us = cs') :
    OpRes P o a w L ⟨fun _ => undef, none, [(i, .cells cs' T fr)]⟩ := fun next Q K => by
  unfold Oper.wp
  rw [hr]
  have hb : Below 0 w (w.setCells b off us) := below_setCells (Nat.zero_le _) us off w (Below.refl _ _)
  refine K 0 _ ⟨hb.os, hb.tape, hb.output, by rw [size_setCells]; exact Nat.le_refl _, fun k _ hn => ?_, fun o h => (nomatch h), fun _ => rfl, fun u hu y hy => ?_⟩
  · exact heap_setCells_ne (fun e => hn (i, .cells cs' T fr) (List.mem_singleton.2 rfl) _ hL e.symm) us off w
  · obtain rfl : u = _ := by simpa using hu
    simp only at hy
    rw [hL] at hy
    obtain rfl := Option.some.inj hy
    rw [heap_setCells us off w cs (H i _ hL), hd]
theorem tell_ok (h : tell vs x = some (r, cs)) (hc : ∀ c ∈ cs, c) : ∃ v cs', x = some (v, cs') ∧ (∀ c ∈ cs', c) ∧ r = rv v := by
  cases x with
  | none => cases h
  | some y =>
    obtain ⟨v, cs'⟩ := y
    cases vs with
    | nil =>
      simp only [tell, Option.some.injEq, Prod.mk.injEq] at h
      obtain ⟨rfl, rfl⟩ := h
      exact ⟨v, cs', rfl, hc, rfl⟩
    | cons v' vs =>
      simp only [tell, Option.some.injEq, Prod.mk.injEq] at h
      obtain ⟨rfl, rfl⟩ := h
      have : v = v' := hc _ (by simp)
      exact ⟨v, cs', rfl, fun c hc' => hc c (by simp [hc']), by rw [this]⟩
theorem told_val (h : tell vs x = some (r, cs)) (hc : ∀ c ∈ cs, c) (hr : ∀ v cs', x = some (v, cs') → (∀ c ∈ cs', c) → (execOp a.eval o).run P w = .ok (.value v) w) : OpRes P o a w L r := by
  obtain ⟨v, cs', h1, h2, rfl⟩ := tell_ok h hc
  exact opres_val (hr v cs' h1 h2)
theorem run_eqGuard_int {op : BinOp} {t : TypeId} {x y : Operand} {k k' : IntKind} {m n : Int} : (eqGuard op t x y (.int k m) (.int k' n)).run P w = .ok () w := by
  cases op <;> simp [eqGuard]
theorem run_eqGuard_str {op : BinOp} {t : TypeId} {x y : Operand} {s u : ByteArray} : (eqGuard op t x y (.string s) (.string u)).run P w = .ok () w := by
  cases op <;> simp [eqGuard]
theorem run_bin {way : Nat} {op : BinOp} {t : TypeId} {x y : Operand} {u v z : Value} (h : aBin way op u v = some (z, cs)) (hc : ∀ c ∈ cs, c) :
    (eqGuard op t x y u v).run P w = .ok () w ∧ (binOp op t u v).run P w = .ok z w := by
  unfold aBin at h
  split at h
  · rename_i k m k' n
    refine ⟨run_eqGuard_int, ?_⟩
    split at h
    · rename_i m n
      split at h <;> simp only [Option.some.injEq, Prod.mk.injEq] at h <;> obtain ⟨rfl, rfl⟩ := h
      · rename_i hu
        have e : k.wrap ((m : Int) * 2 ^ (min n k.bits)) = ((m * 2 ^ n % top k : Nat) : Int) := by
          have : ((m : Int) * 2 ^ (min n k.bits)) = ((m * 2 ^ (min n k.bits) : Nat) : Int) := by simp
          rw [this, wrap_un k _ hu, top_bits, if_pos hu]
          rcases Nat.le_total n k.bits with hl | hl
          · rw [Nat.min_eq_left hl]
          · rw [Nat.min_eq_right hl, Nat.mul_mod_left]
            obtain ⟨d, rfl⟩ := Nat.exists_eq_add_of_le hl
            rw [Nat.pow_add, Nat.mul_comm (2 ^ k.bits), ← Nat.mul_assoc, Nat.mul_mod_left]
        have hn0 : ¬ ((n : Int) < 0) := by omega
        simp [binOp, Op.shift, e, hn0]
      · have h1 := hc (m * 2 ^ n < top k) (by simp)
        have h2 := hc (n ≤ k.bits) (by simp)
        have e : k.wrap ((m : Int) * 2 ^ (min n k.bits)) = ((m * 2 ^ n : Nat) : Int) := by
          have : ((m : Int) * 2 ^ (min n k.bits)) = ((m * 2 ^ (min n k.bits) : Nat) : Int) := by simp
          rw [this, Nat.min_eq_left h2, wrap_fit k _ h1]
        have hn0 : ¬ ((n : Int) < 0) := by omega
        simp [binOp, Op.shift, e, hn0]
    · rename_i m n
      simp only [Option.some.injEq, Prod.mk.injEq] at h
      obtain ⟨rfl, rfl⟩ := h
      have h2 := hc (n ≤ k.bits) (by simp)
      have e : (m : Int).fdiv (2 ^ (min n k.bits)) = ((m / 2 ^ n : Nat) : Int) := by
        rw [Nat.min_eq_left h2, Int.fdiv_eq_ediv_of_nonneg _ (by exact Int.pow_nonneg (by decide))]
        simp
      have hn0 : ¬ ((n : Int) < 0) := by omega
      simp [binOp, Op.shift, e, hn0]
    · cases h
    · cases h
    · split at h
      · cases h
      · rename_i hk _
        obtain rfl : k = k' := by simpa using hk
        exact run_int h hc
      · rename_i hk _
        obtain rfl : k = k' := by simpa using hk
        split at h
        · exact run_nat h hc
        · cases h
  · rename_i s u
    refine ⟨run_eqGuard_str, ?_⟩
    split at h
    · simp only [Option.some.injEq, Prod.mk.injEq] at h
      obtain ⟨rfl, rfl⟩ := h
      have h1 := hc (s.size + u.size ≤ 9223372036854775807) (by simp)
      have : ¬ (((s.size + u.size : Nat) : Int) > IntKind.i64.max) := by
        have e : IntKind.i64.max = 9223372036854775807 := rfl
        rw [e]; omega
      simp only [binOp, Op.stringOp, if_neg this]
      rfl
    · have := run_cmp h hc
      subst this
      simp only [binOp, Op.stringOp, toList_eq_iff]
      rfl
    · have := run_cmp h hc
      subst this
      have e : (!decide (s = u)) = decide (s ≠ u) := by simp
      simp only [binOp, Op.stringOp, toList_eq_iff, e]
      rfl
    · cases h
  · cases h
theorem run_un {op : UnOp} {u z : Value} (h : aUn op u = some (z, cs)) (hc : ∀ c ∈ cs, c) : (Op.unary op u).run P w = .ok z w := by
  unfold aUn at h
  split at h
  · rename_i k m
    split at h <;> simp only [Option.some.injEq, Prod.mk.injEq] at h <;> obtain ⟨rfl, rfl⟩ := h
    · rename_i hu
      have h1 := hc (m ≤ top k) (by simp)
      have e : ((0 : Int) - m) % (top k : Nat) = ((top k - m) % top k : Nat) := by
        rw [Int.natCast_emod, Int.ofNat_sub h1, show (0 : Int) - m = (top k - m) + -(top k : Int) by omega]
        rw [← Int.sub_eq_add_neg, Int.sub_emod_right]
      simp only [Op.unary, Op.intArith, wrap_u k _ hu]
      have e2 : ((0 : Int) - Int.ofNat m) % (top k : Nat) = ((top k - m) % top k : Nat) := e
      rw [e2]; rfl
    · rename_i hu
      have h1 := hc (m < top k) (by simp)
      have e : k.wrap (0 - Int.ofNat m) = -(Int.ofNat m) := by
        rw [Int.zero_sub]
        exact wrap_int k _ (by simp; omega) (by simp; omega) hu
      simp only [Op.unary, Op.intArith, e]
      rfl
  · simp only [Option.some.injEq, Prod.mk.injEq] at h
    obtain ⟨rfl, rfl⟩ := h
    rfl
  · cases h
theorem cellsOf_of {ty : TypeId} {d : TypeDesc} (h : P.underlying ty = some d) : ∃ i, P.info? ty = some i ∧ i.size = P.cellsOf ty := by
  unfold Program.underlying at h
  cases hi : P.info? ty with
  | none => rw [hi] at h; cases h
  | some i => exact ⟨i, rfl, by simp [Program.cellsOf, hi]⟩
theorem size_of {ty : TypeId} {k : Nat} (hk : k ≠ 0) (h : k = P.cellsOf ty) : (P.info? ty).map (·.size) = some k := by
  unfold Program.cellsOf at h
  cases hi : P.info? ty with
  | none => rw [hi] at h; simp at h; omega
  | some i => rw [hi] at h; simp at h ⊢; omega
theorem add_off (b o n : Nat) : (⟨b, o, none⟩ : Addr).add n = ⟨b, o + n, none⟩ := Addr.add_mid b o n
theorem run_bounds' (b : Bool) (len cap : Nat) (lo hi : Option Nat) (h1 : lo.getD 0 ≤ hi.getD len) (h2 : hi.getD 0 ≤ cap) :
    (Instr.sliceBounds b len cap (optI lo) (optI hi) none).run P w = .ok (lo.getD 0, hi.getD len, cap) w := run_bounds b len cap lo hi h1 h2
theorem run_sizeOf {e : TypeId} {i : TypeInfo} (h : P.info? e = some i) : (sizeOf e).run P w = .ok i.size w := by simp [sizeOf, typeInfo, h]
theorem szOf_some {e : TypeId} {s : Nat} (h : szOf P e = some s) : ∃ i, P.info? e = some i ∧ i.size = s := by
  unfold szOf at h
  obtain ⟨i, h1, h2⟩ := Option.map_eq_some_iff.1 h
  exact ⟨i, h1, h2⟩
theorem run_slice {way : Nat} {t : TypeId} {u z : Value} {lo hi : Option Nat} (h : aSlice P way t u lo hi = some (z, cs)) (hc : ∀ c ∈ cs, c) : (Instr.sliceAt t u (optI lo) (optI hi) none).run P w = .ok z w := by
  unfold aSlice at h
  split at h
  · rename_i n e b off hu
    split at h <;> first | (cases h; done) | skip
    all_goals
      rename_i hs
      simp only [Option.some.injEq, Prod.mk.injEq] at h
      obtain ⟨rfl, rfl⟩ := h
      have h1 := hc (lo.getD 0 ≤ hi.getD n) (by simp)
      have h2 := hc (hi.getD n ≤ n) (by simp)
      have h3 := hc (lo.getD 0 < n) (by simp)
      obtain ⟨i, hi', rfl⟩ := szOf_some hs
      have hb := run_bounds (P := P) (w := w) false n n lo hi h1 (by cases hi with | none => simp | some j => simpa using h2)
      simp [Instr.sliceAt, run_underlying hu, Instr.sureAddr, hb, run_sizeOf hi', show ¬ n = lo.getD 0 by omega, mulSz_eq, add_off]
  · rename_i e b off len cap hu
    split at h <;> first | (cases h; done) | skip
    · rename_i s hs
      simp only [Option.some.injEq, Prod.mk.injEq] at h
      obtain ⟨rfl, rfl⟩ := h
      obtain ⟨i, hi', rfl⟩ := szOf_some hs
      have h1 := hc (lo.getD 0 ≤ hi.getD len) (by simp)
      have h2 := hc (hi.getD 0 ≤ cap) (by simp)
      have h3 := hc (lo.getD 0 = cap) (by simp)
      have hb := run_bounds (P := P) (w := w) true len cap lo hi h1 h2
      simp [Instr.sliceAt, Instr.slice, run_underlying hu, hb, run_sizeOf hi', h3]
    · rename_i s _ hs
      simp only [Option.some.injEq, Prod.mk.injEq] at h
      obtain ⟨rfl, rfl⟩ := h
      obtain ⟨i, hi', rfl⟩ := szOf_some hs
      have h1 := hc (lo.getD 0 ≤ hi.getD len) (by simp)
      have h2 := hc (hi.getD 0 ≤ cap) (by simp)
      have h3 := hc (lo.getD 0 < cap) (by simp)
      have hb := run_bounds (P := P) (w := w) true len cap lo hi h1 h2
      simp [Instr.sliceAt, Instr.slice, run_underlying hu, hb, run_sizeOf hi', show ¬ cap = lo.getD 0 by omega, mulSz_eq, add_off]
  · rename_i s hu
    simp only [Option.some.injEq, Prod.mk.injEq] at h
    obtain ⟨rfl, rfl⟩ := h
    have h1 := hc (lo.getD 0 ≤ hi.getD s.size) (by simp)
    have h2 := hc (hi.getD 0 ≤ s.size) (by simp)
    have hb := run_bounds (P := P) (w := w) false s.size s.size lo hi h1 h2
    simp [Instr.sliceAt, Instr.slice, run_underlying hu, hb]
  · cases h
theorem run_idxAddr {way : Nat} {t : TypeId} {u z : Value} {i : Nat} (h : aIdxAddr P way t u i = some (z, cs)) (hc : ∀ c ∈ cs, c) : (Instr.indexAt t u (.int .i64 (i : Int))).run P w = .ok z w := by
  unfold aIdxAddr at h
  split at h <;> first | (cases h; done) | skip
  all_goals
    rename_i hu
    split at h <;> first | (cases h; done) | skip
    rename_i s hs
    simp only [Option.some.injEq, Prod.mk.injEq] at h
    obtain ⟨rfl, rfl⟩ := h
    obtain ⟨ii, hi', rfl⟩ := szOf_some hs
    have h1 := hc _ (List.mem_singleton.2 rfl)
    simp [Instr.indexAt, asIntOf, run_underlying hu, Instr.sureAddr, run_sizeOf hi', h1, mulSz_eq, addOff_eq, add_off]
theorem isAgg_of {ty : TypeId} {d : TypeDesc} (hu : P.underlying ty = some d) : (isAgg ty).run P w = .ok d.isRow w := by
  cases d <;> simp [isAgg, run_underlying hu, TypeDesc.isRow]
theorem get_nl (s : ByteArray) (i : Nat) (h : i < s.size) : s[i]? = some (UInt8.ofNat ((nl s).getD i 0)) := by
  have e : s[i]? = some s[i] := getElem?_pos _ _ _
  rw [e, nl_get s i h]
  simp
theorem run_idx {h' : Hint} {t : TypeId} {u : Value} {i : Nat} (h : aIdx P h' t u i = some (r, cs)) (hc : ∀ c ∈ cs, c) : ∃ z, r = rv z ∧ (Instr.index t u (.int .i64 (i : Int))).run P w = .ok z w := by
  unfold aIdx at h
  split at h
  · rename_i s v _ hu _
    simp only [Option.some.injEq, Prod.mk.injEq] at h
    obtain ⟨rfl, rfl⟩ := h
    have h1 := hc (i < s.size) (by simp)
    have h2 := hc ((nl s).getD i 0 = v) (by simp)
    refine ⟨_, rfl, ?_⟩
    have e := get_nl s i h1
    rw [h2] at e
    have h3 : v < 256 := by rw [← h2]; exact nl_lt s i
    simp [Instr.index, asIntOf, run_underlying hu, e, Nat.mod_eq_of_lt h3]
  · rename_i n e cs' v _ hu _
    split at h <;> first | (cases h; done) | skip
    rename_i d hd hs
    split at h <;> first | (cases h; done) | skip
    rename_i hr
    simp only [Option.some.injEq, Prod.mk.injEq] at h
    obtain ⟨rfl, rfl⟩ := h
    have h1 := hc (i < n) (by simp)
    have h2 := hc (cs'[i]? = some v) (by simp)
    obtain ⟨ii, hi', hsz⟩ := szOf_some hs
    refine ⟨v, rfl, ?_⟩
    have hag := isAgg_of (P := P) (w := w) hd
    rw [hr] at hag
    simp [Instr.index, asIntOf, run_underlying hu, run_sizeOf hi', hsz, h1, part, hag, h2]
  · cases h
theorem run_field {s : TypeId} {u z : Value} {f : Nat} (h : aField P s u f = some (z, cs)) : (Instr.fieldAt s u f).run P w = .ok z w := by
  unfold aField at h
  split at h <;> first | (cases h; done) | skip
  rename_i fs b off hu
  split at h <;> first | (cases h; done) | skip
  rename_i g hg
  split at h <;> first | (cases h; done) | skip
  rename_i k hk
  simp only [Option.some.injEq, Prod.mk.injEq] at h
  obtain ⟨rfl, rfl⟩ := h
  obtain ⟨ii, hi', hsz⟩ := szOf_some hk
  simp [Instr.fieldAt, run_underlying hu, hg, Instr.sureAddr, fieldPlace, run_sizeOf hi', hsz, add_off]
theorem opres_load {h' : Hint} {t : TypeId} {x : Operand} {u : Value} (ho : o.op = .load t x) (hx : a.eval x = u) (h : aLoad P L h' t u = some (r, cs)) (hc : ∀ c ∈ cs, c) (H : Has w L) : OpRes P o a w L r := by
  unfold aLoad at h
  split at h <;> first | (cases h; done) | skip
  rename_i b off b' cs' T fr d hL hu
  have hH := H _ _ hL
  obtain ⟨ii, hi', hsz⟩ := cellsOf_of hu
  split at h
  · rename_i hd _
    split at h <;> first | (cases h; done) | skip
    simp only [Option.some.injEq, Prod.mk.injEq] at h
    obtain ⟨rfl, rfl⟩ := h
    obtain rfl : b' = b := hc _ (by simp)
    have h2 : cs'.size = P.cellsOf t := hc _ (by simp)
    refine opres_val ?_
    have := run_load_block (P := P) hH hu hd (n := cs'.size) (by simp [hi', hsz, h2]) rfl
    simp only [execOp, ho, hx, Sem.run_bind, this, Result.andThen_ok, Sem.run_pure]
  · rename_i ps _ hd _
    simp only [Option.some.injEq, Prod.mk.injEq] at h
    obtain ⟨rfl, rfl⟩ := h
    obtain rfl : b' = b := hc _ (by simp)
    have h2 : PartAt cs' off ps := hc _ (by simp)
    have h3 : ps.size = P.cellsOf t := hc _ (by simp)
    refine opres_val ?_
    have := run_loadAt_mid (P := P) w b' off t ps.toList d (fun j v hv => by rw [cell_of hH]; exact h2 j v (by simpa using hv)) hu hd (by simp [hi', hsz, h3])
    simp only [execOp, ho, hx, Sem.run_bind, this, Result.andThen_ok, Sem.run_pure]
  · rename_i v _ hd _
    simp only [Option.some.injEq, Prod.mk.injEq] at h
    obtain ⟨rfl, rfl⟩ := h
    obtain rfl : b' = b := hc _ (by simp)
    have h2 : cs'[off]? = some v := hc _ (by simp)
    refine opres_val ?_
    have hcell : w.cell? ⟨b', off, none⟩ = some v := by rw [cell_of hH]; exact h2
    have hag := isAgg_of (P := P) (w := w) hu
    rw [hd] at hag
    generalize a.eval = ev at hx ⊢
    simp only [execOp, ho, hx]
    simp [Instr.loadAt, Instr.sureAddr, loadVar, hag, go_sem, hcell]
  · cases h
theorem put_setFrom (cs : Array Value) (off : Nat) (v : Value) : setFrom cs off [v] = cs.setIfInBounds off v := rfl
theorem one_cells {v : Value} (h1 : v.oneCell' = true) : v.cells = #[v] := by cases v <;> first | rfl | (simp [Value.oneCell'] at h1; done)
theorem run_put1' {t : TypeId} {p q : Operand} {b off : Nat} {cs : Array Value} {T : TypeId} {fr : Nat × Nat} {v : Value} (ho : o.op = .store t p q) (hp : a.eval p = .pointer (some ⟨b, off, none⟩)) (hq : a.eval q = v) (hb : w.heap[b]? = some (.cells cs T fr))
    (hi : P.cellsOf t = 1) (ho' : off < cs.size) (hfr : fr.2 = 0 ∨ off < fr.1) (h1 : v.oneCell' = true) : (execOp a.eval o).run P w = .ok .skip (w.setCells b off [v]) := by
  have hc : w.cell? ⟨b, off, none⟩ = some cs[off] := by rw [cell_of hb]; simp [ho']
  have hf : w.frozen? ⟨b, off, none⟩ = false := by
    obtain ⟨lo, hi⟩ := fr
    simp [World.frozen?, hb]
    simp only at hfr
    omega
  have hst := run_store P w ⟨b, off, none⟩ v .plain h1
  simp only [hc, hf, if_neg Bool.false_ne_true] at hst
  have hz := size_of (P := P) (ty := t) (k := 1) (by decide) hi.symm
  cases hq' : P.info? t with
  | none => simp [hq'] at hz
  | some i =>
    have hs1 : i.size = 1 := by simpa [hq'] using hz
    simp [execOp, ho, hp, hq, Instr.storeAt, Instr.sureAddr, storeVar, sizeOf, typeInfo, hq', hs1, one_cells h1, storeCells, Addr.add, hst, World.setCells]
theorem opres_sto {h' : Hint} {t : TypeId} {x y : Operand} {u v : Value} (ho : o.op = .store t x y) (hx : a.eval x = u) (hy : a.eval y = v) (h : aStore P L h' t u v = some (r, cs)) (hc : ∀ c ∈ cs, c) (H : Has w L) : OpRes P o a w L r := by
  unfold aStore at h
  split at h <;> first | (cases h; done) | skip
  rename_i b off b' cs' T fr k hL hk
  have hH := H _ _ hL
  obtain ⟨ii, hi', hsz⟩ := szOf_some hk
  have hthere : ∀ n, off + n ≤ cs'.size → fr.2 = 0 → w.there b' off n := fun n hn h0 j hj => by
    rw [cell_of hH]
    refine ⟨by simp; omega, ?_⟩
    obtain ⟨lo, hi⟩ := fr
    simp only at h0
    simp [World.frozen?, hH, h0]
  split at h
  · rename_i vs _
    split at h <;> first | (cases h; done) | skip
    simp only [Option.some.injEq, Prod.mk.injEq] at h
    obtain ⟨rfl, rfl⟩ := h
    obtain rfl : b' = b := hc _ (by simp)
    have h2 : cs'.size = k := hc _ (by simp)
    have h3 : vs.size = k := hc _ (by simp)
    have h4 : vs.all (·.oneCell') = true := hc _ (by simp)
    have h5 : fr.2 = 0 := hc _ (by simp)
    refine opres_store (off := 0) (us := vs.toList) hL H ?_ (setFrom_all _ _ (by simp; omega))
    have := run_storeAt_mid (P := P) w b' 0 t vs (hthere _ (by omega) h5) (by simp [hi', hsz, h3]) h4
    simp only [execOp, ho, hx, hy, Sem.run_bind, this, Result.andThen_ok, Sem.run_pure]
  · rename_i vs _ cs2 _ _ _ _
    simp only [Option.some.injEq, Prod.mk.injEq] at h
    obtain ⟨rfl, rfl⟩ := h
    obtain rfl : b' = b := hc _ (by simp)
    have h2 : off + vs.size ≤ cs'.size := hc _ (by simp)
    have h3 : vs.size = k := hc _ (by simp)
    have h4 : vs.all (·.oneCell') = true := hc _ (by simp)
    have h5 : fr.2 = 0 := hc _ (by simp)
    have h6 : setFrom cs' off vs.toList = cs2 := hc _ (by simp)
    refine opres_store (off := off) (us := vs.toList) hL H ?_ h6
    have := run_storeAt_mid (P := P) w b' off t vs (hthere _ h2 h5) (by simp [hi', hsz, h3]) h4
    simp only [execOp, ho, hx, hy, Sem.run_bind, this, Result.andThen_ok, Sem.run_pure]
  · split at h <;> first | (cases h; done) | skip
    · rename_i h1 hk _
      obtain rfl : k = 1 := Nat.eq_of_beq_eq_true hk
      simp only [Option.some.injEq, Prod.mk.injEq] at h
      obtain ⟨rfl, rfl⟩ := h
      obtain rfl : b' = b := hc _ (by simp)
      have h2 : off < cs'.size := hc _ (by simp)
      have h3 : fr.2 = 0 ∨ off < fr.1 := hc _ (by simp)
      exact opres_store (off := off) hL H (run_put1' ho hx hy hH (by simp [Program.cellsOf, hi', hsz]) h2 h3 h1) rfl
    · rename_i cs2 _ _ _ h1 hk _
      obtain rfl : k = 1 := Nat.eq_of_beq_eq_true hk
      simp only [Option.some.injEq, Prod.mk.injEq] at h
      obtain ⟨rfl, rfl⟩ := h
      obtain rfl : b' = b := hc _ (by simp)
      have h2 : off < cs'.size := hc _ (by simp)
      have h3 : fr.2 = 0 ∨ off < fr.1 := hc _ (by simp)
      have h4 : cs'.setIfInBounds off _ = cs2 := hc _ (by simp; right; right; right; rfl)
      exact opres_store (off := off) hL H (run_put1' ho hx hy hH (by simp [Program.cellsOf, hi', hsz]) h2 h3 h1) h4
theorem opres_conv {h' : Hint} {src dst : TypeId} {x : Operand} {u : Value} (ho : o.op = .convert src dst x) (hx : a.eval x = u) (h : aConv P L h' src dst u = some (r, cs)) (hc : ∀ c ∈ cs, c) (H : Has w L) : OpRes P o a w L r := by
  unfold aConv at h
  split at h
  · rename_i ds k k' m hs hd
    split at h
    · rename_i hu
      refine told_val h hc fun v cs' e _ => ?_
      simp only [Option.some.injEq, Prod.mk.injEq] at e
      obtain ⟨rfl, rfl⟩ := e
      have hq : (convert src dst (.int k' (Int.ofNat m))).run P w = .ok (.int k (Int.ofNat (m % top k))) w := by
        have e := wrap_un k m hu
        cases ds <;> simp [convert, run_underlying hs, run_underlying hd, Conv.intToInt, e]
      simp only [execOp, ho, hx, Sem.run_bind, hq, Result.andThen_ok, Sem.run_pure]
    · refine told_val h hc fun v cs' e hc' => ?_
      simp only [Option.some.injEq, Prod.mk.injEq] at e
      obtain ⟨rfl, rfl⟩ := e
      have h1 : m < top k := hc' _ (by simp)
      have hq : (convert src dst (.int k' (Int.ofNat m))).run P w = .ok (.int k (Int.ofNat m)) w := by
        have e := wrap_fit k m h1
        cases ds <;> simp [convert, run_underlying hs, run_underlying hd, Conv.intToInt, e]
      simp only [execOp, ho, hx, Sem.run_bind, hq, Result.andThen_ok, Sem.run_pure]
  · rename_i ds s hs hd
    refine told_val h hc fun v cs' e _ => ?_
    simp only [Option.some.injEq, Prod.mk.injEq] at e
    obtain ⟨rfl, rfl⟩ := e
    have hq : (convert src dst (.string s)).run P w = .ok (.string s) w := by
      cases ds <;> simp [convert, run_underlying hs, run_underlying hd]
    simp only [execOp, ho, hx, Sem.run_bind, hq, Result.andThen_ok, Sem.run_pure]
  · rename_i e b off len cap hs hd
    split at h <;> first | (cases h; done) | skip
    rename_i s _ b' cs' T fr he _ hL
    simp only [Option.some.injEq, Prod.mk.injEq] at h
    obtain ⟨rfl, rfl⟩ := h
    obtain rfl : b' = b := hc _ (by simp)
    obtain ⟨h1, h2⟩ : StrAt cs' off len s := hc _ (by simp)
    refine opres_val ?_
    have hH := H _ _ hL
    have hq := run_convert_bytes_arg (P := P) w src e hs he b' off len cap ((nl s).map fun (x : Nat) => (x : Int)) (by simp [nl_len, h1]) (fun i hi => by
      rw [cell_of hH, h2 i hi]
      congr 2
      simp [nl_len, h1, hi]) dst hd
    have e2 : strOfNums ((nl s).map fun (x : Nat) => (x : Int)) = s := by
      have : strOfNums ((nl s).map fun (x : Nat) => (x : Int)) = bs (nl s) := by simp [strOfNums, bs, Function.comp_def]
      rw [this, bs_nl]
    rw [e2] at hq
    simp only [execOp, ho, hx, Sem.run_bind, hq, Result.andThen_ok, Sem.run_pure]
  · cases h
theorem run_build' {t : TypeId} {ps : Array (Nat × Value)} {z : Value} (h : aBuild P t ps.toList = some (z, cs)) : (Instr.build t ps).run P w = .ok z w := by
  unfold aBuild at h
  split at h <;> first | (cases h; done) | skip
  rename_i cs' hb
  simp only [Option.some.injEq, Prod.mk.injEq] at h
  obtain ⟨rfl, rfl⟩ := h
  exact run_build w t ps cs' hb
theorem opres_buildS {t : TypeId} {len : Nat} {ps : Array (Nat × Operand)} {vs : List (Nat × Value)} (ho : o.op = .buildSlice t len ps) (hp : (ps.map fun (i, x) => (i, a.eval x)).toList = vs) (h : aBuildS P t len vs = some (r, cs)) : OpRes P o a w L r := by
  unfold aBuildS at h
  split at h <;> first | (cases h; done) | skip
  rename_i e hu
  split at h <;> first | (cases h; done) | skip
  rename_i i hi
  have hp' : (ps.map fun (i, x) => (i, a.eval x)) = vs.toArray := by rw [← hp]
  split at h
  · rename_i z hz hle hne
    split at h <;> first | (cases h; done) | skip
    rename_i cs' hf
    simp only [Option.some.injEq, Prod.mk.injEq] at h
    obtain ⟨rfl, rfl⟩ := h
    have h1 : ¬ (len * i.size > 2 ^ 24) := by have := Nat.le_of_ble_eq_true hle; omega
    have h2 : ¬ (len * i.size = 0) := fun e => by rw [e] at hne; cases hne
    have hq : (Instr.buildSlice t len vs.toArray).run P w = .ok (.slice (some ⟨w.heap.size, 0, none⟩) len len) (w.alloc (.cells cs' e)) := by
      unfold zeroRow at hf
      simp only [Instr.buildSlice, Sem.run_bind, run_underlying hu, Result.andThen_ok, run_sizeOf hi, if_neg h1, if_neg h2, zeroValue, typeInfo, run_program, hi, hz, Sem.run_pure, hf]
      simp [newRow]
    refine opres_new ?_
    simp only [execOp, ho, hp', Sem.run_bind, hq, Result.andThen_ok, Sem.run_pure]
  · rename_i z hz hle hne
    split at h <;> first | (cases h; done) | skip
    simp only [Option.some.injEq, Prod.mk.injEq] at h
    obtain ⟨rfl, rfl⟩ := h
    have h1 : ¬ (len * i.size > 2 ^ 24) := by have := Nat.le_of_ble_eq_true hle; omega
    have h2 : len * i.size = 0 := Nat.eq_of_beq_eq_true hne
    have hq : (Instr.buildSlice t len #[]).run P w = .ok (.slice (some ⟨w.heap.size, 0, none⟩) len len) (w.alloc (.cells #[] e)) := by
      simp only [Instr.buildSlice, Sem.run_bind, run_underlying hu, Result.andThen_ok, run_sizeOf hi, if_neg h1, if_pos h2, Sem.run_pure]
      have e0 : (Array.range 0).map (fun x => (#[] : Array Value)[x % (#[] : Array Value).size]!) = #[] := by simp [Array.range]
      simp only [h2, e0, Instr.fill]
      simp [newRow]
    refine opres_new ?_
    simp only [execOp, ho, hp', Sem.run_bind, hq, Result.andThen_ok, Sem.run_pure]
  · cases h
theorem run_len {t ty : TypeId} {u z : Value} (h : aLen P t u = some (z, cs)) : (Builtin.len_ #[t] ty #[u]).run P w = .ok z w := by
  unfold aLen at h
  split at h <;> first | (cases h; done) | skip
  all_goals
    rename_i hu
    simp only [Option.some.injEq, Prod.mk.injEq] at h
    obtain ⟨rfl, rfl⟩ := h
    simp [Builtin.len_, run_underlying hu, goInt]
theorem evAll_agr (A : Agr a.eval l) : ∀ (xs : List Operand) (us : List Value), evAll l xs = some us → xs.map a.eval = us
  | [], us, h => by simp [evAll] at h; simp [h]
  | x :: r, us, h => by
    simp only [evAll] at h
    split at h <;> first | (cases h; done) | skip
    rename_i v vs h1 h2
    obtain rfl := Option.some.inj h
    simp [A x v h1, evAll_agr A r vs h2]
theorem evParts_agr (A : Agr a.eval l) : ∀ (xs : List (Nat × Operand)) (us : List (Nat × Value)), evParts l xs = some us → xs.map (fun (i, x) => (i, a.eval x)) = us
  | [], us, h => by simp [evParts] at h; simp [h]
  | x :: r, us, h => by
    simp only [evParts] at h
    split at h <;> first | (cases h; done) | skip
    rename_i v vs h1 h2
    obtain rfl := Option.some.inj h
    simp [A x.2 v h1, evParts_agr A r vs h2]
theorem natAt_agr (A : Agr a.eval l) {x : Option Operand} {n : Option Nat} (h : natAt l x = some n) : x.map a.eval = optI n := by
  unfold natAt at h
  split at h
  · obtain rfl := Option.some.inj h; rfl
  · rename_i x
    split at h <;> first | (cases h; done) | skip
    rename_i m h1
    obtain rfl := Option.some.inj h
    simp [A x _ h1, optI]
theorem opres_calls {h' : Hint} {c : Call} (ho : o.op = .call c) (A : Agr a.eval l) (h : aCall P l L h' c = some (r, cs)) (hc : ∀ c ∈ cs, c) (H : Has w L) : OpRes P o a w L r := by
  unfold aCall at h
  split at h
  · rename_i hb
    split at h <;> first | (cases h; done) | skip
    rename_i x t hx ht
    split at h <;> first | (cases h; done) | skip
    rename_i u hu
    refine told_val h hc fun v cs' e _ => ?_
    have hl := run_len (P := P) (w := w) (ty := o.type) e
    have h1 : c.args = #[x] := by rw [← Array.toArray_toList (xs := c.args), hx]
    have h2 : c.argTypes = #[t] := by rw [← Array.toArray_toList (xs := c.argTypes), ht]
    have h3 := A x u hu
    generalize a.eval = ev at h3 ⊢
    simp [execOp, ho, resolve, hb, h1, h2, invoke, builtin, h3, hl]
  · rename_i f hb
    have key : ∀ args : List Value, evAll l c.args.toList = some args → Enters P f → (execOp a.eval o).run P w = .ok (.enter f args.toArray) w := fun args hargs hE => by
      have h1 := evAll_agr A _ _ hargs
      have h2 : c.args.map a.eval = args.toArray := by rw [← h1, ← Array.toList_map]
      have h3 : a.eval (.func f) = .func (.func f) #[] #[] := rfl
      generalize a.eval = ev at h2 h3 ⊢
      have h4 := hE args.toArray w
      simp [execOp, ho, resolve, hb, h2, h3, Deferred.ofValue, invoke, h4]
    split at h
    · rename_i args v _ hargs _ _
      split at h <;> simp only [Option.some.injEq, Prod.mk.injEq] at h <;> obtain ⟨rfl, rfl⟩ := h
      · have hC : CallP P f args [] v := hc _ (by simp)
        exact opres_call (key args hargs hC.1) (fun w _ => hC.2 w (fun i x h => by simp at h)) H
      · have hC : CallP P f args L v := hc _ (by simp)
        exact opres_call (key args hargs hC.1) hC.2 H
    · rename_i _ args v _ hargs _ _
      simp only [Option.some.injEq, Prod.mk.injEq] at h
      obtain ⟨rfl, rfl⟩ := h
      have hC : CallU P f args L v h'.2.2.2 := hc _ (by simp)
      exact opres_callU (key args hargs hC.1) hC.2 H
    · cases h
  · cases h
set_option maxHeartbeats 1000000 in
/-- **What is told of an operation holds.** -/
theorem aev_ok {h' : Hint} (A : Agr a.eval l) (H : Has w L) (h : aev P l L h' o = some (r, cs)) (hc : ∀ c ∈ cs, c) : OpRes P o a w L r := by
  unfold aev at h
  split at h
  · split at h <;> first | (cases h; done) | skip
    rename_i v _ _
    simp only [Option.some.injEq, Prod.mk.injEq] at h
    obtain ⟨rfl, rfl⟩ := h
    have : RunV P l L o v := hc _ (by simp)
    exact opres_val (this _ w A H)
  · split at h <;> first | (cases h; done) | skip
    rename_i v _ _ ob _ _ _
    simp only [Option.some.injEq, Prod.mk.injEq] at h
    obtain ⟨rfl, rfl⟩ := h
    have : RunN P l L o (mkOf v) ob := hc _ (by simp)
    exact opres_new (this _ w A H)
  · split at h <;> first | (cases h; done) | skip
    rename_i v _ _
    simp only [Option.some.injEq, Prod.mk.injEq] at h
    obtain ⟨rfl, rfl⟩ := h
    have : RunU P l L o v h'.2.2.2 := hc _ (by simp)
    obtain ⟨w', h1, h2⟩ := this _ w A H
    intro next Q K
    unfold Oper.wp
    rw [h1]
    exact K 0 w' h2
  · split at h
    · -- move
      rename_i x ho
      split at h <;> first | (cases h; done) | skip
      rename_i v hv
      refine told_val h hc fun z cs' e _ => ?_
      simp only [Option.some.injEq, Prod.mk.injEq] at e
      obtain ⟨rfl, rfl⟩ := e
      simp only [execOp, ho, A x v hv, Sem.run_pure]
    · -- assign
      rename_i x ho
      split at h <;> first | (cases h; done) | skip
      rename_i v hv
      refine told_val h hc fun z cs' e _ => ?_
      simp only [Option.some.injEq, Prod.mk.injEq] at e
      obtain ⟨rfl, rfl⟩ := e
      simp only [execOp, ho, A x v hv, Sem.run_pure]
    · -- pick
      rename_i c x y ho
      split at h <;> first | (cases h; done) | skip
      · rename_i v hc' hv
        refine told_val h hc fun z cs' e _ => ?_
        simp only [Option.some.injEq, Prod.mk.injEq] at e
        obtain ⟨rfl, rfl⟩ := e
        have e1 := A c _ hc'
        have e2 := A x _ hv
        generalize a.eval = ev at e1 e2 ⊢
        simp [execOp, ho, e1, e2, asBool]
      · rename_i v _ hc' hv
        refine told_val h hc fun z cs' e _ => ?_
        simp only [Option.some.injEq, Prod.mk.injEq] at e
        obtain ⟨rfl, rfl⟩ := e
        have e1 := A c _ hc'
        have e2 := A y _ hv
        generalize a.eval = ev at e1 e2 ⊢
        simp [execOp, ho, e1, e2, asBool]
    · -- alloc
      rename_i t ho
      split at h <;> first | (cases h; done) | skip
      rename_i i hi
      split at h <;> first | (cases h; done) | skip
      rename_i z hz
      simp only [Option.some.injEq, Prod.mk.injEq] at h
      obtain ⟨rfl, rfl⟩ := h
      refine opres_new ?_
      simp [execOp, ho, Instr.alloc, zeroValue, typeInfo, hi, hz, newVar, newRow]
    · -- box
      rename_i t x ho
      split at h <;> first | (cases h; done) | skip
      rename_i v hv
      simp only [Option.some.injEq, Prod.mk.injEq] at h
      obtain ⟨rfl, rfl⟩ := h
      have e1 := A x v hv
      refine opres_new ?_
      generalize a.eval = ev at e1 ⊢
      simp [execOp, ho, Instr.box, newVar, newRow, e1]
    · -- build
      rename_i t ps ho
      split at h <;> first | (cases h; done) | skip
      rename_i us hus
      have hp := evParts_agr A _ _ hus
      refine told_val h hc fun z cs' e _ => ?_
      have hp' : (ps.map fun (i, x) => (i, a.eval x)) = us.toArray := by rw [← hp, ← Array.toList_map]
      have hq := run_build' (P := P) (w := w) (ps := us.toArray) e
      simp only [execOp, ho, hp', Sem.run_bind, hq, Result.andThen_ok, Sem.run_pure]
    · -- buildSlice
      rename_i t len ps ho
      split at h <;> first | (cases h; done) | skip
      rename_i us hus
      have hp := evParts_agr A _ _ hus
      exact opres_buildS ho (by rw [← hp]; simp) h
    · -- load
      rename_i t x ho
      split at h <;> first | (cases h; done) | skip
      rename_i p hp
      exact opres_load ho (A x p hp) h hc H
    · -- store
      rename_i t x y ho
      split at h <;> first | (cases h; done) | skip
      rename_i p v _ hp hv
      exact opres_sto ho (A x p hp) (A y v hv) h hc H
    · -- nilCheck
      rename_i x ho
      split at h <;> first | (cases h; done) | skip
      rename_i p hp
      refine told_val h hc fun z cs' e _ => ?_
      simp only [Option.some.injEq, Prod.mk.injEq] at e
      obtain ⟨rfl, rfl⟩ := e
      simp only [execOp, ho, A x _ hp, Sem.run_pure]
    · -- binOp
      rename_i op t x y t' ho
      split at h <;> first | (cases h; done) | skip
      rename_i u v hu hv
      refine told_val h hc fun z cs' e hc' => ?_
      have e1 := A x u hu
      have e2 := A y v hv
      obtain ⟨q1, q2⟩ := run_bin (P := P) (w := w) (t := t) (x := x) (y := y) e hc'
      simp only [execOp, ho, e1, e2, Sem.run_bind, q1, q2, Result.andThen_ok, Sem.run_pure]
    · -- unOp
      rename_i op t x ho
      split at h <;> first | (cases h; done) | skip
      rename_i u hu
      refine told_val h hc fun z cs' e hc' => ?_
      have q := run_un (P := P) (w := w) e hc'
      simp only [execOp, ho, A x u hu, Sem.run_bind, q, Result.andThen_ok, Sem.run_pure]
    · -- convert
      rename_i src dst x ho
      split at h <;> first | (cases h; done) | skip
      rename_i u hu
      exact opres_conv ho (A x u hu) h hc H
    · -- sliceToArrayPointer
      rename_i t x ho
      split at h <;> first | (cases h; done) | skip
      rename_i n e p len cap hu hv
      refine told_val h hc fun z cs' e hc' => ?_
      simp only [Option.some.injEq, Prod.mk.injEq] at e
      obtain ⟨rfl, rfl⟩ := e
      have h1 : n ≤ len := hc' _ (by simp)
      simp only [execOp, ho, A x _ hv, Sem.run_bind, run_arrayAt (P := P) w t _ n p len cap hu h1, Result.andThen_ok, Sem.run_pure]
    · -- slice
      rename_i t x lo hi ho
      split at h <;> first | (cases h; done) | skip
      rename_i u lo' hi' hu hlo hhi
      refine told_val h hc fun z cs' e hc' => ?_
      have q := run_slice (P := P) (w := w) e hc'
      simp only [execOp, ho, A x u hu, natAt_agr A hlo, natAt_agr A hhi, Option.map_none, Sem.run_bind, q, Result.andThen_ok, Sem.run_pure]
    · -- fieldAddr
      rename_i s x f ho
      split at h <;> first | (cases h; done) | skip
      rename_i u hu
      refine told_val h hc fun z cs' e hc' => ?_
      have q := run_field (P := P) (w := w) e
      simp only [execOp, ho, A x u hu, Sem.run_bind, q, Result.andThen_ok, Sem.run_pure]
    · -- indexAddr
      rename_i t x y ho
      split at h <;> first | (cases h; done) | skip
      rename_i u i hu hi
      refine told_val h hc fun z cs' e hc' => ?_
      have q := run_idxAddr (P := P) (w := w) e hc'
      have e2 : a.eval y = .int .i64 (i : Int) := A y _ hi
      simp only [execOp, ho, A x u hu, e2, Sem.run_bind, q, Result.andThen_ok, Sem.run_pure]
    · -- index
      rename_i t x y ho
      split at h <;> first | (cases h; done) | skip
      rename_i u i hu hi
      obtain ⟨z, rfl, q⟩ := run_idx (P := P) (w := w) h hc
      have e2 : a.eval y = .int .i64 (i : Int) := A y _ hi
      refine opres_val ?_
      simp only [execOp, ho, A x u hu, e2, Sem.run_bind, q, Result.andThen_ok, Sem.run_pure]
    · -- extract
      rename_i x i ho
      split at h <;> first | (cases h; done) | skip
      rename_i us hu
      split at h <;> first | (cases h; done) | skip
      rename_i v hv
      refine told_val h hc fun z cs' e hc' => ?_
      simp only [Option.some.injEq, Prod.mk.injEq] at e
      obtain ⟨rfl, rfl⟩ := e
      have e1 := A x _ hu
      generalize a.eval = ev at e1 ⊢
      have hv' : us[i]? = some v := by simpa using hv
      simp [execOp, ho, e1, Instr.extract, hv']
    · -- call
      rename_i c ho
      exact opres_calls ho A h hc H
    · cases h
end
end Go.Proofs.YtkpindnekaijfaaDoor
