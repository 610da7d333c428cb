/- CurveClamps: the walk. -/
import Derived.Test.YtfciodbgjljjhaaWakes
import Derived.OrdersHeld
namespace Go.Proofs.Ytfciodbgjljjhaa
open Go.RowKit

theorem wpOp_of {P : Program} {ops : Array Oper} {Q : Exit → Act → World → Prop} {K : Act → World → Prop} {a : Act} {w : World} {i : Nat} {o : Oper} (ho : ops[i]? = some o) (hg : o.guard = none) (h : o.wp P a w K Q) : wpOp P ops Q i K a w := by
  have hw : Region.wanted o (yielded ops a.tmps) = true := by simp [Region.wanted, hg]
  unfold wpOp
  simp only [ho, hw, if_true]
  exact .inl h
theorem put_none (a : Act) (v : Value) : a.put none v = a := rfl
theorem wpOp_lit {P : Program} {ops : Array Oper} {Q : Exit → Act → World → Prop} {K : Act → World → Prop} {a : Act} {w : World} (i : Nat) (hs : ops[i]?.isSome = true) (h : ∀ o, ops[i]? = some o → o.guard = none ∧ o.wp P a w K Q) : wpOp P ops Q i K a w := by
  obtain ⟨o, ho⟩ := Option.isSome_iff_exists.1 hs
  exact wpOp_of ho (h o ho).1 (h o ho).2
theorem wp_value {P : Program} {Q : Exit → Act → World → Prop} {K : Act → World → Prop} {a : Act} {w w' : World} {o : Oper} {v : Value} (hr : (execOp a.eval o).run P w = .ok (.value v) w') (h : K (a.put o.dst v) w') : o.wp P a w K Q := by
  unfold Oper.wp
  rw [hr]
  exact h
theorem y_simple {P : Program} {ops : Array Oper} {S : World → Prop} {o : Oper} {a : Act} {v : Value} (t : Nat) (x : Value) (hg : o.guard = none) (ha : a.tmps[t]? = some x)
    (hr : ∀ a' : Act, a'.tmps[t]? = some x → ∀ u, S u → (execOp a'.eval o).run P u = .ok (.value v) u) : YieldsIf P ops S o v a := .inl ⟨by simp [Region.wanted, hg], hr a ha⟩
theorem y_load_mid {P : Program} {ops : Array Oper} {S : World → Prop} {o : Oper} {a : Act} {t b off : Nat} {ty T : TypeId} {cs c : Array Value} {fr : Nat × Nat} {d : TypeDesc} {n : Nat} (hg : o.guard = none)
    (ho : o.op = .load ty (.tmp t)) (ha : a.tmps[t]? = some (.pointer (some ⟨b, off, none⟩))) (h : ∀ u, S u → u.heap[b]? = some (.cells cs T fr)) (hu : P.underlying ty = some d) (hd : d.isRow = true)
    (hi : (P.info? ty).map (·.size) = some n) (hc : ∀ j v, c[j]? = some v → cs[off + j]? = some v) (hn : c.size = n) : YieldsIf P ops S o (.agg c) a := by
  refine .inl ⟨by simp [Region.wanted, hg], fun u hS => ?_⟩
  have e : a.eval (.tmp t) = .pointer (some ⟨b, off, none⟩) := by simp [Act.eval, ha]
  have e2 := run_loadAt_mid (P := P) u b off ty c.toList d (fun j v hv => by rw [cell_of (h u hS)]; exact hc j v (by simpa using hv)) hu hd (by rw [hi]; simp [hn])
  simp only [execOp, ho, e, Sem.run_bind, e2, Result.andThen_ok, Sem.run_pure]
theorem two_new {P : Program} {ops : Array Oper} {Q : Exit → Act → World → Prop} {a0 : Act} {w0 : World} {id : Nat} (fin : Act → Nat → Nat → Act) (F : Nat → Nat → World → Prop) (p : Value) (N : Nat) (h1 : a0.tmps[1]? = some p) (hN : a0.tmps.size = N)
    (hQ : ∀ c a (d : Nat) v w, Q (.panic c) (a.put (some d) v) w → Q (.panic c) a w)
    (H : ∀ (Q' : Exit → Act → World → Prop) (A : Act), A.tmps[1]? = some p → A.tmps.size = N → (∀ c a (d : Nat) v w, Q' (.panic c) (a.put (some d) v) w → Q' (.panic c) a w) → (∀ g1 g2 V, F g1 g2 V → Q' .normal (fin A g1 g2) V) → (Code.region id ops true).wp P Q' A w0)
    (K : ∀ g1 g2 V, F g1 g2 V → Q .normal (fin a0 g1 g2) V) : (Code.region id ops true).wp P Q a0 w0 := H Q a0 h1 hN hQ K

theorem Mem.two {w V : World} {g1 g2 : Nat} {o1 o2 : Obj} (hB : Below w.heap.size w V) (f1 : V.heap[g1]? = some o1) (f2 : V.heap[g2]? = some o2) (hn : g1 ≠ g2) (l1 : w.heap.size ≤ g1) (l2 : w.heap.size ≤ g2) : Mem w.heap.size w V [(g2, o2), (g1, o1)] := by
  have M : Mem w.heap.size w V [] := ⟨hB, fun i x h => by simp at h, fun i j x y h => by simp at h, fun i x h => by simp at h⟩
  exact (M.also (fun i x h => by simp at h) l1 f1).also (Mem.ne_cons hn (fun i x h => by simp at h)) l2 f2

set_option maxRecDepth 100000 in
set_option maxHeartbeats 8000000 in
theorem clamps_raw (cp : Array Value) (ks us kl uv : List Nat) (lo hi r : Nat) (bk : Bytes ks) (bu : Bytes us) (bl : Bytes kl) (bv : Bytes uv) (e1 : curveN ks us = r) (e2 : curveN kl uv = r)
    (p1 : ∀ (j : Nat) v, (cs8 ks)[j]? = some v → cp[0 + j]? = some v) (p2 : ∀ (j : Nat) v, (cs8 us)[j]? = some v → cp[32 + j]? = some v) (pn : cp[64]? = some (.int .u8 (lo : Nat))) (ph : cp[65]? = some (.int .u8 (hi : Nat))) (k0 k31 u31 : Nat) (x0 x31 y31 : Int)
    (h0 : (cs8 ks)[0]? = some (.int .u8 (k0 : Nat))) (h31 : (cs8 ks)[31]? = some (.int .u8 (k31 : Nat))) (g31 : (cs8 us)[31]? = some (.int .u8 (u31 : Nat)))
    (q0 : bits .or .u8 (bits .and .u8 (k0 : Int) 248) (bits .and .u8 (lo : Int) 7) = x0) (q31 : bits .or .u8 (bits .and .u8 (k31 : Int) 63) (bits .and .u8 (hi : Int) 192) = x31) (r31 : bits .or .u8 (bits .and .u8 (u31 : Int) 127) (IntKind.u8.wrap ((hi : Int) * 128)) = y31)
    (c1e : ((cs8 ks).setIfInBounds 0 (.int .u8 x0)).setIfInBounds 31 (.int .u8 x31) = cs8 kl) (c2e : (cs8 us).setIfInBounds 31 (.int .u8 y31) = cs8 uv) (w : World) :
    Calls Try.prog 6 #[.agg cp] w fun e w' => e = .returned (.bool true) ∧ Below w.heap.size w w' := by
  have C1 : Hid _ := And.intro p1 (cs8_size bk.1)
  have C2 : Hid _ := And.intro p2 (cs8_size bu.1)
  have S1 : Hid _ := cs8_size bk.1
  have S2 : Hid _ := cs8_size bu.1
  have O1 : Hid _ := cs8_one ks
  have O2 : Hid _ := cs8_one us
  have CN : Hid _ := pn
  have CH : Hid _ := ph
  have H0 : Hid _ := h0
  have H31 : Hid _ := h31
  have G31 : Hid _ := g31
  have Q0 : Hid _ := q0
  have Q31 : Hid _ := q31
  have R31 : Hid _ := r31
  have E1 : Hid _ := c1e
  have E2 : Hid _ := c2e
  clear p1 p2 pn ph h0 h31 g31 q0 q31 r31 c1e c2e
  go_enter Try.func6, Try.ntmps6
  go_upto_region 1 with fail
  generalize hW : w.alloc (Obj.cells cp 36) = W
  have P0' : W.heap[w.heap.size]? = some (.cells cp 36) := by rw [← hW]; exact heap_new _ _
  have B0 : Below w.heap.size w W := by rw [← hW]; exact (Below.refl _ _).alloc (Nat.le_refl _) _
  clear hW
  have lW := lt_of_block P0'
  refine two_new (fun a0 g1 g2 => (((((((((((a0.put (some 9) (.pointer (some ⟨w.heap.size, 0, none⟩))).put (some 10) (.agg (cs8 ks))).put (some 11) (.pointer (some ⟨w.heap.size, 32, none⟩))).put (some 12) (.agg (cs8 us))).put (some 13) (.pointer (some ⟨w.heap.size, 64, none⟩))).put (some 14) (.int .u8 (lo : Nat))).put (some 15) (.pointer (some ⟨w.heap.size, 65, none⟩))).put (some 16) (.int .u8 (hi : Nat))).put (some 3) (.pointer (some ⟨g1, 0, none⟩))).put (some 4) (.pointer (some ⟨g2, 0, none⟩))).put (some 5) (.int .u8 (lo : Nat))).put (some 6) (.int .u8 (hi : Nat)))
    (fun g1 g2 V => V.heap[g1]? = some (.cells (cs8 ks) 23) ∧ V.heap[g2]? = some (.cells (cs8 us) 23) ∧ Below w.heap.size w V ∧ g1 ≠ g2 ∧ w.heap.size ≤ g1 ∧ w.heap.size ≤ g2) (.pointer (some ⟨w.heap.size, 0, none⟩)) 50 rfl rfl (fun _ _ _ _ _ h => h) ?_ ?_
  · intro Q' A hA1 hA50 hQ' K
    refine wp_region_held (S := fun u => u.heap[w.heap.size]? = some (.cells cp 36)) (by kernel_rfl) ?_
    have SU : ({ W with drawn := W.drawn + 1 } : World).heap[w.heap.size]? = some (.cells cp 36) := P0'
    have BU : Below w.heap.size w ({ W with drawn := W.drawn + 1 } : World) := B0.trans ⟨rfl, rfl, rfl, Nat.le_refl _, fun _ _ => rfl⟩
    have lU : w.heap.size < ({ W with drawn := W.drawn + 1 } : World).heap.size := lW
    generalize ({ W with drawn := W.drawn + 1 } : World) = U at *
    have K' : Hid _ := K
    clear K P0' B0 lW
    obtain ⟨_, hA1'⟩ := Array.getElem?_eq_some_iff.1 hA1
    refine wpAnyH_take (i := 0) (v := .pointer (some ⟨w.heap.size, 0, none⟩)) (fuel := 13) rfl (by kernel_rfl) (by kernel_rfl) (by kernel_rfl) (fun c a u h => hQ' c _ _ _ u h) (y_simple 1 (.pointer (some ⟨w.heap.size, 0, none⟩)) rfl (by simp [hA50, hA1']) fun a' h u hu => by simp [execOp, Act.eval, h, go_sem]) SU ?_
    refine wpAnyH_take (i := 1) (v := .agg (cs8 ks)) (fuel := 12) rfl (by kernel_rfl) (by kernel_rfl) (by kernel_rfl) (fun c a u h => hQ' c _ _ _ u h) (y_load_mid (t := 9) rfl rfl (by simp [Act.put, hA50]) (fun _ h => h) Try.underlying23 rfl (by kernel_rfl) C1.out.1 C1.out.2) SU ?_
    refine wpAnyH_take (i := 2) (v := .pointer (some ⟨w.heap.size, 32, none⟩)) (fuel := 11) rfl (by kernel_rfl) (by kernel_rfl) (by kernel_rfl) (fun c a u h => hQ' c _ _ _ u h) (y_simple 1 (.pointer (some ⟨w.heap.size, 0, none⟩)) rfl (by simp [Act.put, hA50, hA1']) fun a' h u hu => by simp [execOp, Act.eval, h, go_sem]) SU ?_
    refine wpAnyH_take (i := 3) (v := .agg (cs8 us)) (fuel := 10) rfl (by kernel_rfl) (by kernel_rfl) (by kernel_rfl) (fun c a u h => hQ' c _ _ _ u h) (y_load_mid (t := 11) rfl rfl (by simp [Act.put, hA50]) (fun _ h => h) Try.underlying23 rfl (by kernel_rfl) C2.out.1 C2.out.2) SU ?_
    refine wpAnyH_take (i := 4) (v := .pointer (some ⟨w.heap.size, 64, none⟩)) (fuel := 9) rfl (by kernel_rfl) (by kernel_rfl) (by kernel_rfl) (fun c a u h => hQ' c _ _ _ u h) (y_simple 1 (.pointer (some ⟨w.heap.size, 0, none⟩)) rfl (by simp [Act.put, hA50, hA1']) fun a' h u hu => by simp [execOp, Act.eval, h, go_sem]) SU ?_
    refine wpAnyH_take (i := 5) (v := .int .u8 (lo : Nat)) (fuel := 8) rfl (by kernel_rfl) (by kernel_rfl) (by kernel_rfl) (fun c a u h => hQ' c _ _ _ u h) (y_simple 13 (.pointer (some ⟨w.heap.size, 64, none⟩)) rfl (by simp [Act.put, hA50]) fun a' h u hu => by
      have hc := (cell_of hu 64).trans CN.out
      simp [execOp, Act.eval, h, go_sem, hc]) SU ?_
    refine wpAnyH_take (i := 6) (v := .pointer (some ⟨w.heap.size, 65, none⟩)) (fuel := 7) rfl (by kernel_rfl) (by kernel_rfl) (by kernel_rfl) (fun c a u h => hQ' c _ _ _ u h) (y_simple 1 (.pointer (some ⟨w.heap.size, 0, none⟩)) rfl (by simp [Act.put, hA50, hA1']) fun a' h u hu => by simp [execOp, Act.eval, h, go_sem]) SU ?_
    refine wpAnyH_take (i := 7) (v := .int .u8 (hi : Nat)) (fuel := 6) rfl (by kernel_rfl) (by kernel_rfl) (by kernel_rfl) (fun c a u h => hQ' c _ _ _ u h) (y_simple 15 (.pointer (some ⟨w.heap.size, 65, none⟩)) rfl (by simp [Act.put, hA50]) fun a' h u hu => by
      have hc := (cell_of hu 65).trans CH.out
      simp [execOp, Act.eval, h, go_sem, hc]) SU ?_
    refine wpAnyH_all (fuel := 5) (rs := [8, 9]) (by kernel_rfl) (by simp) fun i hi_ => ?_
    obtain rfl | rfl : i = 8 ∨ i = 9 := by simpa using hi_
    · refine wpOp_of (i := 8) rfl rfl ?_
      refine wp_value (v := .pointer (some ⟨U.heap.size, 0, none⟩)) (w' := U.alloc (Obj.cells #[.int .u8 0, .int .u8 0, .int .u8 0, .int .u8 0, .int .u8 0, .int .u8 0, .int .u8 0, .int .u8 0, .int .u8 0, .int .u8 0, .int .u8 0, .int .u8 0, .int .u8 0, .int .u8 0, .int .u8 0, .int .u8 0, .int .u8 0, .int .u8 0, .int .u8 0, .int .u8 0, .int .u8 0, .int .u8 0, .int .u8 0, .int .u8 0, .int .u8 0, .int .u8 0, .int .u8 0, .int .u8 0, .int .u8 0, .int .u8 0, .int .u8 0, .int .u8 0] 23)) (by simp [execOp, go_sem] <;> rfl) ?_
      refine ⟨(heap_old _ _ lU).trans SU, ?_⟩
      refine wpAnyH_all (rs := [9]) (by kernel_rfl) (by simp) fun i hi_ => ?_
      obtain rfl : i = 9 := by simpa using hi_
      refine wpOp_of (i := 9) rfl rfl ?_
      refine wp_value (v := .pointer (some ⟨(U.heap.size + 1), 0, none⟩)) (w' := (U.alloc (Obj.cells #[.int .u8 0, .int .u8 0, .int .u8 0, .int .u8 0, .int .u8 0, .int .u8 0, .int .u8 0, .int .u8 0, .int .u8 0, .int .u8 0, .int .u8 0, .int .u8 0, .int .u8 0, .int .u8 0, .int .u8 0, .int .u8 0, .int .u8 0, .int .u8 0, .int .u8 0, .int .u8 0, .int .u8 0, .int .u8 0, .int .u8 0, .int .u8 0, .int .u8 0, .int .u8 0, .int .u8 0, .int .u8 0, .int .u8 0, .int .u8 0, .int .u8 0, .int .u8 0] 23)).alloc (Obj.cells #[.int .u8 0, .int .u8 0, .int .u8 0, .int .u8 0, .int .u8 0, .int .u8 0, .int .u8 0, .int .u8 0, .int .u8 0, .int .u8 0, .int .u8 0, .int .u8 0, .int .u8 0, .int .u8 0, .int .u8 0, .int .u8 0, .int .u8 0, .int .u8 0, .int .u8 0, .int .u8 0, .int .u8 0, .int .u8 0, .int .u8 0, .int .u8 0, .int .u8 0, .int .u8 0, .int .u8 0, .int .u8 0, .int .u8 0, .int .u8 0, .int .u8 0, .int .u8 0] 23)) (by simp [execOp, go_sem] <;> rfl) ?_
      refine ⟨(heap_old _ _ (by rw [size_alloc]; omega)).trans ((heap_old _ _ lU).trans SU), ?_⟩
      generalize hUU : (U.alloc (Obj.cells #[.int .u8 0, .int .u8 0, .int .u8 0, .int .u8 0, .int .u8 0, .int .u8 0, .int .u8 0, .int .u8 0, .int .u8 0, .int .u8 0, .int .u8 0, .int .u8 0, .int .u8 0, .int .u8 0, .int .u8 0, .int .u8 0, .int .u8 0, .int .u8 0, .int .u8 0, .int .u8 0, .int .u8 0, .int .u8 0, .int .u8 0, .int .u8 0, .int .u8 0, .int .u8 0, .int .u8 0, .int .u8 0, .int .u8 0, .int .u8 0, .int .u8 0, .int .u8 0] 23)).alloc (Obj.cells #[.int .u8 0, .int .u8 0, .int .u8 0, .int .u8 0, .int .u8 0, .int .u8 0, .int .u8 0, .int .u8 0, .int .u8 0, .int .u8 0, .int .u8 0, .int .u8 0, .int .u8 0, .int .u8 0, .int .u8 0, .int .u8 0, .int .u8 0, .int .u8 0, .int .u8 0, .int .u8 0, .int .u8 0, .int .u8 0, .int .u8 0, .int .u8 0, .int .u8 0, .int .u8 0, .int .u8 0, .int .u8 0, .int .u8 0, .int .u8 0, .int .u8 0, .int .u8 0] 23) = UU
      have f1 : UU.heap[U.heap.size]? = some (.cells #[.int .u8 0, .int .u8 0, .int .u8 0, .int .u8 0, .int .u8 0, .int .u8 0, .int .u8 0, .int .u8 0, .int .u8 0, .int .u8 0, .int .u8 0, .int .u8 0, .int .u8 0, .int .u8 0, .int .u8 0, .int .u8 0, .int .u8 0, .int .u8 0, .int .u8 0, .int .u8 0, .int .u8 0, .int .u8 0, .int .u8 0, .int .u8 0, .int .u8 0, .int .u8 0, .int .u8 0, .int .u8 0, .int .u8 0, .int .u8 0, .int .u8 0, .int .u8 0] 23) := by rw [← hUU]; exact (heap_old _ _ (by rw [size_alloc]; omega)).trans (heap_new _ _)
      have f2 : UU.heap[U.heap.size + 1]? = some (.cells #[.int .u8 0, .int .u8 0, .int .u8 0, .int .u8 0, .int .u8 0, .int .u8 0, .int .u8 0, .int .u8 0, .int .u8 0, .int .u8 0, .int .u8 0, .int .u8 0, .int .u8 0, .int .u8 0, .int .u8 0, .int .u8 0, .int .u8 0, .int .u8 0, .int .u8 0, .int .u8 0, .int .u8 0, .int .u8 0, .int .u8 0, .int .u8 0, .int .u8 0, .int .u8 0, .int .u8 0, .int .u8 0, .int .u8 0, .int .u8 0, .int .u8 0, .int .u8 0] 23) := by rw [← hUU]; exact heap_new' _ _ (size_alloc _ _).symm
      have SUU : UU.heap[w.heap.size]? = some (.cells cp 36) := by rw [← hUU]; exact (heap_old _ _ (by rw [size_alloc]; omega)).trans ((heap_old _ _ lU).trans SU)
      have BUU : Below w.heap.size w UU := by rw [← hUU]; exact (BU.alloc BU.size _).alloc (by rw [size_alloc]; have := BU.size; omega) _
      clear hUU
      generalize U.heap.size = g at *
      refine wpAnyH_all (rs := [10]) (by kernel_rfl) (by simp) fun i hi_ => ?_
      obtain rfl : i = 10 := by simpa using hi_
      refine wpOp_lit 10 (by kernel_rfl) fun o ho => ?_
      have hg : o.guard = none := by
        simp only [List.getElem?_toArray, List.getElem?_cons_succ, List.getElem?_cons_zero, Option.some.injEq] at ho
        rw [← ho]
      have hd : o.dst = none := by
        simp only [List.getElem?_toArray, List.getElem?_cons_succ, List.getElem?_cons_zero, Option.some.injEq] at ho
        rw [← ho]
      have hp : o.op = .store 23 (.tmp 3) (.tmp 10) := by
        simp only [List.getElem?_toArray, List.getElem?_cons_succ, List.getElem?_cons_zero, Option.some.injEq] at ho
        rw [← ho]
      clear ho
      refine ⟨hg, ?_⟩
      refine wp_store_mid 23 (.tmp 3) (.tmp 10) hp (g) 0 (cs8 ks) ?_ ?_ ?_ ?_ O1.out ?_
      · simp [Act.eval, Act.put, hA50]
      · simp [Act.eval, Act.put, hA50]
      · rw [S1.out]; exact there_of f1
      · rw [S1.out]; kernel_rfl
      rw [hd, put_none]
      clear hd hp hg
      refine ⟨(heap_setCells_ne (by omega) _ _ _).trans SUU, ?_⟩
      refine wpAnyH_all (rs := [11]) (by kernel_rfl) (by simp) fun i hi_ => ?_
      obtain rfl : i = 11 := by simpa using hi_
      refine wpOp_lit 11 (by kernel_rfl) fun o ho => ?_
      have hg : o.guard = none := by
        simp only [List.getElem?_toArray, List.getElem?_cons_succ, List.getElem?_cons_zero, Option.some.injEq] at ho
        rw [← ho]
      have hd : o.dst = none := by
        simp only [List.getElem?_toArray, List.getElem?_cons_succ, List.getElem?_cons_zero, Option.some.injEq] at ho
        rw [← ho]
      have hp : o.op = .store 23 (.tmp 4) (.tmp 12) := by
        simp only [List.getElem?_toArray, List.getElem?_cons_succ, List.getElem?_cons_zero, Option.some.injEq] at ho
        rw [← ho]
      clear ho
      refine ⟨hg, ?_⟩
      refine wp_store_mid 23 (.tmp 4) (.tmp 12) hp (g + 1) 0 (cs8 us) ?_ ?_ ?_ ?_ O2.out ?_
      · simp [Act.eval, Act.put, hA50]
      · simp [Act.eval, Act.put, hA50]
      · rw [S2.out]; exact there_of ((heap_setCells_ne (by omega) _ _ _).trans f2)
      · rw [S2.out]; kernel_rfl
      rw [hd, put_none]
      clear hd hp hg
      refine ⟨(heap_setCells_ne (by omega) _ _ _).trans ((heap_setCells_ne (by omega) _ _ _).trans SUU), ?_⟩
      refine wpAnyH_take (i := 12) (v := .int .u8 (lo : Nat)) rfl (by kernel_rfl) (by kernel_rfl) (by kernel_rfl) (fun c a u h => hQ' c _ _ _ u h) (y_simple 14 (.int .u8 (lo : Nat)) rfl (by simp [Act.put, hA50]) fun a' h u hu => by simp [execOp, Act.eval, h]) ((heap_setCells_ne (by omega) _ _ _).trans ((heap_setCells_ne (by omega) _ _ _).trans SUU)) ?_
      refine wpAnyH_take (i := 13) (v := .int .u8 (hi : Nat)) rfl (by kernel_rfl) (by kernel_rfl) (by kernel_rfl) (fun c a u h => hQ' c _ _ _ u h) (y_simple 16 (.int .u8 (hi : Nat)) rfl (by simp [Act.put, hA50]) fun a' h u hu => by simp [execOp, Act.eval, h]) ((heap_setCells_ne (by omega) _ _ _).trans ((heap_setCells_ne (by omega) _ _ _).trans SUU)) ?_
      refine wpAnyH_done (by kernel_rfl) ?_ _
      exact K'.out (g) (g + 1) _ ⟨(heap_setCells_ne (by omega) _ _ _).trans (heap_setCells_all (cs8 ks) f1 (by rw [S1.out]; rfl)), heap_setCells_all (cs8 us) ((heap_setCells_ne (by omega) _ _ _).trans f2) (by rw [S2.out]; rfl), below_setCells (by omega) _ _ _ (below_setCells (by omega) _ _ _ BUU), by omega, by omega, by omega⟩
    · refine wpOp_of (i := 9) rfl rfl ?_
      refine wp_value (v := .pointer (some ⟨U.heap.size, 0, none⟩)) (w' := U.alloc (Obj.cells #[.int .u8 0, .int .u8 0, .int .u8 0, .int .u8 0, .int .u8 0, .int .u8 0, .int .u8 0, .int .u8 0, .int .u8 0, .int .u8 0, .int .u8 0, .int .u8 0, .int .u8 0, .int .u8 0, .int .u8 0, .int .u8 0, .int .u8 0, .int .u8 0, .int .u8 0, .int .u8 0, .int .u8 0, .int .u8 0, .int .u8 0, .int .u8 0, .int .u8 0, .int .u8 0, .int .u8 0, .int .u8 0, .int .u8 0, .int .u8 0, .int .u8 0, .int .u8 0] 23)) (by simp [execOp, go_sem] <;> rfl) ?_
      refine ⟨(heap_old _ _ lU).trans SU, ?_⟩
      refine wpAnyH_all (rs := [8]) (by kernel_rfl) (by simp) fun i hi_ => ?_
      obtain rfl : i = 8 := by simpa using hi_
      refine wpOp_of (i := 8) rfl rfl ?_
      refine wp_value (v := .pointer (some ⟨(U.heap.size + 1), 0, none⟩)) (w' := (U.alloc (Obj.cells #[.int .u8 0, .int .u8 0, .int .u8 0, .int .u8 0, .int .u8 0, .int .u8 0, .int .u8 0, .int .u8 0, .int .u8 0, .int .u8 0, .int .u8 0, .int .u8 0, .int .u8 0, .int .u8 0, .int .u8 0, .int .u8 0, .int .u8 0, .int .u8 0, .int .u8 0, .int .u8 0, .int .u8 0, .int .u8 0, .int .u8 0, .int .u8 0, .int .u8 0, .int .u8 0, .int .u8 0, .int .u8 0, .int .u8 0, .int .u8 0, .int .u8 0, .int .u8 0] 23)).alloc (Obj.cells #[.int .u8 0, .int .u8 0, .int .u8 0, .int .u8 0, .int .u8 0, .int .u8 0, .int .u8 0, .int .u8 0, .int .u8 0, .int .u8 0, .int .u8 0, .int .u8 0, .int .u8 0, .int .u8 0, .int .u8 0, .int .u8 0, .int .u8 0, .int .u8 0, .int .u8 0, .int .u8 0, .int .u8 0, .int .u8 0, .int .u8 0, .int .u8 0, .int .u8 0, .int .u8 0, .int .u8 0, .int .u8 0, .int .u8 0, .int .u8 0, .int .u8 0, .int .u8 0] 23)) (by simp [execOp, go_sem] <;> rfl) ?_
      refine ⟨(heap_old _ _ (by rw [size_alloc]; omega)).trans ((heap_old _ _ lU).trans SU), ?_⟩
      generalize hUU : (U.alloc (Obj.cells #[.int .u8 0, .int .u8 0, .int .u8 0, .int .u8 0, .int .u8 0, .int .u8 0, .int .u8 0, .int .u8 0, .int .u8 0, .int .u8 0, .int .u8 0, .int .u8 0, .int .u8 0, .int .u8 0, .int .u8 0, .int .u8 0, .int .u8 0, .int .u8 0, .int .u8 0, .int .u8 0, .int .u8 0, .int .u8 0, .int .u8 0, .int .u8 0, .int .u8 0, .int .u8 0, .int .u8 0, .int .u8 0, .int .u8 0, .int .u8 0, .int .u8 0, .int .u8 0] 23)).alloc (Obj.cells #[.int .u8 0, .int .u8 0, .int .u8 0, .int .u8 0, .int .u8 0, .int .u8 0, .int .u8 0, .int .u8 0, .int .u8 0, .int .u8 0, .int .u8 0, .int .u8 0, .int .u8 0, .int .u8 0, .int .u8 0, .int .u8 0, .int .u8 0, .int .u8 0, .int .u8 0, .int .u8 0, .int .u8 0, .int .u8 0, .int .u8 0, .int .u8 0, .int .u8 0, .int .u8 0, .int .u8 0, .int .u8 0, .int .u8 0, .int .u8 0, .int .u8 0, .int .u8 0] 23) = UU
      have f1 : UU.heap[U.heap.size]? = some (.cells #[.int .u8 0, .int .u8 0, .int .u8 0, .int .u8 0, .int .u8 0, .int .u8 0, .int .u8 0, .int .u8 0, .int .u8 0, .int .u8 0, .int .u8 0, .int .u8 0, .int .u8 0, .int .u8 0, .int .u8 0, .int .u8 0, .int .u8 0, .int .u8 0, .int .u8 0, .int .u8 0, .int .u8 0, .int .u8 0, .int .u8 0, .int .u8 0, .int .u8 0, .int .u8 0, .int .u8 0, .int .u8 0, .int .u8 0, .int .u8 0, .int .u8 0, .int .u8 0] 23) := by rw [← hUU]; exact (heap_old _ _ (by rw [size_alloc]; omega)).trans (heap_new _ _)
      have f2 : UU.heap[U.heap.size + 1]? = some (.cells #[.int .u8 0, .int .u8 0, .int .u8 0, .int .u8 0, .int .u8 0, .int .u8 0, .int .u8 0, .int .u8 0, .int .u8 0, .int .u8 0, .int .u8 0, .int .u8 0, .int .u8 0, .int .u8 0, .int .u8 0, .int .u8 0, .int .u8 0, .int .u8 0, .int .u8 0, .int .u8 0, .int .u8 0, .int .u8 0, .int .u8 0, .int .u8 0, .int .u8 0, .int .u8 0, .int .u8 0, .int .u8 0, .int .u8 0, .int .u8 0, .int .u8 0, .int .u8 0] 23) := by rw [← hUU]; exact heap_new' _ _ (size_alloc _ _).symm
      have SUU : UU.heap[w.heap.size]? = some (.cells cp 36) := by rw [← hUU]; exact (heap_old _ _ (by rw [size_alloc]; omega)).trans ((heap_old _ _ lU).trans SU)
      have BUU : Below w.heap.size w UU := by rw [← hUU]; exact (BU.alloc BU.size _).alloc (by rw [size_alloc]; have := BU.size; omega) _
      clear hUU
      generalize U.heap.size = g at *
      refine wpAnyH_all (rs := [10]) (by kernel_rfl) (by simp) fun i hi_ => ?_
      obtain rfl : i = 10 := by simpa using hi_
      refine wpOp_lit 10 (by kernel_rfl) fun o ho => ?_
      have hg : o.guard = none := by
        simp only [List.getElem?_toArray, List.getElem?_cons_succ, List.getElem?_cons_zero, Option.some.injEq] at ho
        rw [← ho]
      have hd : o.dst = none := by
        simp only [List.getElem?_toArray, List.getElem?_cons_succ, List.getElem?_cons_zero, Option.some.injEq] at ho
        rw [← ho]
      have hp : o.op = .store 23 (.tmp 3) (.tmp 10) := by
        simp only [List.getElem?_toArray, List.getElem?_cons_succ, List.getElem?_cons_zero, Option.some.injEq] at ho
        rw [← ho]
      clear ho
      refine ⟨hg, ?_⟩
      refine wp_store_mid 23 (.tmp 3) (.tmp 10) hp (g + 1) 0 (cs8 ks) ?_ ?_ ?_ ?_ O1.out ?_
      · simp [Act.eval, Act.put, hA50]
      · simp [Act.eval, Act.put, hA50]
      · rw [S1.out]; exact there_of f2
      · rw [S1.out]; kernel_rfl
      rw [hd, put_none]
      clear hd hp hg
      refine ⟨(heap_setCells_ne (by omega) _ _ _).trans SUU, ?_⟩
      refine wpAnyH_all (rs := [11]) (by kernel_rfl) (by simp) fun i hi_ => ?_
      obtain rfl : i = 11 := by simpa using hi_
      refine wpOp_lit 11 (by kernel_rfl) fun o ho => ?_
      have hg : o.guard = none := by
        simp only [List.getElem?_toArray, List.getElem?_cons_succ, List.getElem?_cons_zero, Option.some.injEq] at ho
        rw [← ho]
      have hd : o.dst = none := by
        simp only [List.getElem?_toArray, List.getElem?_cons_succ, List.getElem?_cons_zero, Option.some.injEq] at ho
        rw [← ho]
      have hp : o.op = .store 23 (.tmp 4) (.tmp 12) := by
        simp only [List.getElem?_toArray, List.getElem?_cons_succ, List.getElem?_cons_zero, Option.some.injEq] at ho
        rw [← ho]
      clear ho
      refine ⟨hg, ?_⟩
      refine wp_store_mid 23 (.tmp 4) (.tmp 12) hp (g) 0 (cs8 us) ?_ ?_ ?_ ?_ O2.out ?_
      · simp [Act.eval, Act.put, hA50]
      · simp [Act.eval, Act.put, hA50]
      · rw [S2.out]; exact there_of ((heap_setCells_ne (by omega) _ _ _).trans f1)
      · rw [S2.out]; kernel_rfl
      rw [hd, put_none]
      clear hd hp hg
      refine ⟨(heap_setCells_ne (by omega) _ _ _).trans ((heap_setCells_ne (by omega) _ _ _).trans SUU), ?_⟩
      refine wpAnyH_take (i := 12) (v := .int .u8 (lo : Nat)) rfl (by kernel_rfl) (by kernel_rfl) (by kernel_rfl) (fun c a u h => hQ' c _ _ _ u h) (y_simple 14 (.int .u8 (lo : Nat)) rfl (by simp [Act.put, hA50]) fun a' h u hu => by simp [execOp, Act.eval, h]) ((heap_setCells_ne (by omega) _ _ _).trans ((heap_setCells_ne (by omega) _ _ _).trans SUU)) ?_
      refine wpAnyH_take (i := 13) (v := .int .u8 (hi : Nat)) rfl (by kernel_rfl) (by kernel_rfl) (by kernel_rfl) (fun c a u h => hQ' c _ _ _ u h) (y_simple 16 (.int .u8 (hi : Nat)) rfl (by simp [Act.put, hA50]) fun a' h u hu => by simp [execOp, Act.eval, h]) ((heap_setCells_ne (by omega) _ _ _).trans ((heap_setCells_ne (by omega) _ _ _).trans SUU)) ?_
      refine wpAnyH_done (by kernel_rfl) ?_ _
      exact (congrArg (fun z : Act => Q' .normal ((z.put (some 5) (.int .u8 (lo : Nat))).put (some 6) (.int .u8 (hi : Nat))) _) (Act.put_comm _ _ _ (fun d e => by cases e; simp))).mpr (K'.out (g + 1) (g) _ ⟨(heap_setCells_ne (by omega) _ _ _).trans (heap_setCells_all (cs8 ks) f2 (by rw [S1.out]; rfl)), heap_setCells_all (cs8 us) ((heap_setCells_ne (by omega) _ _ _).trans f1) (by rw [S2.out]; rfl), below_setCells (by omega) _ _ _ (below_setCells (by omega) _ _ _ BUU), by omega, by omega, by omega⟩)
  · rintro g1 g2 W ⟨P1, P2, B0, hn, l1, l2⟩
    have HM : Hid (Mem w.heap.size w W [(g2, .cells (cs8 us) 23), (g1, .cells (cs8 ks) 23)]) := Mem.two B0 P1 P2 hn l1 l2
    clear P0' lW P1 P2 B0 hn l1 l2 CN CH C1 C2
    simp [Act.put]
    go_upto_region 2 with fail
    refine wp_region_list ?_
    refine wpList_ok (base := 0) (v := .agg (cs8 ks)) (ok_load rfl rfl rfl ((HM.out).get 1 rfl) Try.underlying23 rfl (by kernel_rfl) ((cs8_size bk.1))) fun u1 hb => ?_
    have HM2 : Hid (Mem w.heap.size w u1 [(g2, .cells (cs8 us) 23), (g1, .cells (cs8 ks) 23)]) := (HM.out).keep hb
    clear hb HM
    simp only [Act.put, List.setIfInBounds_toArray, List.set_cons_succ, List.set_cons_zero]
    refine wpList_alloc (o := .cells #[.int .u8 0, .int .u8 0, .int .u8 0, .int .u8 0, .int .u8 0, .int .u8 0, .int .u8 0, .int .u8 0, .int .u8 0, .int .u8 0, .int .u8 0, .int .u8 0, .int .u8 0, .int .u8 0, .int .u8 0, .int .u8 0, .int .u8 0, .int .u8 0, .int .u8 0, .int .u8 0, .int .u8 0, .int .u8 0, .int .u8 0, .int .u8 0, .int .u8 0, .int .u8 0, .int .u8 0, .int .u8 0, .int .u8 0, .int .u8 0, .int .u8 0, .int .u8 0] 23) (v := .pointer (some ⟨u1.heap.size, 0, none⟩)) rfl (by simp [execOp, go_sem]) ?_
    simp only [Act.put, List.setIfInBounds_toArray, List.set_cons_succ, List.set_cons_zero]
    have HM5 : Hid (Mem w.heap.size w _ [(u1.heap.size, .cells #[.int .u8 0, .int .u8 0, .int .u8 0, .int .u8 0, .int .u8 0, .int .u8 0, .int .u8 0, .int .u8 0, .int .u8 0, .int .u8 0, .int .u8 0, .int .u8 0, .int .u8 0, .int .u8 0, .int .u8 0, .int .u8 0, .int .u8 0, .int .u8 0, .int .u8 0, .int .u8 0, .int .u8 0, .int .u8 0, .int .u8 0, .int .u8 0, .int .u8 0, .int .u8 0, .int .u8 0, .int .u8 0, .int .u8 0, .int .u8 0, .int .u8 0, .int .u8 0] 23), (g2, .cells (cs8 us) 23), (g1, .cells (cs8 ks) 23)]) := (HM2.out).alloc (.cells #[.int .u8 0, .int .u8 0, .int .u8 0, .int .u8 0, .int .u8 0, .int .u8 0, .int .u8 0, .int .u8 0, .int .u8 0, .int .u8 0, .int .u8 0, .int .u8 0, .int .u8 0, .int .u8 0, .int .u8 0, .int .u8 0, .int .u8 0, .int .u8 0, .int .u8 0, .int .u8 0, .int .u8 0, .int .u8 0, .int .u8 0, .int .u8 0, .int .u8 0, .int .u8 0, .int .u8 0, .int .u8 0, .int .u8 0, .int .u8 0, .int .u8 0, .int .u8 0] 23)
    clear HM2
    generalize u1.alloc (.cells #[.int .u8 0, .int .u8 0, .int .u8 0, .int .u8 0, .int .u8 0, .int .u8 0, .int .u8 0, .int .u8 0, .int .u8 0, .int .u8 0, .int .u8 0, .int .u8 0, .int .u8 0, .int .u8 0, .int .u8 0, .int .u8 0, .int .u8 0, .int .u8 0, .int .u8 0, .int .u8 0, .int .u8 0, .int .u8 0, .int .u8 0, .int .u8 0, .int .u8 0, .int .u8 0, .int .u8 0, .int .u8 0, .int .u8 0, .int .u8 0, .int .u8 0, .int .u8 0] 23) = V3 at *
    generalize u1.heap.size = g6 at *
    refine wpList_store_blk (b := g6) rfl rfl rfl rfl ((HM5.out).get 0 rfl) (by kernel_rfl) (rfl) ((cs8_size bk.1)) (cs8_one _) ?_
    simp only [Act.put]
    generalize hV8 : World.setCells V3 (g6) 0 _ = V7
    have HM9 : Hid (Mem w.heap.size w V7 [(g6, .cells (cs8 ks) 23), (g2, .cells (cs8 us) 23), (g1, .cells (cs8 ks) 23)]) := (by rw [← hV8]; exact (HM5.out).store 0 (cs8 ks) rfl ((rfl).trans ((cs8_size bk.1)).symm) : Mem w.heap.size w V7 [(g6, .cells (cs8 ks) 23), (g2, .cells (cs8 us) 23), (g1, .cells (cs8 ks) 23)])
    clear hV8 HM5
    have aq := (cell_of ((HM9.out).get 0 rfl) 0).trans (H0.out)
    have af := frozen_of ((HM9.out).get 0 rfl) 0
    go_upto_region 3 with fail
    go_upto_region 4 with fail
    generalize ah : World.setCell V7 _ _ = aV
    have aM : Hid (Mem w.heap.size w aV [(g6, .cells ((cs8 ks).setIfInBounds 0 (.int .u8 x0)) 23), (g2, .cells (cs8 us) 23), (g1, .cells (cs8 ks) 23)]) := (by rw [← ah, ← Q0.out]; exact (HM9.out).put 0 0 _ rfl : Mem w.heap.size w aV [(g6, .cells ((cs8 ks).setIfInBounds 0 (.int .u8 x0)) 23), (g2, .cells (cs8 us) 23), (g1, .cells (cs8 ks) 23)])
    clear ah aq af HM9
    have bq := (cell_of ((aM.out).get 0 rfl) 31).trans ((Array.getElem?_setIfInBounds_ne (by decide)).trans H31.out)
    have bf := frozen_of ((aM.out).get 0 rfl) 31
    go_upto_region 5 with fail
    generalize bh : World.setCell aV _ _ = bV
    have bM : Hid (Mem w.heap.size w bV [(g6, .cells (cs8 kl) 23), (g2, .cells (cs8 us) 23), (g1, .cells (cs8 ks) 23)]) := (by rw [← bh, ← E1.out, ← Q31.out]; exact (aM.out).put 0 31 _ rfl : Mem w.heap.size w bV [(g6, .cells (cs8 kl) 23), (g2, .cells (cs8 us) 23), (g1, .cells (cs8 ks) 23)])
    clear bh bq bf aM
    refine wp_region_list ?_
    refine wpList_ok (base := 0) (v := .agg (cs8 us)) (ok_load rfl rfl rfl ((bM.out).get 1 rfl) Try.underlying23 rfl (by kernel_rfl) ((cs8_size bu.1))) fun u10 hb => ?_
    have HM11 : Hid (Mem w.heap.size w u10 [(g6, .cells (cs8 kl) 23), (g2, .cells (cs8 us) 23), (g1, .cells (cs8 ks) 23)]) := (bM.out).keep hb
    clear hb bM
    simp only [Act.put, List.setIfInBounds_toArray, List.set_cons_succ, List.set_cons_zero]
    refine wpList_alloc (o := .cells #[.int .u8 0, .int .u8 0, .int .u8 0, .int .u8 0, .int .u8 0, .int .u8 0, .int .u8 0, .int .u8 0, .int .u8 0, .int .u8 0, .int .u8 0, .int .u8 0, .int .u8 0, .int .u8 0, .int .u8 0, .int .u8 0, .int .u8 0, .int .u8 0, .int .u8 0, .int .u8 0, .int .u8 0, .int .u8 0, .int .u8 0, .int .u8 0, .int .u8 0, .int .u8 0, .int .u8 0, .int .u8 0, .int .u8 0, .int .u8 0, .int .u8 0, .int .u8 0] 23) (v := .pointer (some ⟨u10.heap.size, 0, none⟩)) rfl (by simp [execOp, go_sem]) ?_
    simp only [Act.put, List.setIfInBounds_toArray, List.set_cons_succ, List.set_cons_zero]
    have HM14 : Hid (Mem w.heap.size w _ [(u10.heap.size, .cells #[.int .u8 0, .int .u8 0, .int .u8 0, .int .u8 0, .int .u8 0, .int .u8 0, .int .u8 0, .int .u8 0, .int .u8 0, .int .u8 0, .int .u8 0, .int .u8 0, .int .u8 0, .int .u8 0, .int .u8 0, .int .u8 0, .int .u8 0, .int .u8 0, .int .u8 0, .int .u8 0, .int .u8 0, .int .u8 0, .int .u8 0, .int .u8 0, .int .u8 0, .int .u8 0, .int .u8 0, .int .u8 0, .int .u8 0, .int .u8 0, .int .u8 0, .int .u8 0] 23), (g6, .cells (cs8 kl) 23), (g2, .cells (cs8 us) 23), (g1, .cells (cs8 ks) 23)]) := (HM11.out).alloc (.cells #[.int .u8 0, .int .u8 0, .int .u8 0, .int .u8 0, .int .u8 0, .int .u8 0, .int .u8 0, .int .u8 0, .int .u8 0, .int .u8 0, .int .u8 0, .int .u8 0, .int .u8 0, .int .u8 0, .int .u8 0, .int .u8 0, .int .u8 0, .int .u8 0, .int .u8 0, .int .u8 0, .int .u8 0, .int .u8 0, .int .u8 0, .int .u8 0, .int .u8 0, .int .u8 0, .int .u8 0, .int .u8 0, .int .u8 0, .int .u8 0, .int .u8 0, .int .u8 0] 23)
    clear HM11
    generalize u10.alloc (.cells #[.int .u8 0, .int .u8 0, .int .u8 0, .int .u8 0, .int .u8 0, .int .u8 0, .int .u8 0, .int .u8 0, .int .u8 0, .int .u8 0, .int .u8 0, .int .u8 0, .int .u8 0, .int .u8 0, .int .u8 0, .int .u8 0, .int .u8 0, .int .u8 0, .int .u8 0, .int .u8 0, .int .u8 0, .int .u8 0, .int .u8 0, .int .u8 0, .int .u8 0, .int .u8 0, .int .u8 0, .int .u8 0, .int .u8 0, .int .u8 0, .int .u8 0, .int .u8 0] 23) = V12 at *
    generalize u10.heap.size = g15 at *
    refine wpList_store_blk (b := g15) rfl rfl rfl rfl ((HM14.out).get 0 rfl) (by kernel_rfl) (rfl) ((cs8_size bu.1)) (cs8_one _) ?_
    simp only [Act.put]
    generalize hV17 : World.setCells V12 (g15) 0 _ = V16
    have HM18 : Hid (Mem w.heap.size w V16 [(g15, .cells (cs8 us) 23), (g6, .cells (cs8 kl) 23), (g2, .cells (cs8 us) 23), (g1, .cells (cs8 ks) 23)]) := (by rw [← hV17]; exact (HM14.out).store 0 (cs8 us) rfl ((rfl).trans ((cs8_size bu.1)).symm) : Mem w.heap.size w V16 [(g15, .cells (cs8 us) 23), (g6, .cells (cs8 kl) 23), (g2, .cells (cs8 us) 23), (g1, .cells (cs8 ks) 23)])
    clear hV17 HM14
    have dq := (cell_of ((HM18.out).get 0 rfl) 31).trans (G31.out)
    have df := frozen_of ((HM18.out).get 0 rfl) 31
    go_upto_region 6 with fail
    go_upto_region 7 with fail
    generalize dh : World.setCell V16 _ _ = dV
    have dM : Hid (Mem w.heap.size w dV [(g15, .cells (cs8 uv) 23), (g6, .cells (cs8 kl) 23), (g2, .cells (cs8 us) 23), (g1, .cells (cs8 ks) 23)]) := (by rw [← dh, ← E2.out, ← R31.out]; exact (HM18.out).put 0 31 _ rfl : Mem w.heap.size w dV [(g15, .cells (cs8 uv) 23), (g6, .cells (cs8 kl) 23), (g2, .cells (cs8 us) 23), (g1, .cells (cs8 ks) 23)])
    clear dh dq df HM18
    refine region_list dV.heap.size (C := fun w' => Below dV.heap.size dV w') [.inl (.agg (cs8 ks)), .inl (.agg (cs8 us)), .inl (.agg (cs8 (keyL r))), .inl (.agg (cs8 kl)), .inl (.agg (cs8 uv)), .inl (.agg (cs8 (keyL r))), .inl (.bool true), .inl (.bool true), .inl (.bool true), .inl (.bool true), .inl (.bool true)] [] (by kernel_rfl) (by kernel_rfl) ⟨rfl, rfl, rfl, Nat.le_refl _, fun _ _ => rfl⟩
      (fun w1 w2 h1 h2 => h1.trans (h2.mono h1.size)) (fun i h => by simp at h) ?_ ?_
    · refine ⟨?_, ?_, ?_, ?_, ?_, ?_, ?_, ?_, ?_, ?_, ?_, trivial⟩
      · intro s v hC hk hd
        have h0 : s.tmps[3]? = some (.pointer (some ⟨g1, 0, none⟩)) := hk 3 (by kernel_rfl)
        exact ok_load rfl rfl h0 (((dM.out).keep hC).get 3 rfl) Try.underlying23 rfl (by kernel_rfl) ((cs8_size bk.1))
      · intro s v hC hk hd
        have h0 : s.tmps[4]? = some (.pointer (some ⟨g2, 0, none⟩)) := hk 4 (by kernel_rfl)
        exact ok_load rfl rfl h0 (((dM.out).keep hC).get 2 rfl) Try.underlying23 rfl (by kernel_rfl) ((cs8_size bu.1))
      · intro s v hC hk hd
        have h0 : s.tmps[40]? = some (.agg (cs8 ks)) := hd 0 (by kernel_rfl)
        have h1 : s.tmps[41]? = some (.agg (cs8 us)) := hd 1 (by kernel_rfl)
        exact ok_call rfl (by simp [Act.eval, h0, h1, go_sem]) (e1 ▸ cmul_any ks us bk bu v)
      · intro s v hC hk hd
        have h0 : s.tmps[7]? = some (.pointer (some ⟨g6, 0, none⟩)) := hk 7 (by kernel_rfl)
        exact ok_load rfl rfl h0 (((dM.out).keep hC).get 1 rfl) Try.underlying23 rfl (by kernel_rfl) ((cs8_size bl.1))
      · intro s v hC hk hd
        have h0 : s.tmps[8]? = some (.pointer (some ⟨g15, 0, none⟩)) := hk 8 (by kernel_rfl)
        exact ok_load rfl rfl h0 (((dM.out).keep hC).get 0 rfl) Try.underlying23 rfl (by kernel_rfl) ((cs8_size bv.1))
      · intro s v hC hk hd
        have h0 : s.tmps[43]? = some (.agg (cs8 kl)) := hd 3 (by kernel_rfl)
        have h1 : s.tmps[44]? = some (.agg (cs8 uv)) := hd 4 (by kernel_rfl)
        exact ok_call rfl (by simp [Act.eval, h0, h1, go_sem]) (e2 ▸ cmul_any kl uv bl bv v)
      · intro s v hC hk hd
        have h0 : s.tmps[42]? = some (.agg (cs8 (keyL r))) := hd 2 (by kernel_rfl)
        have h1 : s.tmps[45]? = some (.agg (cs8 (keyL r))) := hd 5 (by kernel_rfl)
        exact ok_eql_cs8 (keyL r) (keyL r) true rfl rfl rfl (keyL_len _) (keyL_len _) (key_self _) h0 h1
      · intro s v hC hk hd
        have h0 : s.tmps[46]? = some (.bool true) := hd 6 (by kernel_rfl)
        exact ok_value rfl (by simp [execOp, Act.eval, h0])
      · intro s v hC hk hd
        exact ok_call (wanted_of rfl rfl (hd 7 (by kernel_rfl))) (by simp [go_sem]) (wakes_any v)
      · intro s v hC hk hd
        have h0 : s.tmps[47]? = some (.bool true) := hd 7 (by kernel_rfl)
        have h1 : s.tmps[48]? = some (.bool true) := hd 8 (by kernel_rfl)
        exact ok_value rfl (by simp [execOp, Act.eval, h0, h1, go_sem])
      · intro s v hC hk hd
        have h0 : s.tmps[49]? = some (.bool true) := hd 9 (by kernel_rfl)
        exact ok_value rfl (by simp [execOp, Act.eval, h0])
    · intro nb wA19 hC hf hne
      have M20 := (dM.out).keep hC
      clear hf hne hC
      simp [valsOf, valOf, putAll, Act.put]
      have HM21 : Hid (Mem w.heap.size w wA19 [(g15, .cells (cs8 uv) 23), (g6, .cells (cs8 kl) 23), (g2, .cells (cs8 us) 23), (g1, .cells (cs8 ks) 23)]) := M20
      go_wp2_with fail
      go_ret
      exact ⟨rfl, (HM21.out).below⟩

end Go.Proofs.Ytfciodbgjljjhaa
