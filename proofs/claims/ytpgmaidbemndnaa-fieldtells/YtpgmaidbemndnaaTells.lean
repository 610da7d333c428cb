/- FieldTells: the walk. -/
import Derived.Test.YtpgmaidbemndnaaW8
import Derived.Test.YtpgmaidbemndnaaRef4
import Derived.Test.YtpgmaidbemndnaaRef5
import Derived.Test.YtpgmaidbemndnaaRef6
import Derived.Test.YtpgmaidbemndnaaRef9
import Derived.Test.YtpgmaidbemndnaaRef10
namespace Go.Proofs.Ytpgmaidbemndnaa
open Go.RowKit

/-- A row of a variable, read in its midst. -/
theorem ok_load_mid {base : Nat} {P : Program} {ops : Array Oper} {Q : Exit → Act → World → Prop} {o : Oper} {a : Act} {w : World} {t b off : Nat} {ty T : TypeId} {cs c : Array Value} {fr : Nat × Nat} {d : TypeDesc} {n : Nat} (hw : Region.wanted o (yielded ops a.tmps) = true)
    (ho : o.op = .load ty (.tmp t)) (ha : a.tmps[t]? = some (.pointer (some ⟨b, off, none⟩))) (h : w.heap[b]? = some (.cells cs T fr)) (hu : P.underlying ty = some d) (hd : d.isRow = true)
    (hi : (P.info? ty).map (·.size) = some n) (hc : ∀ j v, c[j]? = some v → cs[off + j]? = some v) (hn : c.size = n) (_ : True = True) : OpOk base P Q ops o (.inl (.agg c)) false a w := by
  refine ok_value hw ?_
  have e : a.eval (.tmp t) = .pointer (some ⟨b, off, none⟩) := by simp [Act.eval, ha]
  have e2 := run_loadAt_mid (P := P) w b off ty c.toList d (fun j v hv => by rw [cell_of h]; exact hc j v (by simpa using hv)) hu hd (by rw [hi]; simp [hn])
  simp only [execOp, ho, e, Sem.run_bind, e2, Result.andThen_ok, Sem.run_pure]
theorem ca_ints (n : Nat) (h : Nat → Nat) : ca n h = intCells .u64 ((List.range n).map fun i => ((h i : Nat) : Int)) := by simp [ca, intCells]
theorem dg_inj {x y : Nat} (hx : x < q256) (hy : y < q256) (h : ∀ j, j < 16 → dg x j = dg y j) : x = y := by
  have e := psum_congr 16 h
  rw [psum_dg, psum_dg, show (65536 : Nat) ^ 16 = q256 from rfl, Nat.mod_eq_of_lt hx, Nat.mod_eq_of_lt hy] at e
  exact e
/-- Two numbers as the document's answer lays them, compared. -/
theorem ok_eql_digits {base : Nat} {ops : Array Oper} {Q : Exit → Act → World → Prop} {o : Oper} {a : Act} {w : World} {x y : Nat} {t' : TypeId} {X Y : Nat} {r : Bool} (hw : Region.wanted o (yielded ops a.tmps) = true)
    (ho : o.op = .binOp .eql 33 (.tmp x) (.tmp y) t') (hx : a.tmps[x]? = some (.agg (ca 16 (dg X)))) (hy : a.tmps[y]? = some (.agg (ca 16 (dg Y)))) (hX : X < pN) (hY : Y < pN) (hr : (X == Y) = r) :
    OpOk base Try.prog Q ops o (.inl (.bool r)) false a w := by
  have e : (((List.range 16).map fun i => ((dg X i : Nat) : Int)) == ((List.range 16).map fun i => ((dg Y i : Nat) : Int))) = r := by
    rw [← hr]
    by_cases h : X = Y
    · subst h; simp
    · rw [beq_eq_false_iff_ne.2 h, beq_eq_false_iff_ne]
      intro hh
      refine h (dg_inj (Nat.lt_trans hX pN_q) (Nat.lt_trans hY pN_q) fun j hj => ?_)
      have := congrArg (fun l => l[j]?) hh
      simp [hj] at this
      omega
  rw [← e]
  exact ok_eql_ints 16 .u64 hw ho Try.underlying33 Try.underlying24 (by kernel_rfl) (by kernel_rfl) (by kernel_rfl) _ _ (by simp) (by simp) (by simp [Act.eval, hx, ca_ints]) (by simp [Act.eval, hy, ca_ints])

theorem wpOp_of {P : Program} {ops : Array Oper} {Q : Exit → Act → World → Prop} {K : Act → World → Prop} {a : Act} {w : World} {i : Nat} {o : Oper} (ho : ops[i]? = some o) (hg : o.guard = none) (h : o.wp P a w K Q) : wpOp P ops Q i K a w := by
  have hw : Region.wanted o (yielded ops a.tmps) = true := by simp [Region.wanted, hg]
  unfold wpOp
  simp only [ho, hw, if_true]
  exact .inl h
theorem put_none (a : Act) (v : Value) : a.put none v = a := rfl
theorem wpOp_lit {P : Program} {ops : Array Oper} {Q : Exit → Act → World → Prop} {K : Act → World → Prop} {a : Act} {w : World} (i : Nat) (hs : ops[i]?.isSome = true) (h : ∀ o, ops[i]? = some o → o.guard = none ∧ o.wp P a w K Q) : wpOp P ops Q i K a w := by
  obtain ⟨o, ho⟩ := Option.isSome_iff_exists.1 hs
  exact wpOp_of ho (h o ho).1 (h o ho).2
theorem wp_value {P : Program} {Q : Exit → Act → World → Prop} {K : Act → World → Prop} {a : Act} {w w' : World} {o : Oper} {v : Value} (hr : (execOp a.eval o).run P w = .ok (.value v) w') (h : K (a.put o.dst v) w') : o.wp P a w K Q := by
  unfold Oper.wp
  rw [hr]
  exact h
theorem y_simple {P : Program} {ops : Array Oper} {S : World → Prop} {o : Oper} {a : Act} {v : Value} (t : Nat) (x : Value) (hg : o.guard = none) (ha : a.tmps[t]? = some x)
    (hr : ∀ a' : Act, a'.tmps[t]? = some x → ∀ u, S u → (execOp a'.eval o).run P u = .ok (.value v) u) : YieldsIf P ops S o v a := .inl ⟨by simp [Region.wanted, hg], hr a ha⟩
theorem y_load_mid {P : Program} {ops : Array Oper} {S : World → Prop} {o : Oper} {a : Act} {t b off : Nat} {ty T : TypeId} {cs c : Array Value} {fr : Nat × Nat} {d : TypeDesc} {n : Nat} (hg : o.guard = none)
    (ho : o.op = .load ty (.tmp t)) (ha : a.tmps[t]? = some (.pointer (some ⟨b, off, none⟩))) (h : ∀ u, S u → u.heap[b]? = some (.cells cs T fr)) (hu : P.underlying ty = some d) (hd : d.isRow = true)
    (hi : (P.info? ty).map (·.size) = some n) (hc : ∀ j v, c[j]? = some v → cs[off + j]? = some v) (hn : c.size = n) : YieldsIf P ops S o (.agg c) a := by
  refine .inl ⟨by simp [Region.wanted, hg], fun u hS => ?_⟩
  have e : a.eval (.tmp t) = .pointer (some ⟨b, off, none⟩) := by simp [Act.eval, ha]
  have e2 := run_loadAt_mid (P := P) u b off ty c.toList d (fun j v hv => by rw [cell_of (h u hS)]; exact hc j v (by simpa using hv)) hu hd (by rw [hi]; simp [hn])
  simp only [execOp, ho, e, Sem.run_bind, e2, Result.andThen_ok, Sem.run_pure]
theorem two_new {P : Program} {ops : Array Oper} {Q : Exit → Act → World → Prop} {a0 : Act} {w0 : World} {id : Nat} (fin : Act → Nat → Nat → Act) (F : Nat → Nat → World → Prop) (p : Value) (N : Nat) (h1 : a0.tmps[1]? = some p) (hN : a0.tmps.size = N)
    (hQ : ∀ c a (d : Nat) v w, Q (.panic c) (a.put (some d) v) w → Q (.panic c) a w)
    (H : ∀ (Q' : Exit → Act → World → Prop) (A : Act), A.tmps[1]? = some p → A.tmps.size = N → (∀ c a (d : Nat) v w, Q' (.panic c) (a.put (some d) v) w → Q' (.panic c) a w) → (∀ g1 g2 V, F g1 g2 V → Q' .normal (fin A g1 g2) V) → (Code.region id ops true).wp P Q' A w0)
    (K : ∀ g1 g2 V, F g1 g2 V → Q .normal (fin a0 g1 g2) V) : (Code.region id ops true).wp P Q a0 w0 := H Q a0 h1 hN hQ K

set_option maxRecDepth 100000 in
set_option maxHeartbeats 8000000 in
theorem tells_raw (cp c1 c2 : Array Value) (X Y Z I n : Nat) (wh : Int) (r : Bool) (hn : n < 18446744073709551616) (hX : X < pN) (hY : Y < pN) (hZ : (if wh = 1 then Y else X) = Z) (hr : (X == Y) = r)
    (s1 : c1.size = 32) (s2 : c2.size = 32) (o1 : c1.all (·.oneCell') = true) (o2 : c2.all (·.oneCell') = true)
    (p1 : ∀ j v, c1[j]? = some v → cp[0 + j]? = some v) (p2 : ∀ j v, c2[j]? = some v → cp[32 + j]? = some v) (pn : cp[64]? = some (.int .u64 (n : Nat))) (ph : cp[65]? = some (.int .i64 wh))
    (k1 : ∀ w, Calls Try.prog 8 #[.agg c1] w fun e w' => e = .returned (E4 X) ∧ Below w.heap.size w w')
    (k2 : ∀ w, Calls Try.prog 8 #[.agg c2] w fun e w' => e = .returned (E4 Y) ∧ Below w.heap.size w w')
    (k3 : ∀ w, Calls Try.prog 9 #[.agg c1] w fun e w' => e = .returned (.agg (ca 16 (dg X))) ∧ Below w.heap.size w w')
    (k4 : ∀ w, Calls Try.prog 9 #[.agg c2] w fun e w' => e = .returned (.agg (ca 16 (dg Y))) ∧ Below w.heap.size w w')
    (k5 : ∀ w, Calls Try.prog 16 #[E4 X] w fun e w' => e = .returned (E4 I) ∧ Below w.heap.size w w')
    (k6 : ∀ w, Calls Try.prog 17 #[.agg (ca 16 (dg X))] w fun e w' => e = .returned (.agg (ca 16 (dg I))) ∧ Below w.heap.size w w')
    (k7 : ∀ w, Calls Try.prog 18 #[.int .i64 wh, E4 X, E4 Y] w fun e w' => e = .returned (E4 Z) ∧ Below w.heap.size w w') (w : World) :
    Calls Try.prog 3 #[.agg cp] w fun e w' => e = .returned (.bool true) ∧ Below w.heap.size w w' := by
  have K1 : Hid _ := k1
  have K2 : Hid _ := k2
  have K3 : Hid _ := k3
  have K4 : Hid _ := k4
  have KI : Hid _ := k5
  have KJ : Hid _ := k6
  have KP : Hid _ := k7
  have HN : Hid _ := hn
  have HX : Hid _ := hX
  have HY : Hid _ := hY
  have HZ : Hid _ := hZ
  have HR : Hid _ := hr
  have S1 : Hid _ := s1
  have S2 : Hid _ := s2
  have O1 : Hid _ := o1
  have O2 : Hid _ := o2
  have C1 : Hid _ := And.intro p1 s1
  have C2 : Hid _ := And.intro p2 s2
  have CN : Hid _ := pn
  have CH : Hid _ := ph
  clear k1 k2 k3 k4 k5 k6 k7 hn hX hY hZ hr s1 s2 o1 o2 p1 p2 pn ph
  go_enter Try.func3, Try.ntmps3
  go_upto_region 1 with fail
  generalize hW : w.alloc (Obj.cells cp 26) = W
  have P0' : W.heap[w.heap.size]? = some (.cells cp 26) := by rw [← hW]; exact heap_new _ _
  have B0 : Below w.heap.size w W := by rw [← hW]; exact (Below.refl _ _).alloc (Nat.le_refl _) _
  clear hW
  have lW := lt_of_block P0'
  refine two_new (fun a0 g1 g2 => (((((((((((a0.put (some 12) (.pointer (some ⟨w.heap.size, 0, none⟩))).put (some 13) (.agg c1)).put (some 14) (.pointer (some ⟨w.heap.size, 32, none⟩))).put (some 15) (.agg c2)).put (some 16) (.pointer (some ⟨w.heap.size, 64, none⟩))).put (some 17) (.int .u64 (n : Nat))).put (some 18) (.pointer (some ⟨w.heap.size, 65, none⟩))).put (some 19) (.int .i64 wh)).put (some 3) (.pointer (some ⟨g1, 0, none⟩))).put (some 4) (.pointer (some ⟨g2, 0, none⟩))).put (some 5) (.int .u64 (n : Nat))).put (some 6) (.int .i64 wh))
    (fun g1 g2 V => V.heap[g1]? = some (.cells c1 23) ∧ V.heap[g2]? = some (.cells c2 23) ∧ Below w.heap.size w V) (.pointer (some ⟨w.heap.size, 0, none⟩)) 88 rfl rfl (fun _ _ _ _ _ h => h) ?_ ?_
  · intro Q' A hA1 hA88 hQ' K
    refine wp_region_held (S := fun u => u.heap[w.heap.size]? = some (.cells cp 26)) (by kernel_rfl) ?_
    have SU : ({ W with drawn := W.drawn + 1 } : World).heap[w.heap.size]? = some (.cells cp 26) := P0'
    have BU : Below w.heap.size w ({ W with drawn := W.drawn + 1 } : World) := B0.trans ⟨rfl, rfl, rfl, Nat.le_refl _, fun _ _ => rfl⟩
    have lU : w.heap.size < ({ W with drawn := W.drawn + 1 } : World).heap.size := lW
    generalize ({ W with drawn := W.drawn + 1 } : World) = U at *
    have K' : Hid _ := K
    clear K P0' B0 lW
    obtain ⟨_, hA1'⟩ := Array.getElem?_eq_some_iff.1 hA1
    refine wpAnyH_take (i := 0) (v := .pointer (some ⟨w.heap.size, 0, none⟩)) (fuel := 13) rfl (by kernel_rfl) (by kernel_rfl) (by kernel_rfl) (fun c a u h => hQ' c _ _ _ u h) (y_simple 1 (.pointer (some ⟨w.heap.size, 0, none⟩)) rfl (by simp [hA88, hA1']) fun a' h u hu => by simp [execOp, Act.eval, h, go_sem]) SU ?_
    refine wpAnyH_take (i := 1) (v := .agg c1) (fuel := 12) rfl (by kernel_rfl) (by kernel_rfl) (by kernel_rfl) (fun c a u h => hQ' c _ _ _ u h) (y_load_mid (t := 12) rfl rfl (by simp [Act.put, hA88]) (fun _ h => h) Try.underlying23 rfl (by kernel_rfl) C1.out.1 C1.out.2) SU ?_
    refine wpAnyH_take (i := 2) (v := .pointer (some ⟨w.heap.size, 32, none⟩)) (fuel := 11) rfl (by kernel_rfl) (by kernel_rfl) (by kernel_rfl) (fun c a u h => hQ' c _ _ _ u h) (y_simple 1 (.pointer (some ⟨w.heap.size, 0, none⟩)) rfl (by simp [Act.put, hA88, hA1']) fun a' h u hu => by simp [execOp, Act.eval, h, go_sem]) SU ?_
    refine wpAnyH_take (i := 3) (v := .agg c2) (fuel := 10) rfl (by kernel_rfl) (by kernel_rfl) (by kernel_rfl) (fun c a u h => hQ' c _ _ _ u h) (y_load_mid (t := 14) rfl rfl (by simp [Act.put, hA88]) (fun _ h => h) Try.underlying23 rfl (by kernel_rfl) C2.out.1 C2.out.2) SU ?_
    refine wpAnyH_take (i := 4) (v := .pointer (some ⟨w.heap.size, 64, none⟩)) (fuel := 9) rfl (by kernel_rfl) (by kernel_rfl) (by kernel_rfl) (fun c a u h => hQ' c _ _ _ u h) (y_simple 1 (.pointer (some ⟨w.heap.size, 0, none⟩)) rfl (by simp [Act.put, hA88, hA1']) fun a' h u hu => by simp [execOp, Act.eval, h, go_sem]) SU ?_
    refine wpAnyH_take (i := 5) (v := .int .u64 (n : Nat)) (fuel := 8) rfl (by kernel_rfl) (by kernel_rfl) (by kernel_rfl) (fun c a u h => hQ' c _ _ _ u h) (y_simple 16 (.pointer (some ⟨w.heap.size, 64, none⟩)) rfl (by simp [Act.put, hA88]) fun a' h u hu => by
      have hc := (cell_of hu 64).trans CN.out
      simp [execOp, Act.eval, h, go_sem, hc]) SU ?_
    refine wpAnyH_take (i := 6) (v := .pointer (some ⟨w.heap.size, 65, none⟩)) (fuel := 7) rfl (by kernel_rfl) (by kernel_rfl) (by kernel_rfl) (fun c a u h => hQ' c _ _ _ u h) (y_simple 1 (.pointer (some ⟨w.heap.size, 0, none⟩)) rfl (by simp [Act.put, hA88, hA1']) fun a' h u hu => by simp [execOp, Act.eval, h, go_sem]) SU ?_
    refine wpAnyH_take (i := 7) (v := .int .i64 wh) (fuel := 6) rfl (by kernel_rfl) (by kernel_rfl) (by kernel_rfl) (fun c a u h => hQ' c _ _ _ u h) (y_simple 18 (.pointer (some ⟨w.heap.size, 65, none⟩)) rfl (by simp [Act.put, hA88]) fun a' h u hu => by
      have hc := (cell_of hu 65).trans CH.out
      simp [execOp, Act.eval, h, go_sem, hc]) SU ?_
    refine wpAnyH_all (fuel := 5) (rs := [8, 9]) (by kernel_rfl) (by simp) fun i hi => ?_
    obtain rfl | rfl : i = 8 ∨ i = 9 := by simpa using hi
    · refine wpOp_of (i := 8) rfl rfl ?_
      refine wp_value (v := .pointer (some ⟨U.heap.size, 0, none⟩)) (w' := U.alloc (Obj.cells #[.int .u8 0, .int .u8 0, .int .u8 0, .int .u8 0, .int .u8 0, .int .u8 0, .int .u8 0, .int .u8 0, .int .u8 0, .int .u8 0, .int .u8 0, .int .u8 0, .int .u8 0, .int .u8 0, .int .u8 0, .int .u8 0, .int .u8 0, .int .u8 0, .int .u8 0, .int .u8 0, .int .u8 0, .int .u8 0, .int .u8 0, .int .u8 0, .int .u8 0, .int .u8 0, .int .u8 0, .int .u8 0, .int .u8 0, .int .u8 0, .int .u8 0, .int .u8 0] 23)) (by simp [execOp, go_sem] <;> rfl) ?_
      refine ⟨(heap_old _ _ lU).trans SU, ?_⟩
      refine wpAnyH_all (rs := [9]) (by kernel_rfl) (by simp) fun i hi => ?_
      obtain rfl : i = 9 := by simpa using hi
      refine wpOp_of (i := 9) rfl rfl ?_
      refine wp_value (v := .pointer (some ⟨(U.heap.size + 1), 0, none⟩)) (w' := (U.alloc (Obj.cells #[.int .u8 0, .int .u8 0, .int .u8 0, .int .u8 0, .int .u8 0, .int .u8 0, .int .u8 0, .int .u8 0, .int .u8 0, .int .u8 0, .int .u8 0, .int .u8 0, .int .u8 0, .int .u8 0, .int .u8 0, .int .u8 0, .int .u8 0, .int .u8 0, .int .u8 0, .int .u8 0, .int .u8 0, .int .u8 0, .int .u8 0, .int .u8 0, .int .u8 0, .int .u8 0, .int .u8 0, .int .u8 0, .int .u8 0, .int .u8 0, .int .u8 0, .int .u8 0] 23)).alloc (Obj.cells #[.int .u8 0, .int .u8 0, .int .u8 0, .int .u8 0, .int .u8 0, .int .u8 0, .int .u8 0, .int .u8 0, .int .u8 0, .int .u8 0, .int .u8 0, .int .u8 0, .int .u8 0, .int .u8 0, .int .u8 0, .int .u8 0, .int .u8 0, .int .u8 0, .int .u8 0, .int .u8 0, .int .u8 0, .int .u8 0, .int .u8 0, .int .u8 0, .int .u8 0, .int .u8 0, .int .u8 0, .int .u8 0, .int .u8 0, .int .u8 0, .int .u8 0, .int .u8 0] 23)) (by simp [execOp, go_sem] <;> rfl) ?_
      refine ⟨(heap_old _ _ (by rw [size_alloc]; omega)).trans ((heap_old _ _ lU).trans SU), ?_⟩
      generalize hUU : (U.alloc (Obj.cells #[.int .u8 0, .int .u8 0, .int .u8 0, .int .u8 0, .int .u8 0, .int .u8 0, .int .u8 0, .int .u8 0, .int .u8 0, .int .u8 0, .int .u8 0, .int .u8 0, .int .u8 0, .int .u8 0, .int .u8 0, .int .u8 0, .int .u8 0, .int .u8 0, .int .u8 0, .int .u8 0, .int .u8 0, .int .u8 0, .int .u8 0, .int .u8 0, .int .u8 0, .int .u8 0, .int .u8 0, .int .u8 0, .int .u8 0, .int .u8 0, .int .u8 0, .int .u8 0] 23)).alloc (Obj.cells #[.int .u8 0, .int .u8 0, .int .u8 0, .int .u8 0, .int .u8 0, .int .u8 0, .int .u8 0, .int .u8 0, .int .u8 0, .int .u8 0, .int .u8 0, .int .u8 0, .int .u8 0, .int .u8 0, .int .u8 0, .int .u8 0, .int .u8 0, .int .u8 0, .int .u8 0, .int .u8 0, .int .u8 0, .int .u8 0, .int .u8 0, .int .u8 0, .int .u8 0, .int .u8 0, .int .u8 0, .int .u8 0, .int .u8 0, .int .u8 0, .int .u8 0, .int .u8 0] 23) = UU
      have f1 : UU.heap[U.heap.size]? = some (.cells #[.int .u8 0, .int .u8 0, .int .u8 0, .int .u8 0, .int .u8 0, .int .u8 0, .int .u8 0, .int .u8 0, .int .u8 0, .int .u8 0, .int .u8 0, .int .u8 0, .int .u8 0, .int .u8 0, .int .u8 0, .int .u8 0, .int .u8 0, .int .u8 0, .int .u8 0, .int .u8 0, .int .u8 0, .int .u8 0, .int .u8 0, .int .u8 0, .int .u8 0, .int .u8 0, .int .u8 0, .int .u8 0, .int .u8 0, .int .u8 0, .int .u8 0, .int .u8 0] 23) := by rw [← hUU]; exact (heap_old _ _ (by rw [size_alloc]; omega)).trans (heap_new _ _)
      have f2 : UU.heap[U.heap.size + 1]? = some (.cells #[.int .u8 0, .int .u8 0, .int .u8 0, .int .u8 0, .int .u8 0, .int .u8 0, .int .u8 0, .int .u8 0, .int .u8 0, .int .u8 0, .int .u8 0, .int .u8 0, .int .u8 0, .int .u8 0, .int .u8 0, .int .u8 0, .int .u8 0, .int .u8 0, .int .u8 0, .int .u8 0, .int .u8 0, .int .u8 0, .int .u8 0, .int .u8 0, .int .u8 0, .int .u8 0, .int .u8 0, .int .u8 0, .int .u8 0, .int .u8 0, .int .u8 0, .int .u8 0] 23) := by rw [← hUU]; exact heap_new' _ _ (size_alloc _ _).symm
      have SUU : UU.heap[w.heap.size]? = some (.cells cp 26) := by rw [← hUU]; exact (heap_old _ _ (by rw [size_alloc]; omega)).trans ((heap_old _ _ lU).trans SU)
      have BUU : Below w.heap.size w UU := by rw [← hUU]; exact (BU.alloc BU.size _).alloc (by rw [size_alloc]; have := BU.size; omega) _
      clear hUU
      generalize U.heap.size = g at *
      refine wpAnyH_all (rs := [10]) (by kernel_rfl) (by simp) fun i hi => ?_
      obtain rfl : i = 10 := by simpa using hi
      refine wpOp_lit 10 (by kernel_rfl) fun o ho => ?_
      have hg : o.guard = none := by
        simp only [List.getElem?_toArray, List.getElem?_cons_succ, List.getElem?_cons_zero, Option.some.injEq] at ho
        rw [← ho]
      have hd : o.dst = none := by
        simp only [List.getElem?_toArray, List.getElem?_cons_succ, List.getElem?_cons_zero, Option.some.injEq] at ho
        rw [← ho]
      have hp : o.op = .store 23 (.tmp 3) (.tmp 13) := by
        simp only [List.getElem?_toArray, List.getElem?_cons_succ, List.getElem?_cons_zero, Option.some.injEq] at ho
        rw [← ho]
      clear ho
      refine ⟨hg, ?_⟩
      refine wp_store_mid 23 (.tmp 3) (.tmp 13) hp (g) 0 c1 ?_ ?_ ?_ ?_ O1.out ?_
      · simp [Act.eval, Act.put, hA88]
      · simp [Act.eval, Act.put, hA88]
      · rw [S1.out]; exact there_of f1
      · rw [S1.out]; kernel_rfl
      rw [hd, put_none]
      clear hd hp hg
      refine ⟨(heap_setCells_ne (by omega) _ _ _).trans SUU, ?_⟩
      refine wpAnyH_all (rs := [11]) (by kernel_rfl) (by simp) fun i hi => ?_
      obtain rfl : i = 11 := by simpa using hi
      refine wpOp_lit 11 (by kernel_rfl) fun o ho => ?_
      have hg : o.guard = none := by
        simp only [List.getElem?_toArray, List.getElem?_cons_succ, List.getElem?_cons_zero, Option.some.injEq] at ho
        rw [← ho]
      have hd : o.dst = none := by
        simp only [List.getElem?_toArray, List.getElem?_cons_succ, List.getElem?_cons_zero, Option.some.injEq] at ho
        rw [← ho]
      have hp : o.op = .store 23 (.tmp 4) (.tmp 15) := by
        simp only [List.getElem?_toArray, List.getElem?_cons_succ, List.getElem?_cons_zero, Option.some.injEq] at ho
        rw [← ho]
      clear ho
      refine ⟨hg, ?_⟩
      refine wp_store_mid 23 (.tmp 4) (.tmp 15) hp (g + 1) 0 c2 ?_ ?_ ?_ ?_ O2.out ?_
      · simp [Act.eval, Act.put, hA88]
      · simp [Act.eval, Act.put, hA88]
      · rw [S2.out]; exact there_of ((heap_setCells_ne (by omega) _ _ _).trans f2)
      · rw [S2.out]; kernel_rfl
      rw [hd, put_none]
      clear hd hp hg
      refine ⟨(heap_setCells_ne (by omega) _ _ _).trans ((heap_setCells_ne (by omega) _ _ _).trans SUU), ?_⟩
      refine wpAnyH_take (i := 12) (v := .int .u64 (n : Nat)) rfl (by kernel_rfl) (by kernel_rfl) (by kernel_rfl) (fun c a u h => hQ' c _ _ _ u h) (y_simple 17 (.int .u64 (n : Nat)) rfl (by simp [Act.put, hA88]) fun a' h u hu => by simp [execOp, Act.eval, h]) ((heap_setCells_ne (by omega) _ _ _).trans ((heap_setCells_ne (by omega) _ _ _).trans SUU)) ?_
      refine wpAnyH_take (i := 13) (v := .int .i64 wh) rfl (by kernel_rfl) (by kernel_rfl) (by kernel_rfl) (fun c a u h => hQ' c _ _ _ u h) (y_simple 19 (.int .i64 wh) rfl (by simp [Act.put, hA88]) fun a' h u hu => by simp [execOp, Act.eval, h]) ((heap_setCells_ne (by omega) _ _ _).trans ((heap_setCells_ne (by omega) _ _ _).trans SUU)) ?_
      refine wpAnyH_done (by kernel_rfl) ?_ _
      exact K'.out (g) (g + 1) _ ⟨(heap_setCells_ne (by omega) _ _ _).trans (heap_setCells_all c1 f1 (by rw [S1.out]; rfl)), heap_setCells_all c2 ((heap_setCells_ne (by omega) _ _ _).trans f2) (by rw [S2.out]; rfl), below_setCells (by omega) _ _ _ (below_setCells (by omega) _ _ _ BUU)⟩
    · refine wpOp_of (i := 9) rfl rfl ?_
      refine wp_value (v := .pointer (some ⟨U.heap.size, 0, none⟩)) (w' := U.alloc (Obj.cells #[.int .u8 0, .int .u8 0, .int .u8 0, .int .u8 0, .int .u8 0, .int .u8 0, .int .u8 0, .int .u8 0, .int .u8 0, .int .u8 0, .int .u8 0, .int .u8 0, .int .u8 0, .int .u8 0, .int .u8 0, .int .u8 0, .int .u8 0, .int .u8 0, .int .u8 0, .int .u8 0, .int .u8 0, .int .u8 0, .int .u8 0, .int .u8 0, .int .u8 0, .int .u8 0, .int .u8 0, .int .u8 0, .int .u8 0, .int .u8 0, .int .u8 0, .int .u8 0] 23)) (by simp [execOp, go_sem] <;> rfl) ?_
      refine ⟨(heap_old _ _ lU).trans SU, ?_⟩
      refine wpAnyH_all (rs := [8]) (by kernel_rfl) (by simp) fun i hi => ?_
      obtain rfl : i = 8 := by simpa using hi
      refine wpOp_of (i := 8) rfl rfl ?_
      refine wp_value (v := .pointer (some ⟨(U.heap.size + 1), 0, none⟩)) (w' := (U.alloc (Obj.cells #[.int .u8 0, .int .u8 0, .int .u8 0, .int .u8 0, .int .u8 0, .int .u8 0, .int .u8 0, .int .u8 0, .int .u8 0, .int .u8 0, .int .u8 0, .int .u8 0, .int .u8 0, .int .u8 0, .int .u8 0, .int .u8 0, .int .u8 0, .int .u8 0, .int .u8 0, .int .u8 0, .int .u8 0, .int .u8 0, .int .u8 0, .int .u8 0, .int .u8 0, .int .u8 0, .int .u8 0, .int .u8 0, .int .u8 0, .int .u8 0, .int .u8 0, .int .u8 0] 23)).alloc (Obj.cells #[.int .u8 0, .int .u8 0, .int .u8 0, .int .u8 0, .int .u8 0, .int .u8 0, .int .u8 0, .int .u8 0, .int .u8 0, .int .u8 0, .int .u8 0, .int .u8 0, .int .u8 0, .int .u8 0, .int .u8 0, .int .u8 0, .int .u8 0, .int .u8 0, .int .u8 0, .int .u8 0, .int .u8 0, .int .u8 0, .int .u8 0, .int .u8 0, .int .u8 0, .int .u8 0, .int .u8 0, .int .u8 0, .int .u8 0, .int .u8 0, .int .u8 0, .int .u8 0] 23)) (by simp [execOp, go_sem] <;> rfl) ?_
      refine ⟨(heap_old _ _ (by rw [size_alloc]; omega)).trans ((heap_old _ _ lU).trans SU), ?_⟩
      generalize hUU : (U.alloc (Obj.cells #[.int .u8 0, .int .u8 0, .int .u8 0, .int .u8 0, .int .u8 0, .int .u8 0, .int .u8 0, .int .u8 0, .int .u8 0, .int .u8 0, .int .u8 0, .int .u8 0, .int .u8 0, .int .u8 0, .int .u8 0, .int .u8 0, .int .u8 0, .int .u8 0, .int .u8 0, .int .u8 0, .int .u8 0, .int .u8 0, .int .u8 0, .int .u8 0, .int .u8 0, .int .u8 0, .int .u8 0, .int .u8 0, .int .u8 0, .int .u8 0, .int .u8 0, .int .u8 0] 23)).alloc (Obj.cells #[.int .u8 0, .int .u8 0, .int .u8 0, .int .u8 0, .int .u8 0, .int .u8 0, .int .u8 0, .int .u8 0, .int .u8 0, .int .u8 0, .int .u8 0, .int .u8 0, .int .u8 0, .int .u8 0, .int .u8 0, .int .u8 0, .int .u8 0, .int .u8 0, .int .u8 0, .int .u8 0, .int .u8 0, .int .u8 0, .int .u8 0, .int .u8 0, .int .u8 0, .int .u8 0, .int .u8 0, .int .u8 0, .int .u8 0, .int .u8 0, .int .u8 0, .int .u8 0] 23) = UU
      have f1 : UU.heap[U.heap.size]? = some (.cells #[.int .u8 0, .int .u8 0, .int .u8 0, .int .u8 0, .int .u8 0, .int .u8 0, .int .u8 0, .int .u8 0, .int .u8 0, .int .u8 0, .int .u8 0, .int .u8 0, .int .u8 0, .int .u8 0, .int .u8 0, .int .u8 0, .int .u8 0, .int .u8 0, .int .u8 0, .int .u8 0, .int .u8 0, .int .u8 0, .int .u8 0, .int .u8 0, .int .u8 0, .int .u8 0, .int .u8 0, .int .u8 0, .int .u8 0, .int .u8 0, .int .u8 0, .int .u8 0] 23) := by rw [← hUU]; exact (heap_old _ _ (by rw [size_alloc]; omega)).trans (heap_new _ _)
      have f2 : UU.heap[U.heap.size + 1]? = some (.cells #[.int .u8 0, .int .u8 0, .int .u8 0, .int .u8 0, .int .u8 0, .int .u8 0, .int .u8 0, .int .u8 0, .int .u8 0, .int .u8 0, .int .u8 0, .int .u8 0, .int .u8 0, .int .u8 0, .int .u8 0, .int .u8 0, .int .u8 0, .int .u8 0, .int .u8 0, .int .u8 0, .int .u8 0, .int .u8 0, .int .u8 0, .int .u8 0, .int .u8 0, .int .u8 0, .int .u8 0, .int .u8 0, .int .u8 0, .int .u8 0, .int .u8 0, .int .u8 0] 23) := by rw [← hUU]; exact heap_new' _ _ (size_alloc _ _).symm
      have SUU : UU.heap[w.heap.size]? = some (.cells cp 26) := by rw [← hUU]; exact (heap_old _ _ (by rw [size_alloc]; omega)).trans ((heap_old _ _ lU).trans SU)
      have BUU : Below w.heap.size w UU := by rw [← hUU]; exact (BU.alloc BU.size _).alloc (by rw [size_alloc]; have := BU.size; omega) _
      clear hUU
      generalize U.heap.size = g at *
      refine wpAnyH_all (rs := [10]) (by kernel_rfl) (by simp) fun i hi => ?_
      obtain rfl : i = 10 := by simpa using hi
      refine wpOp_lit 10 (by kernel_rfl) fun o ho => ?_
      have hg : o.guard = none := by
        simp only [List.getElem?_toArray, List.getElem?_cons_succ, List.getElem?_cons_zero, Option.some.injEq] at ho
        rw [← ho]
      have hd : o.dst = none := by
        simp only [List.getElem?_toArray, List.getElem?_cons_succ, List.getElem?_cons_zero, Option.some.injEq] at ho
        rw [← ho]
      have hp : o.op = .store 23 (.tmp 3) (.tmp 13) := by
        simp only [List.getElem?_toArray, List.getElem?_cons_succ, List.getElem?_cons_zero, Option.some.injEq] at ho
        rw [← ho]
      clear ho
      refine ⟨hg, ?_⟩
      refine wp_store_mid 23 (.tmp 3) (.tmp 13) hp (g + 1) 0 c1 ?_ ?_ ?_ ?_ O1.out ?_
      · simp [Act.eval, Act.put, hA88]
      · simp [Act.eval, Act.put, hA88]
      · rw [S1.out]; exact there_of f2
      · rw [S1.out]; kernel_rfl
      rw [hd, put_none]
      clear hd hp hg
      refine ⟨(heap_setCells_ne (by omega) _ _ _).trans SUU, ?_⟩
      refine wpAnyH_all (rs := [11]) (by kernel_rfl) (by simp) fun i hi => ?_
      obtain rfl : i = 11 := by simpa using hi
      refine wpOp_lit 11 (by kernel_rfl) fun o ho => ?_
      have hg : o.guard = none := by
        simp only [List.getElem?_toArray, List.getElem?_cons_succ, List.getElem?_cons_zero, Option.some.injEq] at ho
        rw [← ho]
      have hd : o.dst = none := by
        simp only [List.getElem?_toArray, List.getElem?_cons_succ, List.getElem?_cons_zero, Option.some.injEq] at ho
        rw [← ho]
      have hp : o.op = .store 23 (.tmp 4) (.tmp 15) := by
        simp only [List.getElem?_toArray, List.getElem?_cons_succ, List.getElem?_cons_zero, Option.some.injEq] at ho
        rw [← ho]
      clear ho
      refine ⟨hg, ?_⟩
      refine wp_store_mid 23 (.tmp 4) (.tmp 15) hp (g) 0 c2 ?_ ?_ ?_ ?_ O2.out ?_
      · simp [Act.eval, Act.put, hA88]
      · simp [Act.eval, Act.put, hA88]
      · rw [S2.out]; exact there_of ((heap_setCells_ne (by omega) _ _ _).trans f1)
      · rw [S2.out]; kernel_rfl
      rw [hd, put_none]
      clear hd hp hg
      refine ⟨(heap_setCells_ne (by omega) _ _ _).trans ((heap_setCells_ne (by omega) _ _ _).trans SUU), ?_⟩
      refine wpAnyH_take (i := 12) (v := .int .u64 (n : Nat)) rfl (by kernel_rfl) (by kernel_rfl) (by kernel_rfl) (fun c a u h => hQ' c _ _ _ u h) (y_simple 17 (.int .u64 (n : Nat)) rfl (by simp [Act.put, hA88]) fun a' h u hu => by simp [execOp, Act.eval, h]) ((heap_setCells_ne (by omega) _ _ _).trans ((heap_setCells_ne (by omega) _ _ _).trans SUU)) ?_
      refine wpAnyH_take (i := 13) (v := .int .i64 wh) rfl (by kernel_rfl) (by kernel_rfl) (by kernel_rfl) (fun c a u h => hQ' c _ _ _ u h) (y_simple 19 (.int .i64 wh) rfl (by simp [Act.put, hA88]) fun a' h u hu => by simp [execOp, Act.eval, h]) ((heap_setCells_ne (by omega) _ _ _).trans ((heap_setCells_ne (by omega) _ _ _).trans SUU)) ?_
      refine wpAnyH_done (by kernel_rfl) ?_ _
      exact (congrArg (fun z : Act => Q' .normal ((z.put (some 5) (.int .u64 (n : Nat))).put (some 6) (.int .i64 wh)) _) (Act.put_comm _ _ _ (fun d e => by cases e; simp))).mpr (K'.out (g + 1) (g) _ ⟨(heap_setCells_ne (by omega) _ _ _).trans (heap_setCells_all c1 f2 (by rw [S1.out]; rfl)), heap_setCells_all c2 ((heap_setCells_ne (by omega) _ _ _).trans f1) (by rw [S2.out]; rfl), below_setCells (by omega) _ _ _ (below_setCells (by omega) _ _ _ BUU)⟩)
  · rintro g1 g2 W ⟨P1', P2', B0⟩
    clear P0' lW
    simp [Act.put]
    have PP1 : Hid _ := P1'
    have PP2 : Hid _ := P2'
    have BB : Hid _ := B0
    clear P1' P2' B0 CN CH C1 C2
    go_upto_region 2 with fail
    have B0 := BB.out
    have P1 : ∀ {v : World}, Below W.heap.size W v → v.heap[g1]? = some (.cells c1 23) := fun hC => keep hC PP1.out
    have P2 : ∀ {v : World}, Below W.heap.size W v → v.heap[g2]? = some (.cells c2 23) := fun hC => keep hC PP2.out
    refine region_list W.heap.size (C := fun w' => Below W.heap.size W w') [.inl (.agg c1), .inl (E4 X), .inl (.agg c2), .inl (E4 Y), .inr (.cells #[.int .u64 0, .int .u64 0, .int .u64 0, .int .u64 0] 30, fun b => .pointer (some ⟨b, 0, none⟩)), .inr (.cells #[.int .u64 0, .int .u64 0, .int .u64 0, .int .u64 0] 30, fun b => .pointer (some ⟨b, 0, none⟩))] [4, 5] (by kernel_rfl) (by kernel_rfl) ⟨rfl, rfl, rfl, Nat.le_refl _, fun _ _ => rfl⟩
      (fun w1 w2 h1 h2 => h1.trans (h2.mono h1.size)) (fun i h => by
        obtain rfl | rfl : i = 4 ∨ i = 5 := by simpa using h
        all_goals exact ⟨_, rfl⟩) ?_ ?_
    · refine ⟨?_, ?_, ?_, ?_, ?_, ?_, trivial⟩
      · intro s v hC hk hd
        have h : s.tmps[3]? = some (.pointer (some ⟨g1, 0, none⟩)) := hk 3 (by kernel_rfl)
        exact ok_load rfl rfl h (P1 hC) Try.underlying23 rfl (by kernel_rfl) S1.out
      · intro s v hC hk hd
        have h0 : s.tmps[20]? = some (.agg c1) := hd 0 (by kernel_rfl)
        exact ok_call rfl (by simp [Act.eval, h0, go_sem]) (K1.out v)
      · intro s v hC hk hd
        have h : s.tmps[4]? = some (.pointer (some ⟨g2, 0, none⟩)) := hk 4 (by kernel_rfl)
        exact ok_load rfl rfl h (P2 hC) Try.underlying23 rfl (by kernel_rfl) S2.out
      · intro s v hC hk hd
        have h0 : s.tmps[22]? = some (.agg c2) := hd 2 (by kernel_rfl)
        exact ok_call rfl (by simp [Act.eval, h0, go_sem]) (K2.out v)
      · intro s v hC hk hd
        exact ok_alloc hC.size rfl (by simp [execOp, go_sem])
      · intro s v hC hk hd
        exact ok_alloc hC.size rfl (by simp [execOp, go_sem])
    · intro b wB hC hf hne
      have n1 : b 4 ≠ b 5 := hne 4 5 rfl rfl (by decide)
      obtain ⟨⟨l1, f1⟩, ⟨l2, f2⟩, _⟩ := hf
      simp only [Nat.zero_add, Nat.reduceAdd] at l1 l2 f1 f2
      have B1 : Below w.heap.size w wB := B0.trans (hC.mono B0.size)
      have hs0 := B0.size
      have R1' := P1 hC
      have R2' := P2 hC
      have l3 := lt_of_block PP1.out
      have l4 := lt_of_block PP2.out
      clear hne hC P1 P2 PP1 PP2 B0 BB
      simp [valsOf, valOf, putAll, Act.put]
      generalize b 4 = h1 at *
      generalize b 5 = h2 at *
      refine wpList_store_blk (b := h1) rfl rfl rfl rfl f1 (by kernel_rfl) rfl rfl (by simp [Value.oneCell']) ?_
      refine wpList_store_blk (b := h2) rfl rfl rfl rfl ((heap_setCells_ne (Ne.symm n1) _ _ _).trans f2) (by kernel_rfl) rfl rfl (by simp [Value.oneCell']) ?_
      simp only [Act.put]
      generalize hV : World.setCells (World.setCells wB h1 0 _) h2 0 _ = V
      have PP1 : Hid (V.heap[g1]? = some (.cells c1 23)) := (by rw [← hV]; exact (heap_setCells_ne (by omega) _ _ _).trans ((heap_setCells_ne (by omega) _ _ _).trans R1') : V.heap[g1]? = some (.cells c1 23))
      have PP2 : Hid (V.heap[g2]? = some (.cells c2 23)) := (by rw [← hV]; exact (heap_setCells_ne (by omega) _ _ _).trans ((heap_setCells_ne (by omega) _ _ _).trans R2') : V.heap[g2]? = some (.cells c2 23))
      have H1 : Hid (V.heap[h1]? = some (.cells #[.int .u64 (w0 X : Nat), .int .u64 (w1 X : Nat), .int .u64 (w2 X : Nat), .int .u64 (w3 X : Nat)] 30)) := (by rw [← hV]; exact (heap_setCells_ne n1 _ _ _).trans (heap_setCells_all _ f1 rfl) : V.heap[h1]? = some (.cells #[.int .u64 (w0 X : Nat), .int .u64 (w1 X : Nat), .int .u64 (w2 X : Nat), .int .u64 (w3 X : Nat)] 30))
      have H2 : Hid (V.heap[h2]? = some (.cells #[.int .u64 (w0 Y : Nat), .int .u64 (w1 Y : Nat), .int .u64 (w2 Y : Nat), .int .u64 (w3 Y : Nat)] 30)) := (by rw [← hV]; exact heap_setCells_all _ ((heap_setCells_ne (Ne.symm n1) _ _ _).trans f2) rfl : V.heap[h2]? = some (.cells #[.int .u64 (w0 Y : Nat), .int .u64 (w1 Y : Nat), .int .u64 (w2 Y : Nat), .int .u64 (w3 Y : Nat)] 30))
      have BB : Hid (Below w.heap.size w V) := (by rw [← hV]; exact below_setCells (by omega) _ _ _ (below_setCells (by omega) _ _ _ B1) : Below w.heap.size w V)
      clear hV f1 f2 n1 l1 l2 hs0 B1 l3 l4 R1' R2'
      go_upto_region 3 with fail
      have B0 := BB.out
      have P1 : ∀ {v : World}, Below V.heap.size V v → v.heap[g1]? = some (.cells c1 23) := fun hC => keep hC PP1.out
      have P2 : ∀ {v : World}, Below V.heap.size V v → v.heap[g2]? = some (.cells c2 23) := fun hC => keep hC PP2.out
      refine region_list V.heap.size (C := fun w' => Below V.heap.size V w') [.inl (.agg c1), .inl (.agg (ca 16 (dg X))), .inl (.agg c2), .inl (.agg (ca 16 (dg Y))), .inr (.cells #[.int .u64 0, .int .u64 0, .int .u64 0, .int .u64 0, .int .u64 0, .int .u64 0, .int .u64 0, .int .u64 0, .int .u64 0, .int .u64 0, .int .u64 0, .int .u64 0, .int .u64 0, .int .u64 0, .int .u64 0, .int .u64 0] 33, fun b => .pointer (some ⟨b, 0, none⟩)), .inr (.cells #[.int .u64 0, .int .u64 0, .int .u64 0, .int .u64 0, .int .u64 0, .int .u64 0, .int .u64 0, .int .u64 0, .int .u64 0, .int .u64 0, .int .u64 0, .int .u64 0, .int .u64 0, .int .u64 0, .int .u64 0, .int .u64 0] 33, fun b => .pointer (some ⟨b, 0, none⟩))] [4, 5] (by kernel_rfl) (by kernel_rfl) ⟨rfl, rfl, rfl, Nat.le_refl _, fun _ _ => rfl⟩
        (fun w1 w2 h1 h2 => h1.trans (h2.mono h1.size)) (fun i h => by
          obtain rfl | rfl : i = 4 ∨ i = 5 := by simpa using h
          all_goals exact ⟨_, rfl⟩) ?_ ?_
      · refine ⟨?_, ?_, ?_, ?_, ?_, ?_, trivial⟩
        · intro s v hC hk hd
          have h : s.tmps[3]? = some (.pointer (some ⟨g1, 0, none⟩)) := hk 3 (by kernel_rfl)
          exact ok_load rfl rfl h (P1 hC) Try.underlying23 rfl (by kernel_rfl) S1.out
        · intro s v hC hk hd
          have h0 : s.tmps[24]? = some (.agg c1) := hd 0 (by kernel_rfl)
          exact ok_call rfl (by simp [Act.eval, h0, go_sem]) (K3.out v)
        · intro s v hC hk hd
          have h : s.tmps[4]? = some (.pointer (some ⟨g2, 0, none⟩)) := hk 4 (by kernel_rfl)
          exact ok_load rfl rfl h (P2 hC) Try.underlying23 rfl (by kernel_rfl) S2.out
        · intro s v hC hk hd
          have h0 : s.tmps[26]? = some (.agg c2) := hd 2 (by kernel_rfl)
          exact ok_call rfl (by simp [Act.eval, h0, go_sem]) (K4.out v)
        · intro s v hC hk hd
          exact ok_alloc hC.size rfl (by simp [execOp, go_sem])
        · intro s v hC hk hd
          exact ok_alloc hC.size rfl (by simp [execOp, go_sem])
      · intro b wC hC hf hne
        have n1 : b 4 ≠ b 5 := hne 4 5 rfl rfl (by decide)
        obtain ⟨⟨l1, f1⟩, ⟨l2, f2⟩, _⟩ := hf
        simp only [Nat.zero_add, Nat.reduceAdd] at l1 l2 f1 f2
        have B1 : Below w.heap.size w wC := B0.trans (hC.mono B0.size)
        have hs0 := B0.size
        have R1' := keep hC H1.out
        have R2' := keep hC H2.out
        have l3 := lt_of_block H1.out
        have l4 := lt_of_block H2.out
        clear hne hC P1 P2 PP1 PP2 B0 BB H1 H2
        simp [valsOf, valOf, putAll, Act.put]
        generalize b 4 = q1 at *
        generalize b 5 = q2 at *
        refine wpList_store_blk (b := q1) rfl rfl rfl rfl f1 (by kernel_rfl) rfl (ca_size _ _) (ca_one _ _) ?_
        refine wpList_store_blk (b := q2) rfl rfl rfl rfl ((heap_setCells_ne (Ne.symm n1) _ _ _).trans f2) (by kernel_rfl) rfl (ca_size _ _) (ca_one _ _) ?_
        simp only [Act.put]
        generalize hV : World.setCells (World.setCells wC q1 0 _) q2 0 _ = U
        have H1 : Hid (U.heap[h1]? = some (.cells #[.int .u64 (w0 X : Nat), .int .u64 (w1 X : Nat), .int .u64 (w2 X : Nat), .int .u64 (w3 X : Nat)] 30)) := (by rw [← hV]; exact (heap_setCells_ne (by omega) _ _ _).trans ((heap_setCells_ne (by omega) _ _ _).trans R1') : U.heap[h1]? = some (.cells #[.int .u64 (w0 X : Nat), .int .u64 (w1 X : Nat), .int .u64 (w2 X : Nat), .int .u64 (w3 X : Nat)] 30))
        have H2 : Hid (U.heap[h2]? = some (.cells #[.int .u64 (w0 Y : Nat), .int .u64 (w1 Y : Nat), .int .u64 (w2 Y : Nat), .int .u64 (w3 Y : Nat)] 30)) := (by rw [← hV]; exact (heap_setCells_ne (by omega) _ _ _).trans ((heap_setCells_ne (by omega) _ _ _).trans R2') : U.heap[h2]? = some (.cells #[.int .u64 (w0 Y : Nat), .int .u64 (w1 Y : Nat), .int .u64 (w2 Y : Nat), .int .u64 (w3 Y : Nat)] 30))
        have Q1 : Hid (U.heap[q1]? = some (.cells (ca 16 (dg X)) 33)) := (by rw [← hV]; exact (heap_setCells_ne n1 _ _ _).trans (heap_setCells_all _ f1 (by rw [ca_size]; rfl)) : U.heap[q1]? = some (.cells (ca 16 (dg X)) 33))
        have Q2 : Hid (U.heap[q2]? = some (.cells (ca 16 (dg Y)) 33)) := (by rw [← hV]; exact heap_setCells_all _ ((heap_setCells_ne (Ne.symm n1) _ _ _).trans f2) (by rw [ca_size]; rfl) : U.heap[q2]? = some (.cells (ca 16 (dg Y)) 33))
        have BB : Hid (Below w.heap.size w U) := (by rw [← hV]; exact below_setCells (by omega) _ _ _ (below_setCells (by omega) _ _ _ B1) : Below w.heap.size w U)
        clear hV f1 f2 n1 l1 l2 hs0 B1 l3 l4 R1' R2'
        have m1 := lt_of_block H1.out
        have m2 := lt_of_block H2.out
        have m3 := lt_of_block Q1.out
        have m4 := lt_of_block Q2.out
        have m5 := BB.out.size
        go_upto_region 4 with fail
        refine wp_region_list ?_
        refine wpList_load_blk (b := q1) rfl rfl rfl Q1.out Try.underlying33 rfl (by kernel_rfl) (ca_size _ _) ?_
        simp only [Act.put]
        go_upto_region 5 with (refine wpList_store_blk (b := U.heap.size) rfl rfl rfl rfl (heap_new' _ _ rfl) (by kernel_rfl) rfl (ca_size _ _) (ca_one _ _) ?_)
        generalize hV : World.setCells _ _ 0 _ = V
        obtain ⟨q3, hq3⟩ : ∃ q3, U.heap.size = q3 := ⟨_, rfl⟩
        have H1' : Hid (V.heap[h1]? = some (.cells #[.int .u64 (w0 X : Nat), .int .u64 (w1 X : Nat), .int .u64 (w2 X : Nat), .int .u64 (w3 X : Nat)] 30)) := (by rw [← hV]; exact (heap_setCells_ne (by omega) _ _ _).trans ((heap_old _ _ m1).trans H1.out) : V.heap[h1]? = some (.cells #[.int .u64 (w0 X : Nat), .int .u64 (w1 X : Nat), .int .u64 (w2 X : Nat), .int .u64 (w3 X : Nat)] 30))
        have H2' : Hid (V.heap[h2]? = some (.cells #[.int .u64 (w0 Y : Nat), .int .u64 (w1 Y : Nat), .int .u64 (w2 Y : Nat), .int .u64 (w3 Y : Nat)] 30)) := (by rw [← hV]; exact (heap_setCells_ne (by omega) _ _ _).trans ((heap_old _ _ m2).trans H2.out) : V.heap[h2]? = some (.cells #[.int .u64 (w0 Y : Nat), .int .u64 (w1 Y : Nat), .int .u64 (w2 Y : Nat), .int .u64 (w3 Y : Nat)] 30))
        have Q1' : Hid (V.heap[q1]? = some (.cells (ca 16 (dg X)) 33)) := (by rw [← hV]; exact (heap_setCells_ne (by omega) _ _ _).trans ((heap_old _ _ m3).trans Q1.out) : V.heap[q1]? = some (.cells (ca 16 (dg X)) 33))
        have Q2' : Hid (V.heap[q2]? = some (.cells (ca 16 (dg Y)) 33)) := (by rw [← hV]; exact (heap_setCells_ne (by omega) _ _ _).trans ((heap_old _ _ m4).trans Q2.out) : V.heap[q2]? = some (.cells (ca 16 (dg Y)) 33))
        have Q3' : Hid (V.heap[q3]? = some (.cells (ca 16 (dg X)) 33)) := (by rw [← hV, ← hq3]; exact heap_setCells_all _ (heap_new' _ _ rfl) (by rw [ca_size]; rfl) : V.heap[q3]? = some (.cells (ca 16 (dg X)) 33))
        have BV' : Hid (Below w.heap.size w V) := (by rw [← hV]; exact below_setCells m5 _ _ _ (BB.out.alloc m5 _) : Below w.heap.size w V)
        rw [hq3] at m1 m2 m3 m4 m5 ⊢
        clear hV hq3 H1 H2 Q1 Q2 BB
        by_cases hw1 : wh = 1
        · have eZ : Hid (Y = Z) := ((if_pos hw1).symm.trans HZ.out : Y = Z)
          have HW : Hid _ := hw1
          have t1 : (wh == 1) = true := by simp [hw1]
          clear hw1
          go_upto_region 6 with fail
          refine wp_region_list ?_
          refine wpList_load_blk (b := q2) rfl rfl rfl Q2'.out Try.underlying33 rfl (by kernel_rfl) (ca_size _ _) ?_
          simp only [Act.put]
          go_upto_region 7 with (refine wpList_store_blk (b := q3) rfl rfl rfl rfl Q3'.out (by kernel_rfl) (ca_size _ _) (ca_size _ _) (ca_one _ _) ?_)
          generalize hV : World.setCells _ _ 0 _ = V'
          have H1 : Hid (V'.heap[h1]? = some (.cells #[.int .u64 (w0 X : Nat), .int .u64 (w1 X : Nat), .int .u64 (w2 X : Nat), .int .u64 (w3 X : Nat)] 30)) := (by rw [← hV]; exact (heap_setCells_ne (by omega) _ _ _).trans H1'.out : V'.heap[h1]? = some (.cells #[.int .u64 (w0 X : Nat), .int .u64 (w1 X : Nat), .int .u64 (w2 X : Nat), .int .u64 (w3 X : Nat)] 30))
          have H2 : Hid (V'.heap[h2]? = some (.cells #[.int .u64 (w0 Y : Nat), .int .u64 (w1 Y : Nat), .int .u64 (w2 Y : Nat), .int .u64 (w3 Y : Nat)] 30)) := (by rw [← hV]; exact (heap_setCells_ne (by omega) _ _ _).trans H2'.out : V'.heap[h2]? = some (.cells #[.int .u64 (w0 Y : Nat), .int .u64 (w1 Y : Nat), .int .u64 (w2 Y : Nat), .int .u64 (w3 Y : Nat)] 30))
          have Q1 : Hid (V'.heap[q1]? = some (.cells (ca 16 (dg X)) 33)) := (by rw [← hV]; exact (heap_setCells_ne (by omega) _ _ _).trans Q1'.out : V'.heap[q1]? = some (.cells (ca 16 (dg X)) 33))
          have Q2 : Hid (V'.heap[q2]? = some (.cells (ca 16 (dg Y)) 33)) := (by rw [← hV]; exact (heap_setCells_ne (by omega) _ _ _).trans Q2'.out : V'.heap[q2]? = some (.cells (ca 16 (dg Y)) 33))
          have Q3 : Hid (V'.heap[q3]? = some (.cells (ca 16 (dg Z)) 33)) := (by rw [← hV, ← eZ.out]; exact heap_setCells_all _ Q3'.out (by rw [ca_size, ca_size]) : V'.heap[q3]? = some (.cells (ca 16 (dg Z)) 33))
          have BV : Hid (Below w.heap.size w V') := (by rw [← hV]; exact below_setCells m5 _ _ _ BV'.out : Below w.heap.size w V')
          clear hV H1' H2' Q1' Q2' Q3' BV' t1
          generalize V' = V at *
          have A7 : ∀ {v : World}, Below V.heap.size V v → v.heap[h1]? = some (.cells #[.int .u64 (w0 X : Nat), .int .u64 (w1 X : Nat), .int .u64 (w2 X : Nat), .int .u64 (w3 X : Nat)] 30) := fun hC => keep hC H1.out
          have A8 : ∀ {v : World}, Below V.heap.size V v → v.heap[h2]? = some (.cells #[.int .u64 (w0 Y : Nat), .int .u64 (w1 Y : Nat), .int .u64 (w2 Y : Nat), .int .u64 (w3 Y : Nat)] 30) := fun hC => keep hC H2.out
          have A9 : ∀ {v : World}, Below V.heap.size V v → v.heap[q1]? = some (.cells (ca 16 (dg X)) 33) := fun hC => keep hC Q1.out
          have A10 : ∀ {v : World}, Below V.heap.size V v → v.heap[q2]? = some (.cells (ca 16 (dg Y)) 33) := fun hC => keep hC Q2.out
          have A11 : ∀ {v : World}, Below V.heap.size V v → v.heap[q3]? = some (.cells (ca 16 (dg Z)) 33) := fun hC => keep hC Q3.out
          refine region_list V.heap.size (C := fun w' => Below V.heap.size V w') [.inl (E4 X), .inl (.agg (cs8 (keyL X))), .inl (.agg (ca 16 (dg X))), .inl (.agg (cs8 (keyL X))), .inl (.bool true), .inl (.bool true), .inl (.int .u64 (n : Nat)), .inl (E4 n), .inl (.agg (cs8 (keyL n))), .inl (.int .u64 (n : Nat)), .inl (.agg (ca 16 (dg n))), .inl (.agg (cs8 (keyL n))), .inl (.bool true), .inl (.bool true), .inl (.bool true), .inl (E4 X), .inl (E4 Y), .inl (E4 ((X + (pN - Y)) % pN)), .inl (.agg (cs8 (keyL ((X + (pN - Y)) % pN)))), .inl (.agg (ca 16 (dg X))), .inl (.agg (ca 16 (dg Y))), .inl (.agg (ca 16 (dg ((X + (pN - Y)) % pN)))), .inl (.agg (cs8 (keyL ((X + (pN - Y)) % pN)))), .inl (.bool true), .inl (.bool true), .inl (.bool true), .inl (E4 X), .inl (E4 I), .inl (.agg (cs8 (keyL I))), .inl (.agg (ca 16 (dg X))), .inl (.agg (ca 16 (dg I))), .inl (.agg (cs8 (keyL I))), .inl (.bool true), .inl (.bool true), .inl (.bool true), .inl (.int .i64 wh), .inl (E4 X), .inl (E4 Y), .inl (E4 Z), .inl (.agg (cs8 (keyL Z))), .inl (.agg (ca 16 (dg Z))), .inl (.agg (cs8 (keyL Z))), .inl (.bool true), .inl (.bool true), .inl (.bool true), .inl (E4 X), .inl (E4 Y), .inl (.bool r), .inl (.agg (ca 16 (dg X))), .inl (.agg (ca 16 (dg Y))), .inl (.bool r), .inl (.bool true), .inl (.bool true), .inl (.bool true), .inl (.bool true), .inl (.bool true)] [] (by kernel_rfl) (by kernel_rfl) ⟨rfl, rfl, rfl, Nat.le_refl _, fun _ _ => rfl⟩
            (fun w1 w2 h1 h2 => h1.trans (h2.mono h1.size)) (fun i h => by simp at h) ?_ ?_
          · refine ⟨?_, ?_, ?_, ?_, ?_, ?_, ?_, ?_, ?_, ?_, ?_, ?_, ?_, ?_, ?_, ?_, ?_, ?_, ?_, ?_, ?_, ?_, ?_, ?_, ?_, ?_, ?_, ?_, ?_, ?_, ?_, ?_, ?_, ?_, ?_, ?_, ?_, ?_, ?_, ?_, ?_, ?_, ?_, ?_, ?_, ?_, ?_, ?_, ?_, ?_, ?_, ?_, ?_, ?_, ?_, ?_, trivial⟩
            · intro s v hC hk hd
              have h : s.tmps[7]? = some (.pointer (some ⟨h1, 0, none⟩)) := hk 7 (by kernel_rfl)
              exact ok_load rfl rfl h (A7 hC) Try.underlying30 rfl (by kernel_rfl) rfl
            · intro s v hC hk hd
              have h0 : s.tmps[32]? = some (E4 X) := hd 0 (by kernel_rfl)
              exact ok_call rfl (by simp [Act.eval, h0, go_sem]) (key_any X v)
            · intro s v hC hk hd
              have h : s.tmps[9]? = some (.pointer (some ⟨q1, 0, none⟩)) := hk 9 (by kernel_rfl)
              exact ok_load rfl rfl h (A9 hC) Try.underlying33 rfl (by kernel_rfl) (ca_size _ _)
            · intro s v hC hk hd
              have h0 : s.tmps[34]? = some (.agg (ca 16 (dg X))) := hd 2 (by kernel_rfl)
              exact ok_call rfl (by simp [Act.eval, h0, go_sem]) (rkey_any X v)
            · intro s v hC hk hd
              have h0 : s.tmps[33]? = some (.agg (cs8 (keyL X))) := hd 1 (by kernel_rfl)
              have h1 : s.tmps[35]? = some (.agg (cs8 (keyL X))) := hd 3 (by kernel_rfl)
              exact ok_eql_keys rfl rfl _ _ true (by simp [keyL_len]) (by simp [keyL_len]) (by simp) h0 h1 (cs8_ints _) (cs8_ints _)
            · intro s v hC hk hd
              have h : s.tmps[36]? = some (.bool true) := hd 4 (by kernel_rfl)
              exact ok_value rfl (by simp [execOp, Act.eval, h])
            · intro s v hC hk hd
              have h : s.tmps[5]? = some (.int .u64 (n : Nat)) := hk 5 (by kernel_rfl)
              exact ok_value (wanted_of rfl rfl (hd 5 (by kernel_rfl))) (by simp [execOp, Act.eval, h])
            · intro s v hC hk hd
              have h0 : s.tmps[38]? = some (.int .u64 (n : Nat)) := hd 6 (by kernel_rfl)
              exact ok_call (wanted_of rfl rfl (hd 5 (by kernel_rfl))) (by simp [Act.eval, h0, go_sem]) (num_any n HN.out v)
            · intro s v hC hk hd
              have h0 : s.tmps[39]? = some (E4 n) := hd 7 (by kernel_rfl)
              exact ok_call (wanted_of rfl rfl (hd 5 (by kernel_rfl))) (by simp [Act.eval, h0, go_sem]) (key_any n v)
            · intro s v hC hk hd
              have h : s.tmps[5]? = some (.int .u64 (n : Nat)) := hk 5 (by kernel_rfl)
              exact ok_value (wanted_of rfl rfl (hd 5 (by kernel_rfl))) (by simp [execOp, Act.eval, h])
            · intro s v hC hk hd
              have h0 : s.tmps[41]? = some (.int .u64 (n : Nat)) := hd 9 (by kernel_rfl)
              exact ok_call (wanted_of rfl rfl (hd 5 (by kernel_rfl))) (by simp [Act.eval, h0, go_sem]) (small_any n HN.out v)
            · intro s v hC hk hd
              have h0 : s.tmps[42]? = some (.agg (ca 16 (dg n))) := hd 10 (by kernel_rfl)
              exact ok_call (wanted_of rfl rfl (hd 5 (by kernel_rfl))) (by simp [Act.eval, h0, go_sem]) (rkey_any n v)
            · intro s v hC hk hd
              have h0 : s.tmps[40]? = some (.agg (cs8 (keyL n))) := hd 8 (by kernel_rfl)
              have h1 : s.tmps[43]? = some (.agg (cs8 (keyL n))) := hd 11 (by kernel_rfl)
              exact ok_eql_keys (wanted_of rfl rfl (hd 5 (by kernel_rfl))) rfl _ _ true (by simp [keyL_len]) (by simp [keyL_len]) (by simp) h0 h1 (cs8_ints _) (cs8_ints _)
            · intro s v hC hk hd
              have h0 : s.tmps[37]? = some (.bool true) := hd 5 (by kernel_rfl)
              have h1 : s.tmps[44]? = some (.bool true) := hd 12 (by kernel_rfl)
              exact ok_value rfl (by simp [execOp, Act.eval, h0, h1, go_sem])
            · intro s v hC hk hd
              have h : s.tmps[45]? = some (.bool true) := hd 13 (by kernel_rfl)
              exact ok_value rfl (by simp [execOp, Act.eval, h])
            · intro s v hC hk hd
              have h : s.tmps[7]? = some (.pointer (some ⟨h1, 0, none⟩)) := hk 7 (by kernel_rfl)
              exact ok_load (wanted_of rfl rfl (hd 14 (by kernel_rfl))) rfl h (A7 hC) Try.underlying30 rfl (by kernel_rfl) rfl
            · intro s v hC hk hd
              have h : s.tmps[8]? = some (.pointer (some ⟨h2, 0, none⟩)) := hk 8 (by kernel_rfl)
              exact ok_load (wanted_of rfl rfl (hd 14 (by kernel_rfl))) rfl h (A8 hC) Try.underlying30 rfl (by kernel_rfl) rfl
            · intro s v hC hk hd
              have h0 : s.tmps[47]? = some (E4 X) := hd 15 (by kernel_rfl)
              have h1 : s.tmps[48]? = some (E4 Y) := hd 16 (by kernel_rfl)
              exact ok_call (wanted_of rfl rfl (hd 14 (by kernel_rfl))) (by simp [Act.eval, h0, h1, go_sem]) (sub_any X Y HX.out HY.out v)
            · intro s v hC hk hd
              have h0 : s.tmps[49]? = some (E4 ((X + (pN - Y)) % pN)) := hd 17 (by kernel_rfl)
              exact ok_call (wanted_of rfl rfl (hd 14 (by kernel_rfl))) (by simp [Act.eval, h0, go_sem]) (key_any ((X + (pN - Y)) % pN) v)
            · intro s v hC hk hd
              have h : s.tmps[9]? = some (.pointer (some ⟨q1, 0, none⟩)) := hk 9 (by kernel_rfl)
              exact ok_load (wanted_of rfl rfl (hd 14 (by kernel_rfl))) rfl h (A9 hC) Try.underlying33 rfl (by kernel_rfl) (ca_size _ _)
            · intro s v hC hk hd
              have h : s.tmps[10]? = some (.pointer (some ⟨q2, 0, none⟩)) := hk 10 (by kernel_rfl)
              exact ok_load (wanted_of rfl rfl (hd 14 (by kernel_rfl))) rfl h (A10 hC) Try.underlying33 rfl (by kernel_rfl) (ca_size _ _)
            · intro s v hC hk hd
              have h0 : s.tmps[51]? = some (.agg (ca 16 (dg X))) := hd 19 (by kernel_rfl)
              have h1 : s.tmps[52]? = some (.agg (ca 16 (dg Y))) := hd 20 (by kernel_rfl)
              exact ok_call (wanted_of rfl rfl (hd 14 (by kernel_rfl))) (by simp [Act.eval, h0, h1, go_sem]) (rsub_any X Y HX.out HY.out v)
            · intro s v hC hk hd
              have h0 : s.tmps[53]? = some (.agg (ca 16 (dg ((X + (pN - Y)) % pN)))) := hd 21 (by kernel_rfl)
              exact ok_call (wanted_of rfl rfl (hd 14 (by kernel_rfl))) (by simp [Act.eval, h0, go_sem]) (rkey_any ((X + (pN - Y)) % pN) v)
            · intro s v hC hk hd
              have h0 : s.tmps[50]? = some (.agg (cs8 (keyL ((X + (pN - Y)) % pN)))) := hd 18 (by kernel_rfl)
              have h1 : s.tmps[54]? = some (.agg (cs8 (keyL ((X + (pN - Y)) % pN)))) := hd 22 (by kernel_rfl)
              exact ok_eql_keys (wanted_of rfl rfl (hd 14 (by kernel_rfl))) rfl _ _ true (by simp [keyL_len]) (by simp [keyL_len]) (by simp) h0 h1 (cs8_ints _) (cs8_ints _)
            · intro s v hC hk hd
              have h0 : s.tmps[46]? = some (.bool true) := hd 14 (by kernel_rfl)
              have h1 : s.tmps[55]? = some (.bool true) := hd 23 (by kernel_rfl)
              exact ok_value rfl (by simp [execOp, Act.eval, h0, h1, go_sem])
            · intro s v hC hk hd
              have h : s.tmps[56]? = some (.bool true) := hd 24 (by kernel_rfl)
              exact ok_value rfl (by simp [execOp, Act.eval, h])
            · intro s v hC hk hd
              have h : s.tmps[7]? = some (.pointer (some ⟨h1, 0, none⟩)) := hk 7 (by kernel_rfl)
              exact ok_load (wanted_of rfl rfl (hd 25 (by kernel_rfl))) rfl h (A7 hC) Try.underlying30 rfl (by kernel_rfl) rfl
            · intro s v hC hk hd
              have h0 : s.tmps[58]? = some (E4 X) := hd 26 (by kernel_rfl)
              exact ok_call (wanted_of rfl rfl (hd 25 (by kernel_rfl))) (by simp [Act.eval, h0, go_sem]) (KI.out v)
            · intro s v hC hk hd
              have h0 : s.tmps[59]? = some (E4 I) := hd 27 (by kernel_rfl)
              exact ok_call (wanted_of rfl rfl (hd 25 (by kernel_rfl))) (by simp [Act.eval, h0, go_sem]) (key_any I v)
            · intro s v hC hk hd
              have h : s.tmps[9]? = some (.pointer (some ⟨q1, 0, none⟩)) := hk 9 (by kernel_rfl)
              exact ok_load (wanted_of rfl rfl (hd 25 (by kernel_rfl))) rfl h (A9 hC) Try.underlying33 rfl (by kernel_rfl) (ca_size _ _)
            · intro s v hC hk hd
              have h0 : s.tmps[61]? = some (.agg (ca 16 (dg X))) := hd 29 (by kernel_rfl)
              exact ok_call (wanted_of rfl rfl (hd 25 (by kernel_rfl))) (by simp [Act.eval, h0, go_sem]) (KJ.out v)
            · intro s v hC hk hd
              have h0 : s.tmps[62]? = some (.agg (ca 16 (dg I))) := hd 30 (by kernel_rfl)
              exact ok_call (wanted_of rfl rfl (hd 25 (by kernel_rfl))) (by simp [Act.eval, h0, go_sem]) (rkey_any I v)
            · intro s v hC hk hd
              have h0 : s.tmps[60]? = some (.agg (cs8 (keyL I))) := hd 28 (by kernel_rfl)
              have h1 : s.tmps[63]? = some (.agg (cs8 (keyL I))) := hd 31 (by kernel_rfl)
              exact ok_eql_keys (wanted_of rfl rfl (hd 25 (by kernel_rfl))) rfl _ _ true (by simp [keyL_len]) (by simp [keyL_len]) (by simp) h0 h1 (cs8_ints _) (cs8_ints _)
            · intro s v hC hk hd
              have h0 : s.tmps[57]? = some (.bool true) := hd 25 (by kernel_rfl)
              have h1 : s.tmps[64]? = some (.bool true) := hd 32 (by kernel_rfl)
              exact ok_value rfl (by simp [execOp, Act.eval, h0, h1, go_sem])
            · intro s v hC hk hd
              have h : s.tmps[65]? = some (.bool true) := hd 33 (by kernel_rfl)
              exact ok_value rfl (by simp [execOp, Act.eval, h])
            · intro s v hC hk hd
              have h : s.tmps[6]? = some (.int .i64 wh) := hk 6 (by kernel_rfl)
              exact ok_value (wanted_of rfl rfl (hd 34 (by kernel_rfl))) (by simp [execOp, Act.eval, h])
            · intro s v hC hk hd
              have h : s.tmps[7]? = some (.pointer (some ⟨h1, 0, none⟩)) := hk 7 (by kernel_rfl)
              exact ok_load (wanted_of rfl rfl (hd 34 (by kernel_rfl))) rfl h (A7 hC) Try.underlying30 rfl (by kernel_rfl) rfl
            · intro s v hC hk hd
              have h : s.tmps[8]? = some (.pointer (some ⟨h2, 0, none⟩)) := hk 8 (by kernel_rfl)
              exact ok_load (wanted_of rfl rfl (hd 34 (by kernel_rfl))) rfl h (A8 hC) Try.underlying30 rfl (by kernel_rfl) rfl
            · intro s v hC hk hd
              have h0 : s.tmps[67]? = some (.int .i64 wh) := hd 35 (by kernel_rfl)
              have h1 : s.tmps[68]? = some (E4 X) := hd 36 (by kernel_rfl)
              have h2 : s.tmps[69]? = some (E4 Y) := hd 37 (by kernel_rfl)
              exact ok_call (wanted_of rfl rfl (hd 34 (by kernel_rfl))) (by simp [Act.eval, h0, h1, h2, go_sem]) (KP.out v)
            · intro s v hC hk hd
              have h0 : s.tmps[70]? = some (E4 Z) := hd 38 (by kernel_rfl)
              exact ok_call (wanted_of rfl rfl (hd 34 (by kernel_rfl))) (by simp [Act.eval, h0, go_sem]) (key_any Z v)
            · intro s v hC hk hd
              have h : s.tmps[11]? = some (.pointer (some ⟨q3, 0, none⟩)) := hk 11 (by kernel_rfl)
              exact ok_load (wanted_of rfl rfl (hd 34 (by kernel_rfl))) rfl h (A11 hC) Try.underlying33 rfl (by kernel_rfl) (ca_size _ _)
            · intro s v hC hk hd
              have h0 : s.tmps[72]? = some (.agg (ca 16 (dg Z))) := hd 40 (by kernel_rfl)
              exact ok_call (wanted_of rfl rfl (hd 34 (by kernel_rfl))) (by simp [Act.eval, h0, go_sem]) (rkey_any Z v)
            · intro s v hC hk hd
              have h0 : s.tmps[71]? = some (.agg (cs8 (keyL Z))) := hd 39 (by kernel_rfl)
              have h1 : s.tmps[73]? = some (.agg (cs8 (keyL Z))) := hd 41 (by kernel_rfl)
              exact ok_eql_keys (wanted_of rfl rfl (hd 34 (by kernel_rfl))) rfl _ _ true (by simp [keyL_len]) (by simp [keyL_len]) (by simp) h0 h1 (cs8_ints _) (cs8_ints _)
            · intro s v hC hk hd
              have h0 : s.tmps[66]? = some (.bool true) := hd 34 (by kernel_rfl)
              have h1 : s.tmps[74]? = some (.bool true) := hd 42 (by kernel_rfl)
              exact ok_value rfl (by simp [execOp, Act.eval, h0, h1, go_sem])
            · intro s v hC hk hd
              have h : s.tmps[75]? = some (.bool true) := hd 43 (by kernel_rfl)
              exact ok_value rfl (by simp [execOp, Act.eval, h])
            · intro s v hC hk hd
              have h : s.tmps[7]? = some (.pointer (some ⟨h1, 0, none⟩)) := hk 7 (by kernel_rfl)
              exact ok_load (wanted_of rfl rfl (hd 44 (by kernel_rfl))) rfl h (A7 hC) Try.underlying30 rfl (by kernel_rfl) rfl
            · intro s v hC hk hd
              have h : s.tmps[8]? = some (.pointer (some ⟨h2, 0, none⟩)) := hk 8 (by kernel_rfl)
              exact ok_load (wanted_of rfl rfl (hd 44 (by kernel_rfl))) rfl h (A8 hC) Try.underlying30 rfl (by kernel_rfl) rfl
            · intro s v hC hk hd
              have h0 : s.tmps[77]? = some (E4 X) := hd 45 (by kernel_rfl)
              have h1 : s.tmps[78]? = some (E4 Y) := hd 46 (by kernel_rfl)
              exact ok_call (wanted_of rfl rfl (hd 44 (by kernel_rfl))) (by simp [Act.eval, h0, h1, go_sem]) (same_eq X Y HX.out HY.out r HR.out v)
            · intro s v hC hk hd
              have h : s.tmps[9]? = some (.pointer (some ⟨q1, 0, none⟩)) := hk 9 (by kernel_rfl)
              exact ok_load (wanted_of rfl rfl (hd 44 (by kernel_rfl))) rfl h (A9 hC) Try.underlying33 rfl (by kernel_rfl) (ca_size _ _)
            · intro s v hC hk hd
              have h : s.tmps[10]? = some (.pointer (some ⟨q2, 0, none⟩)) := hk 10 (by kernel_rfl)
              exact ok_load (wanted_of rfl rfl (hd 44 (by kernel_rfl))) rfl h (A10 hC) Try.underlying33 rfl (by kernel_rfl) (ca_size _ _)
            · intro s v hC hk hd
              have h0 : s.tmps[80]? = some (.agg (ca 16 (dg X))) := hd 48 (by kernel_rfl)
              have h1 : s.tmps[81]? = some (.agg (ca 16 (dg Y))) := hd 49 (by kernel_rfl)
              exact ok_eql_digits (wanted_of rfl rfl (hd 44 (by kernel_rfl))) rfl h0 h1 HX.out HY.out HR.out
            · intro s v hC hk hd
              have h0 : s.tmps[79]? = some (.bool r) := hd 47 (by kernel_rfl)
              have h1 : s.tmps[82]? = some (.bool r) := hd 50 (by kernel_rfl)
              exact ok_value (wanted_of rfl rfl (hd 44 (by kernel_rfl))) (by simp [execOp, Act.eval, h0, h1, go_sem])
            · intro s v hC hk hd
              have h0 : s.tmps[76]? = some (.bool true) := hd 44 (by kernel_rfl)
              have h1 : s.tmps[83]? = some (.bool true) := hd 51 (by kernel_rfl)
              exact ok_value rfl (by simp [execOp, Act.eval, h0, h1, go_sem])
            · intro s v hC hk hd
              have h : s.tmps[84]? = some (.bool true) := hd 52 (by kernel_rfl)
              exact ok_value rfl (by simp [execOp, Act.eval, h])
            · intro s v hC hk hd
              exact ok_call (wanted_of rfl rfl (hd 53 (by kernel_rfl))) (by simp [go_sem]) (wakes_any v)
            · intro s v hC hk hd
              have h0 : s.tmps[85]? = some (.bool true) := hd 53 (by kernel_rfl)
              have h1 : s.tmps[86]? = some (.bool true) := hd 54 (by kernel_rfl)
              exact ok_value rfl (by simp [execOp, Act.eval, h0, h1, go_sem])
          · intro b wB hC _ _
            simp [valsOf, valOf, putAll, Act.put]
            have B : Hid (Below w.heap.size w wB) := BV.out.trans (hC.mono BV.out.size)
            clear hC A7 A8 A9 A10 A11
            go_wp2_with fail
            go_ret
            exact ⟨rfl, B.out⟩
        · have eZ : Hid (X = Z) := ((if_neg hw1).symm.trans HZ.out : X = Z)
          have t1 : (wh == 1) = false := by simp [hw1]
          clear hw1
          go_upto_region 7 with fail
          have Q3 : Hid (V.heap[q3]? = some (.cells (ca 16 (dg Z)) 33)) := (by rw [← eZ.out]; exact Q3'.out : V.heap[q3]? = some (.cells (ca 16 (dg Z)) 33))
          have BV : Hid _ := BV'.out
          clear t1
          have A7 : ∀ {v : World}, Below V.heap.size V v → v.heap[h1]? = some (.cells #[.int .u64 (w0 X : Nat), .int .u64 (w1 X : Nat), .int .u64 (w2 X : Nat), .int .u64 (w3 X : Nat)] 30) := fun hC => keep hC H1'.out
          have A8 : ∀ {v : World}, Below V.heap.size V v → v.heap[h2]? = some (.cells #[.int .u64 (w0 Y : Nat), .int .u64 (w1 Y : Nat), .int .u64 (w2 Y : Nat), .int .u64 (w3 Y : Nat)] 30) := fun hC => keep hC H2'.out
          have A9 : ∀ {v : World}, Below V.heap.size V v → v.heap[q1]? = some (.cells (ca 16 (dg X)) 33) := fun hC => keep hC Q1'.out
          have A10 : ∀ {v : World}, Below V.heap.size V v → v.heap[q2]? = some (.cells (ca 16 (dg Y)) 33) := fun hC => keep hC Q2'.out
          have A11 : ∀ {v : World}, Below V.heap.size V v → v.heap[q3]? = some (.cells (ca 16 (dg Z)) 33) := fun hC => keep hC Q3.out
          refine region_list V.heap.size (C := fun w' => Below V.heap.size V w') [.inl (E4 X), .inl (.agg (cs8 (keyL X))), .inl (.agg (ca 16 (dg X))), .inl (.agg (cs8 (keyL X))), .inl (.bool true), .inl (.bool true), .inl (.int .u64 (n : Nat)), .inl (E4 n), .inl (.agg (cs8 (keyL n))), .inl (.int .u64 (n : Nat)), .inl (.agg (ca 16 (dg n))), .inl (.agg (cs8 (keyL n))), .inl (.bool true), .inl (.bool true), .inl (.bool true), .inl (E4 X), .inl (E4 Y), .inl (E4 ((X + (pN - Y)) % pN)), .inl (.agg (cs8 (keyL ((X + (pN - Y)) % pN)))), .inl (.agg (ca 16 (dg X))), .inl (.agg (ca 16 (dg Y))), .inl (.agg (ca 16 (dg ((X + (pN - Y)) % pN)))), .inl (.agg (cs8 (keyL ((X + (pN - Y)) % pN)))), .inl (.bool true), .inl (.bool true), .inl (.bool true), .inl (E4 X), .inl (E4 I), .inl (.agg (cs8 (keyL I))), .inl (.agg (ca 16 (dg X))), .inl (.agg (ca 16 (dg I))), .inl (.agg (cs8 (keyL I))), .inl (.bool true), .inl (.bool true), .inl (.bool true), .inl (.int .i64 wh), .inl (E4 X), .inl (E4 Y), .inl (E4 Z), .inl (.agg (cs8 (keyL Z))), .inl (.agg (ca 16 (dg Z))), .inl (.agg (cs8 (keyL Z))), .inl (.bool true), .inl (.bool true), .inl (.bool true), .inl (E4 X), .inl (E4 Y), .inl (.bool r), .inl (.agg (ca 16 (dg X))), .inl (.agg (ca 16 (dg Y))), .inl (.bool r), .inl (.bool true), .inl (.bool true), .inl (.bool true), .inl (.bool true), .inl (.bool true)] [] (by kernel_rfl) (by kernel_rfl) ⟨rfl, rfl, rfl, Nat.le_refl _, fun _ _ => rfl⟩
            (fun w1 w2 h1 h2 => h1.trans (h2.mono h1.size)) (fun i h => by simp at h) ?_ ?_
          · refine ⟨?_, ?_, ?_, ?_, ?_, ?_, ?_, ?_, ?_, ?_, ?_, ?_, ?_, ?_, ?_, ?_, ?_, ?_, ?_, ?_, ?_, ?_, ?_, ?_, ?_, ?_, ?_, ?_, ?_, ?_, ?_, ?_, ?_, ?_, ?_, ?_, ?_, ?_, ?_, ?_, ?_, ?_, ?_, ?_, ?_, ?_, ?_, ?_, ?_, ?_, ?_, ?_, ?_, ?_, ?_, ?_, trivial⟩
            · intro s v hC hk hd
              have h : s.tmps[7]? = some (.pointer (some ⟨h1, 0, none⟩)) := hk 7 (by kernel_rfl)
              exact ok_load rfl rfl h (A7 hC) Try.underlying30 rfl (by kernel_rfl) rfl
            · intro s v hC hk hd
              have h0 : s.tmps[32]? = some (E4 X) := hd 0 (by kernel_rfl)
              exact ok_call rfl (by simp [Act.eval, h0, go_sem]) (key_any X v)
            · intro s v hC hk hd
              have h : s.tmps[9]? = some (.pointer (some ⟨q1, 0, none⟩)) := hk 9 (by kernel_rfl)
              exact ok_load rfl rfl h (A9 hC) Try.underlying33 rfl (by kernel_rfl) (ca_size _ _)
            · intro s v hC hk hd
              have h0 : s.tmps[34]? = some (.agg (ca 16 (dg X))) := hd 2 (by kernel_rfl)
              exact ok_call rfl (by simp [Act.eval, h0, go_sem]) (rkey_any X v)
            · intro s v hC hk hd
              have h0 : s.tmps[33]? = some (.agg (cs8 (keyL X))) := hd 1 (by kernel_rfl)
              have h1 : s.tmps[35]? = some (.agg (cs8 (keyL X))) := hd 3 (by kernel_rfl)
              exact ok_eql_keys rfl rfl _ _ true (by simp [keyL_len]) (by simp [keyL_len]) (by simp) h0 h1 (cs8_ints _) (cs8_ints _)
            · intro s v hC hk hd
              have h : s.tmps[36]? = some (.bool true) := hd 4 (by kernel_rfl)
              exact ok_value rfl (by simp [execOp, Act.eval, h])
            · intro s v hC hk hd
              have h : s.tmps[5]? = some (.int .u64 (n : Nat)) := hk 5 (by kernel_rfl)
              exact ok_value (wanted_of rfl rfl (hd 5 (by kernel_rfl))) (by simp [execOp, Act.eval, h])
            · intro s v hC hk hd
              have h0 : s.tmps[38]? = some (.int .u64 (n : Nat)) := hd 6 (by kernel_rfl)
              exact ok_call (wanted_of rfl rfl (hd 5 (by kernel_rfl))) (by simp [Act.eval, h0, go_sem]) (num_any n HN.out v)
            · intro s v hC hk hd
              have h0 : s.tmps[39]? = some (E4 n) := hd 7 (by kernel_rfl)
              exact ok_call (wanted_of rfl rfl (hd 5 (by kernel_rfl))) (by simp [Act.eval, h0, go_sem]) (key_any n v)
            · intro s v hC hk hd
              have h : s.tmps[5]? = some (.int .u64 (n : Nat)) := hk 5 (by kernel_rfl)
              exact ok_value (wanted_of rfl rfl (hd 5 (by kernel_rfl))) (by simp [execOp, Act.eval, h])
            · intro s v hC hk hd
              have h0 : s.tmps[41]? = some (.int .u64 (n : Nat)) := hd 9 (by kernel_rfl)
              exact ok_call (wanted_of rfl rfl (hd 5 (by kernel_rfl))) (by simp [Act.eval, h0, go_sem]) (small_any n HN.out v)
            · intro s v hC hk hd
              have h0 : s.tmps[42]? = some (.agg (ca 16 (dg n))) := hd 10 (by kernel_rfl)
              exact ok_call (wanted_of rfl rfl (hd 5 (by kernel_rfl))) (by simp [Act.eval, h0, go_sem]) (rkey_any n v)
            · intro s v hC hk hd
              have h0 : s.tmps[40]? = some (.agg (cs8 (keyL n))) := hd 8 (by kernel_rfl)
              have h1 : s.tmps[43]? = some (.agg (cs8 (keyL n))) := hd 11 (by kernel_rfl)
              exact ok_eql_keys (wanted_of rfl rfl (hd 5 (by kernel_rfl))) rfl _ _ true (by simp [keyL_len]) (by simp [keyL_len]) (by simp) h0 h1 (cs8_ints _) (cs8_ints _)
            · intro s v hC hk hd
              have h0 : s.tmps[37]? = some (.bool true) := hd 5 (by kernel_rfl)
              have h1 : s.tmps[44]? = some (.bool true) := hd 12 (by kernel_rfl)
              exact ok_value rfl (by simp [execOp, Act.eval, h0, h1, go_sem])
            · intro s v hC hk hd
              have h : s.tmps[45]? = some (.bool true) := hd 13 (by kernel_rfl)
              exact ok_value rfl (by simp [execOp, Act.eval, h])
            · intro s v hC hk hd
              have h : s.tmps[7]? = some (.pointer (some ⟨h1, 0, none⟩)) := hk 7 (by kernel_rfl)
              exact ok_load (wanted_of rfl rfl (hd 14 (by kernel_rfl))) rfl h (A7 hC) Try.underlying30 rfl (by kernel_rfl) rfl
            · intro s v hC hk hd
              have h : s.tmps[8]? = some (.pointer (some ⟨h2, 0, none⟩)) := hk 8 (by kernel_rfl)
              exact ok_load (wanted_of rfl rfl (hd 14 (by kernel_rfl))) rfl h (A8 hC) Try.underlying30 rfl (by kernel_rfl) rfl
            · intro s v hC hk hd
              have h0 : s.tmps[47]? = some (E4 X) := hd 15 (by kernel_rfl)
              have h1 : s.tmps[48]? = some (E4 Y) := hd 16 (by kernel_rfl)
              exact ok_call (wanted_of rfl rfl (hd 14 (by kernel_rfl))) (by simp [Act.eval, h0, h1, go_sem]) (sub_any X Y HX.out HY.out v)
            · intro s v hC hk hd
              have h0 : s.tmps[49]? = some (E4 ((X + (pN - Y)) % pN)) := hd 17 (by kernel_rfl)
              exact ok_call (wanted_of rfl rfl (hd 14 (by kernel_rfl))) (by simp [Act.eval, h0, go_sem]) (key_any ((X + (pN - Y)) % pN) v)
            · intro s v hC hk hd
              have h : s.tmps[9]? = some (.pointer (some ⟨q1, 0, none⟩)) := hk 9 (by kernel_rfl)
              exact ok_load (wanted_of rfl rfl (hd 14 (by kernel_rfl))) rfl h (A9 hC) Try.underlying33 rfl (by kernel_rfl) (ca_size _ _)
            · intro s v hC hk hd
              have h : s.tmps[10]? = some (.pointer (some ⟨q2, 0, none⟩)) := hk 10 (by kernel_rfl)
              exact ok_load (wanted_of rfl rfl (hd 14 (by kernel_rfl))) rfl h (A10 hC) Try.underlying33 rfl (by kernel_rfl) (ca_size _ _)
            · intro s v hC hk hd
              have h0 : s.tmps[51]? = some (.agg (ca 16 (dg X))) := hd 19 (by kernel_rfl)
              have h1 : s.tmps[52]? = some (.agg (ca 16 (dg Y))) := hd 20 (by kernel_rfl)
              exact ok_call (wanted_of rfl rfl (hd 14 (by kernel_rfl))) (by simp [Act.eval, h0, h1, go_sem]) (rsub_any X Y HX.out HY.out v)
            · intro s v hC hk hd
              have h0 : s.tmps[53]? = some (.agg (ca 16 (dg ((X + (pN - Y)) % pN)))) := hd 21 (by kernel_rfl)
              exact ok_call (wanted_of rfl rfl (hd 14 (by kernel_rfl))) (by simp [Act.eval, h0, go_sem]) (rkey_any ((X + (pN - Y)) % pN) v)
            · intro s v hC hk hd
              have h0 : s.tmps[50]? = some (.agg (cs8 (keyL ((X + (pN - Y)) % pN)))) := hd 18 (by kernel_rfl)
              have h1 : s.tmps[54]? = some (.agg (cs8 (keyL ((X + (pN - Y)) % pN)))) := hd 22 (by kernel_rfl)
              exact ok_eql_keys (wanted_of rfl rfl (hd 14 (by kernel_rfl))) rfl _ _ true (by simp [keyL_len]) (by simp [keyL_len]) (by simp) h0 h1 (cs8_ints _) (cs8_ints _)
            · intro s v hC hk hd
              have h0 : s.tmps[46]? = some (.bool true) := hd 14 (by kernel_rfl)
              have h1 : s.tmps[55]? = some (.bool true) := hd 23 (by kernel_rfl)
              exact ok_value rfl (by simp [execOp, Act.eval, h0, h1, go_sem])
            · intro s v hC hk hd
              have h : s.tmps[56]? = some (.bool true) := hd 24 (by kernel_rfl)
              exact ok_value rfl (by simp [execOp, Act.eval, h])
            · intro s v hC hk hd
              have h : s.tmps[7]? = some (.pointer (some ⟨h1, 0, none⟩)) := hk 7 (by kernel_rfl)
              exact ok_load (wanted_of rfl rfl (hd 25 (by kernel_rfl))) rfl h (A7 hC) Try.underlying30 rfl (by kernel_rfl) rfl
            · intro s v hC hk hd
              have h0 : s.tmps[58]? = some (E4 X) := hd 26 (by kernel_rfl)
              exact ok_call (wanted_of rfl rfl (hd 25 (by kernel_rfl))) (by simp [Act.eval, h0, go_sem]) (KI.out v)
            · intro s v hC hk hd
              have h0 : s.tmps[59]? = some (E4 I) := hd 27 (by kernel_rfl)
              exact ok_call (wanted_of rfl rfl (hd 25 (by kernel_rfl))) (by simp [Act.eval, h0, go_sem]) (key_any I v)
            · intro s v hC hk hd
              have h : s.tmps[9]? = some (.pointer (some ⟨q1, 0, none⟩)) := hk 9 (by kernel_rfl)
              exact ok_load (wanted_of rfl rfl (hd 25 (by kernel_rfl))) rfl h (A9 hC) Try.underlying33 rfl (by kernel_rfl) (ca_size _ _)
            · intro s v hC hk hd
              have h0 : s.tmps[61]? = some (.agg (ca 16 (dg X))) := hd 29 (by kernel_rfl)
              exact ok_call (wanted_of rfl rfl (hd 25 (by kernel_rfl))) (by simp [Act.eval, h0, go_sem]) (KJ.out v)
            · intro s v hC hk hd
              have h0 : s.tmps[62]? = some (.agg (ca 16 (dg I))) := hd 30 (by kernel_rfl)
              exact ok_call (wanted_of rfl rfl (hd 25 (by kernel_rfl))) (by simp [Act.eval, h0, go_sem]) (rkey_any I v)
            · intro s v hC hk hd
              have h0 : s.tmps[60]? = some (.agg (cs8 (keyL I))) := hd 28 (by kernel_rfl)
              have h1 : s.tmps[63]? = some (.agg (cs8 (keyL I))) := hd 31 (by kernel_rfl)
              exact ok_eql_keys (wanted_of rfl rfl (hd 25 (by kernel_rfl))) rfl _ _ true (by simp [keyL_len]) (by simp [keyL_len]) (by simp) h0 h1 (cs8_ints _) (cs8_ints _)
            · intro s v hC hk hd
              have h0 : s.tmps[57]? = some (.bool true) := hd 25 (by kernel_rfl)
              have h1 : s.tmps[64]? = some (.bool true) := hd 32 (by kernel_rfl)
              exact ok_value rfl (by simp [execOp, Act.eval, h0, h1, go_sem])
            · intro s v hC hk hd
              have h : s.tmps[65]? = some (.bool true) := hd 33 (by kernel_rfl)
              exact ok_value rfl (by simp [execOp, Act.eval, h])
            · intro s v hC hk hd
              have h : s.tmps[6]? = some (.int .i64 wh) := hk 6 (by kernel_rfl)
              exact ok_value (wanted_of rfl rfl (hd 34 (by kernel_rfl))) (by simp [execOp, Act.eval, h])
            · intro s v hC hk hd
              have h : s.tmps[7]? = some (.pointer (some ⟨h1, 0, none⟩)) := hk 7 (by kernel_rfl)
              exact ok_load (wanted_of rfl rfl (hd 34 (by kernel_rfl))) rfl h (A7 hC) Try.underlying30 rfl (by kernel_rfl) rfl
            · intro s v hC hk hd
              have h : s.tmps[8]? = some (.pointer (some ⟨h2, 0, none⟩)) := hk 8 (by kernel_rfl)
              exact ok_load (wanted_of rfl rfl (hd 34 (by kernel_rfl))) rfl h (A8 hC) Try.underlying30 rfl (by kernel_rfl) rfl
            · intro s v hC hk hd
              have h0 : s.tmps[67]? = some (.int .i64 wh) := hd 35 (by kernel_rfl)
              have h1 : s.tmps[68]? = some (E4 X) := hd 36 (by kernel_rfl)
              have h2 : s.tmps[69]? = some (E4 Y) := hd 37 (by kernel_rfl)
              exact ok_call (wanted_of rfl rfl (hd 34 (by kernel_rfl))) (by simp [Act.eval, h0, h1, h2, go_sem]) (KP.out v)
            · intro s v hC hk hd
              have h0 : s.tmps[70]? = some (E4 Z) := hd 38 (by kernel_rfl)
              exact ok_call (wanted_of rfl rfl (hd 34 (by kernel_rfl))) (by simp [Act.eval, h0, go_sem]) (key_any Z v)
            · intro s v hC hk hd
              have h : s.tmps[11]? = some (.pointer (some ⟨q3, 0, none⟩)) := hk 11 (by kernel_rfl)
              exact ok_load (wanted_of rfl rfl (hd 34 (by kernel_rfl))) rfl h (A11 hC) Try.underlying33 rfl (by kernel_rfl) (ca_size _ _)
            · intro s v hC hk hd
              have h0 : s.tmps[72]? = some (.agg (ca 16 (dg Z))) := hd 40 (by kernel_rfl)
              exact ok_call (wanted_of rfl rfl (hd 34 (by kernel_rfl))) (by simp [Act.eval, h0, go_sem]) (rkey_any Z v)
            · intro s v hC hk hd
              have h0 : s.tmps[71]? = some (.agg (cs8 (keyL Z))) := hd 39 (by kernel_rfl)
              have h1 : s.tmps[73]? = some (.agg (cs8 (keyL Z))) := hd 41 (by kernel_rfl)
              exact ok_eql_keys (wanted_of rfl rfl (hd 34 (by kernel_rfl))) rfl _ _ true (by simp [keyL_len]) (by simp [keyL_len]) (by simp) h0 h1 (cs8_ints _) (cs8_ints _)
            · intro s v hC hk hd
              have h0 : s.tmps[66]? = some (.bool true) := hd 34 (by kernel_rfl)
              have h1 : s.tmps[74]? = some (.bool true) := hd 42 (by kernel_rfl)
              exact ok_value rfl (by simp [execOp, Act.eval, h0, h1, go_sem])
            · intro s v hC hk hd
              have h : s.tmps[75]? = some (.bool true) := hd 43 (by kernel_rfl)
              exact ok_value rfl (by simp [execOp, Act.eval, h])
            · intro s v hC hk hd
              have h : s.tmps[7]? = some (.pointer (some ⟨h1, 0, none⟩)) := hk 7 (by kernel_rfl)
              exact ok_load (wanted_of rfl rfl (hd 44 (by kernel_rfl))) rfl h (A7 hC) Try.underlying30 rfl (by kernel_rfl) rfl
            · intro s v hC hk hd
              have h : s.tmps[8]? = some (.pointer (some ⟨h2, 0, none⟩)) := hk 8 (by kernel_rfl)
              exact ok_load (wanted_of rfl rfl (hd 44 (by kernel_rfl))) rfl h (A8 hC) Try.underlying30 rfl (by kernel_rfl) rfl
            · intro s v hC hk hd
              have h0 : s.tmps[77]? = some (E4 X) := hd 45 (by kernel_rfl)
              have h1 : s.tmps[78]? = some (E4 Y) := hd 46 (by kernel_rfl)
              exact ok_call (wanted_of rfl rfl (hd 44 (by kernel_rfl))) (by simp [Act.eval, h0, h1, go_sem]) (same_eq X Y HX.out HY.out r HR.out v)
            · intro s v hC hk hd
              have h : s.tmps[9]? = some (.pointer (some ⟨q1, 0, none⟩)) := hk 9 (by kernel_rfl)
              exact ok_load (wanted_of rfl rfl (hd 44 (by kernel_rfl))) rfl h (A9 hC) Try.underlying33 rfl (by kernel_rfl) (ca_size _ _)
            · intro s v hC hk hd
              have h : s.tmps[10]? = some (.pointer (some ⟨q2, 0, none⟩)) := hk 10 (by kernel_rfl)
              exact ok_load (wanted_of rfl rfl (hd 44 (by kernel_rfl))) rfl h (A10 hC) Try.underlying33 rfl (by kernel_rfl) (ca_size _ _)
            · intro s v hC hk hd
              have h0 : s.tmps[80]? = some (.agg (ca 16 (dg X))) := hd 48 (by kernel_rfl)
              have h1 : s.tmps[81]? = some (.agg (ca 16 (dg Y))) := hd 49 (by kernel_rfl)
              exact ok_eql_digits (wanted_of rfl rfl (hd 44 (by kernel_rfl))) rfl h0 h1 HX.out HY.out HR.out
            · intro s v hC hk hd
              have h0 : s.tmps[79]? = some (.bool r) := hd 47 (by kernel_rfl)
              have h1 : s.tmps[82]? = some (.bool r) := hd 50 (by kernel_rfl)
              exact ok_value (wanted_of rfl rfl (hd 44 (by kernel_rfl))) (by simp [execOp, Act.eval, h0, h1, go_sem])
            · intro s v hC hk hd
              have h0 : s.tmps[76]? = some (.bool true) := hd 44 (by kernel_rfl)
              have h1 : s.tmps[83]? = some (.bool true) := hd 51 (by kernel_rfl)
              exact ok_value rfl (by simp [execOp, Act.eval, h0, h1, go_sem])
            · intro s v hC hk hd
              have h : s.tmps[84]? = some (.bool true) := hd 52 (by kernel_rfl)
              exact ok_value rfl (by simp [execOp, Act.eval, h])
            · intro s v hC hk hd
              exact ok_call (wanted_of rfl rfl (hd 53 (by kernel_rfl))) (by simp [go_sem]) (wakes_any v)
            · intro s v hC hk hd
              have h0 : s.tmps[85]? = some (.bool true) := hd 53 (by kernel_rfl)
              have h1 : s.tmps[86]? = some (.bool true) := hd 54 (by kernel_rfl)
              exact ok_value rfl (by simp [execOp, Act.eval, h0, h1, go_sem])
          · intro b wB hC _ _
            simp [valsOf, valOf, putAll, Act.put]
            have B : Hid (Below w.heap.size w wB) := BV.out.trans (hC.mono BV.out.size)
            clear hC A7 A8 A9 A10 A11
            go_wp2_with fail
            go_ret
            exact ⟨rfl, B.out⟩
end Go.Proofs.Ytpgmaidbemndnaa
