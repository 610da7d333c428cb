/- Several texts in one: A region that draws its order, where reckonings may come behind a store: they are taken first; two reads come up in either order; then the rest in its row. The document: a number's text. The document: powers. The laws of numbers: what they share. The law NatBits. -/
import Derived.Test.YtcannnmpemnklaaDoorZ5
import Derived.Test.YtcannnmpemnklaaDoorZ3
import Derived.Test.YtcannnmpemnklaaDoorZ8
namespace Go.Proofs.YtcannnmpemnklaaDoor
open Go.RowKit
section
variable {P : Program} {ops : Array Oper} {a : Act} {w0 w w' : World} {Q : Exit → Act → World → Prop} {n : Nat} {l : Slots} {L : Blks} {S : Nat → Prop} {R : List Row} {o : Oper}
theorem mvV {x : Operand} {v : Value} (ho : o.op = .move x) (hx : evO l x = some v) : RunV P l L o v := fun ρ w A _ => by
  simp only [execOp, ho, A x _ hx, Sem.run_pure]
theorem lenV {x : Operand} {t e : TypeId} {p : Option Addr} {m c : Nat} (ho : o.op = .call ⟨.builtin .len, #[x], #[t]⟩) (hx : evO l x = some (.slice p m c)) (ht : P.underlying t = some (.slice e)) : RunV P l L o (.int .i64 (m : Nat)) := fun ρ w A _ => by
  have h3 := A x _ hx
  have hl := run_len (P := P) (w := w) (ty := o.type) (t := t) (u := .slice p m c) (z := .int .i64 (Int.ofNat m)) (cs := []) (by simp [aLen, ht])
  simp [execOp, ho, resolve, invoke, builtin, h3, hl]
theorem subV {x y : Operand} {t t' : TypeId} {p q : Nat} (ho : o.op = .binOp .sub t x y t') (hx : evO l x = some (.int .i64 (p : Nat))) (hy : evO l y = some (.int .i64 (q : Nat))) (h : q ≤ p) (h2 : p < 9223372036854775808) : RunV P l L o (.int .i64 ((p - q : Nat) : Int)) := fun ρ w A _ => by
  have e1 : ρ x = .int .i64 (p : Int) := A x _ hx
  have e2 : ρ y = .int .i64 (q : Int) := A y _ hy
  have hr := run_nat (P := P) (w := w) (way := 1) (op := .sub) (k := .i64) (m := p) (n := q) (t := t) (v := .int .i64 ((p - q : Nat) : Int)) (cs := [q ≤ p, p - q < top .i64]) rfl (fun c hc => by
    simp only [List.mem_cons, List.not_mem_nil, or_false] at hc
    rcases hc with rfl | rfl
    · exact h
    · show p - q < 9223372036854775808
      omega)
  simp only [execOp, ho, e1, e2, Sem.run_bind, run_eqGuard_int, hr, Result.andThen_ok, Sem.run_pure]
theorem addrV {x y : Operand} {t e : TypeId} {g i m c : Nat} (ho : o.op = .indexAddr t x y) (hx : evO l x = some (.slice (some ⟨g, 0, none⟩) m c)) (hy : evO l y = some (.int .i64 (i : Nat))) (ht : P.underlying t = some (.slice e)) (hz : szOf P e = some 1) (hi : i < m) : RunV P l L o (.pointer (some ⟨g, i, none⟩)) := fun ρ w A _ => by
  have e1 := A x _ hx
  have e2 : ρ y = .int .i64 (i : Int) := A y _ hy
  have q := run_idxAddr (P := P) (w := w) (way := 1) (t := t) (u := .slice (some ⟨g, 0, none⟩) m c) (z := .pointer (some ⟨g, i, none⟩)) (i := i) (cs := [i < m]) (by simp [aIdxAddr, ht, hz, addOff, mulSz]) (fun c hc => by rw [List.mem_singleton] at hc; rw [hc]; exact hi)
  simp only [execOp, ho, e1, e2, Sem.run_bind, q, Result.andThen_ok, Sem.run_pure]
theorem loadV {x : Operand} {t : TypeId} {g i : Nat} {cs : Array Value} {T : TypeId} {fr : Nat × Nat} {v : Value} {d : TypeDesc} (ho : o.op = .load t x) (hx : evO l x = some (.pointer (some ⟨g, i, none⟩))) (ht : P.underlying t = some d) (hd : d.isRow = false) (hm : (g, Obj.cells cs T fr) ∈ L) (hc : cs[i]? = some v) : RunV P l L o v := fun ρ w A H => by
  have e1 := A x _ hx
  have hcell : w.cell? ⟨g, i, none⟩ = some v := by rw [cell_of (Has.mem H hm)]; exact hc
  have hag := isAgg_of (P := P) (w := w) ht
  rw [hd] at hag
  simp only [execOp, ho, e1]
  simp [Instr.loadAt, Instr.sureAddr, loadVar, hag, go_sem, hcell]
theorem draw_open {id N : Nat} (hm : P.follows .mixedOrders = true) (hN : ops.size = N) (M : MemS S w0 w L R) (K : ∀ w', MemS S w0 w' L R → wpAny P .any ops Q N (Array.replicate N false) a w') : (Code.region id ops true).wp P Q a w := by
  refine wp_region_any hm ?_
  rw [hN]
  exact K _ (M.keep (w' := { w with drawn := w.drawn + 1 }) ⟨rfl, rfl, rfl, Nat.le_refl _, fun _ _ => rfl⟩)
/-- A reckoning that looks at no memory is taken first. -/
theorem take_op (F : Fr n a l) {i : Nat} {oi : Oper} {v : Value} {d fuel : Nat} {listed : Array Bool} (hi : ops[i]? = some oi) (hs : Region.noSelect ops = true) (hf : Region.free .any ops listed i = true) (hr : (Region.ready .any ops listed).contains i = true)
    (hQ : ∀ c a (d : Nat) v w, Q (.panic c) (a.put (some d) v) w → Q (.panic c) a w) (hd : oi.dst = some d) (hn : d < n) (hg : wantOf ops.toList l oi = some true) (hrun : RunV P l [] oi v)
    (K : ∀ a', Fr n a' (upd d v l) → wpAny P .any ops Q fuel (listed.setIfInBounds i true) a' w) : wpAny P .any ops Q (fuel + 1) listed a w := by
  refine wpAny_take hi hs hf hr (fun c a w h => by rw [hd] at h; exact hQ c a d v w h) (.inl ⟨wanted_iff hg F.lk, fun w => hrun a.eval w F.agr (fun k y hy => by simp at hy)⟩) ?_
  rw [hd]
  exact K _ (F.put _ hn)
theorem read_op (F : Fr n a l) (H : Has w L) {i : Nat} {oi : Oper} {v : Value} {d : Nat} {K : Act → World → Prop} (hi : ops[i]? = some oi) (hd : oi.dst = some d) (hg : wantOf ops.toList l oi = some true) (hrun : RunV P l L oi v) (hK : K (a.put (some d) v) w) : wpOp P ops Q i K a w := by
  unfold wpOp
  simp only [hi, wanted_iff hg F.lk, if_true, Oper.wp, hrun a.eval w F.agr H, Oper.upon]
  rw [hd]
  exact .inl hK
/-- Two reads, in either order. -/
theorem take_two (F : Fr n a l) (H : Has w L) {i j : Nat} {oi oj : Oper} {u v : Value} {d e fuel : Nat} {listed : Array Bool} (hr : Region.ready .any ops listed = [i, j]) (hr1 : Region.ready .any ops (listed.setIfInBounds i true) = [j]) (hr2 : Region.ready .any ops (listed.setIfInBounds j true) = [i])
    (hi : ops[i]? = some oi) (hj : ops[j]? = some oj) (hd : oi.dst = some d) (he : oj.dst = some e) (hn : d < n) (hn2 : e < n) (hne : d ≠ e) (hij : i ≠ j) (hgi : wantOf ops.toList l oi = some true) (hgj : wantOf ops.toList l oj = some true) (hgi2 : wantOf ops.toList (upd e v l) oi = some true) (hgj2 : wantOf ops.toList (upd d u l) oj = some true)
    (hu : RunV P l L oi u) (hv : RunV P l L oj v) (hu2 : RunV P (upd e v l) L oi u) (hv2 : RunV P (upd d u l) L oj v)
    (K : ∀ a', Fr n a' (upd e v (upd d u l)) → wpAny P .any ops Q fuel ((listed.setIfInBounds i true).setIfInBounds j true) a' w) : wpAny P .any ops Q (fuel + 1 + 1) listed a w := by
  have hK := K _ ((F.put u hn).put v hn2)
  refine wpAny_all hr (by simp) fun k hk => ?_
  simp only [List.mem_cons, List.not_mem_nil, or_false] at hk
  rcases hk with hk | hk <;> rw [hk]
  · refine read_op F H hi hd hgi hu (wpAny_all hr1 (by simp) fun k2 hk2 => ?_)
    rw [List.mem_singleton] at hk2
    rw [hk2]
    exact read_op (F.put u hn) H hj he hgj2 hv2 hK
  · refine read_op F H hj he hgj hv (wpAny_all hr2 (by simp) fun k2 hk2 => ?_)
    rw [List.mem_singleton] at hk2
    rw [hk2]
    refine read_op (F.put v hn2) H hi hd hgi2 hu2 ?_
    rw [Act.put_comm a v u (x := some e) (y := some d) (fun z hz => by cases hz; exact fun q => hne (Option.some.inj q)), show (listed.setIfInBounds j true).setIfInBounds i true = (listed.setIfInBounds i true).setIfInBounds j true by
      rw [Array.setIfInBounds_comm _ _ hij.symm]]
    exact hK
/-- .. and then the row. -/
theorem to_row (m : Nat) {fuel : Nat} {listed : Array Bool} (hb : (List.range ops.toList.length).all (fun i => ((ops.toList[i]?).map fun o => (depsOf o).all fun j => decide (j < i)).getD true) = true) (hw : (List.range ops.toList.length).all (fun i => i ≤ m || ((ops.toList[i]?).map fun o => (depsOf o).contains (i - 1)).getD true) = true)
    (hm : m ≤ ops.size) (hs : listed.size = ops.size) (hl : (List.range m).all (fun j => listed.getD j false) = true) (hn : (List.range ops.size).all (fun j => decide (j < m) || !listed.getD j false) = true) (hf : ops.size ≤ m + fuel) (h : wpList P ops Q (ops.toList.drop m) a w) : wpAny P .any ops Q fuel listed a w := by
  refine tail_any_row m (fun i o ho j hj => ?_) (fun i o ho hi => ?_) fuel m listed a w (Nat.le_refl _) hm hs (fun j hj => ?_) (fun j hj => ?_) hf h
  · have hi : i < ops.toList.length := by
      rcases Nat.lt_or_ge i ops.toList.length with h | h
      · exact h
      · rw [List.getElem?_eq_none h] at ho; cases ho
    have h2 := List.all_eq_true.1 hb i (List.mem_range.2 hi)
    rw [ho] at h2
    simp only [Option.map_some, Option.getD_some] at h2
    exact of_decide_eq_true (List.all_eq_true.1 h2 j hj)
  · have hi' : i < ops.toList.length := by
      rcases Nat.lt_or_ge i ops.toList.length with h | h
      · exact h
      · rw [List.getElem?_eq_none h] at ho; cases ho
    have h2 := List.all_eq_true.1 hw i (List.mem_range.2 hi')
    rw [ho] at h2
    simp only [Option.map_some, Option.getD_some, Bool.or_eq_true, decide_eq_true_eq] at h2
    rcases h2 with h2 | h2
    · omega
    · simpa using h2
  · exact List.all_eq_true.1 hl j (List.mem_range.2 hj)
  · rcases Nat.lt_or_ge j ops.size with h2 | h2
    · have h3 := List.all_eq_true.1 hn j (List.mem_range.2 h2)
      simp only [Bool.or_eq_true, decide_eq_true_eq] at h3
      rcases h3 with h3 | h3
      · omega
      · simpa using h3
    · rw [Array.getD_eq_getD_getElem?, Array.getElem?_eq_none (by omega)]; rfl
/-- A row of bytes as a block. -/
theorem MemS.freezeB {g m cap : Nat} {e : TypeId} {X : List Nat} (M : MemS S w0 w L ((.slice (some ⟨g, 0, none⟩) m cap, e, 1, m, bcells X) :: R)) : ∃ rest : Array Value, MemS S w0 w ((g, .cells (cn .u8 X ++ rest) e) :: L) R ∧ w0.heap.size ≤ g ∧ m ≤ cap ∧ cap ≤ maxLen ∧ (cn .u8 X ++ rest).size = cap ∧ X.length = m := by
  obtain ⟨cur, h1, h2, h3, h4, h5, h6, h7⟩ := M.freeze
  have e1 : cur = cn .u8 X ++ (cur.toList.drop m).toArray := by
    apply Array.ext'
    rw [Array.toList_append, bcells_cn]
    conv => lhs; rw [← List.take_append_drop m cur.toList]
    rw [Nat.mul_one] at h6
    rw [h6]
  refine ⟨(cur.toList.drop m).toArray, ?_, h2, h3, h4, ?_, ?_⟩
  · rw [← e1]; exact h1
  · rw [← e1, h5, Nat.mul_one]
  · have : (bcells X).length = X.length := by simp [bcells]
    omega
end
end Go.Proofs.YtcannnmpemnklaaDoor
namespace Go.Proofs.YtcannnmpemnklaaDoor
open Go.RowKit

def strAt (t : Nat) (a : Act) : Nat := match a.tmps[t]? with | some (.string s) => leV (nl s) | _ => 0
theorem leV_minB (N : Nat) : leV (minB N) = N := by rw [minB, leV_leB, Nat.mod_eq_of_lt (sz_ok N).1]
theorem strAt_of {t N : Nat} {a : Act} (h : a.tmps[t]? = some (.string (bs (minB N)))) : strAt t a = N := by
  unfold strAt
  rw [h]
  show leV (nl (bs (minB N))) = N
  rw [nl_bs _ (minB_lt N), leV_minB]
/-- The digits of A / 10 from j on; below, those of A. -/
def qt (A j : Nat) : List Nat := (List.range (sz A)).map fun p => if j ≤ p then d8 (A / 10) p else d8 A p
theorem qt_sz (A j : Nat) : (qt A j).length = sz A := by simp [qt]
theorem qt_len (A j : Nat) : (qt A j).length = (minB A).length := by rw [qt_sz, minB_len]
theorem qt_get (A j : Nat) {p : Nat} (h : p < sz A) : (qt A j).getD p 0 = if j ≤ p then d8 (A / 10) p else d8 A p := by simp [qt, h]
theorem qt_lt (A j i : Nat) : (qt A j).getD i 0 < 256 := by
  rcases Nat.lt_or_ge i (sz A) with h | h
  · rw [qt_get _ _ h]; split <;> exact d8_lt _ _
  · rw [List.getD_eq_getElem?_getD, List.getElem?_eq_none (by rw [qt_sz]; exact h)]; decide
theorem qt_top (A : Nat) : qt A (sz A) = minB A := by
  refine ext_getD (qt_len _ _) fun p hp => ?_
  rw [qt_sz] at hp
  rw [qt_get _ _ hp, minB_get, if_neg (by omega)]; rfl
theorem qt_val (A : Nat) : leV (qt A 0) = A / 10 := by
  have e : qt A 0 = leB (sz A) (A / 10) := by
    refine ext_getD (by rw [qt_sz, leB_len]) fun p hp => ?_
    rw [qt_sz] at hp
    rw [qt_get _ _ hp, leB_get hp, if_pos (Nat.zero_le _)]; rfl
  rw [e, leV_leB, Nat.mod_eq_of_lt (Nat.lt_of_le_of_lt (Nat.div_le_self _ _) (sz_ok A).1)]
theorem qt_step (A j : Nat) (h : j < sz A) : (qt A (j + 1)).set j (d8 (A / 10) j) = qt A j := by
  refine ext_getD (by rw [List.length_set, qt_sz, qt_sz]) fun p hp => ?_
  rw [List.length_set, qt_sz] at hp
  rw [getD_set, qt_get _ _ hp, qt_get _ _ hp, qt_sz]
  by_cases e : j = p
  · subst e; rw [if_pos ⟨rfl, h⟩, if_pos (Nat.le_refl _)]
  · rw [if_neg (fun h => e h.1)]
    by_cases h1 : j + 1 ≤ p
    · rw [if_pos h1, if_pos (by omega)]
    · rw [if_neg h1, if_neg (by omega)]
theorem qt_dig (A j : Nat) : ((A / 256 ^ (j + 1) % 10 * 256 + d8 A j) / 10) % 256 = d8 (A / 10) j := by
  have e : A / 10 / 256 ^ j = A / 256 ^ j / 10 := by rw [Nat.div_div_eq_div_mul, Nat.div_div_eq_div_mul, Nat.mul_comm]
  unfold d8
  rw [e, Nat.pow_succ, ← Nat.div_div_eq_div_mul]
  omega
theorem qt_rem (A j : Nat) : (A / 256 ^ (j + 1) % 10 * 256 + d8 A j) % 10 = A / 256 ^ j % 10 := by
  unfold d8
  rw [Nat.pow_succ, ← Nat.div_div_eq_div_mul]
  omega
/-- The digits' letters, from the lowest on. -/
def dgs (k N : Nat) : List Nat := (dleB k N).map (48 + ·)
theorem dgs_len (k N : Nat) : (dgs k N).length = k := by simp [dgs, dleB_len]
theorem dgs_succ (k N : Nat) : dgs (k + 1) N = dgs k N ++ [48 + N / 10 ^ k % 10] := by simp [dgs, dleB_succ]
theorem dgs_lt (k N i : Nat) : (dgs k N).getD i 0 < 256 := by
  rcases Nat.lt_or_ge i k with h | h
  · have h1 := dig_le N i
    rw [List.getD_eq_getElem?_getD, dgs, List.getElem?_map, dleB, List.getElem?_map, List.getElem?_range h]
    simp; omega
  · rw [List.getD_eq_getElem?_getD, List.getElem?_eq_none (by rw [dgs_len]; exact h)]; decide
theorem dgs_all {N : Nat} (h : N ≠ 0) : (dgs (dsz N) N).reverse = decN N := by rw [decN_K h]; rfl
theorem div_pos10 {N k : Nat} (h : sz (N / 10 ^ k) > 0) : 0 < N / 10 ^ k := by
  rcases Nat.eq_zero_or_pos (N / 10 ^ k) with e | e
  · rw [e] at h; exact absurd h (by decide)
  · exact e
theorem div_less {N k : Nat} (h : sz (N / 10 ^ k) > 0) : N / 10 ^ (k + 1) < N / 10 ^ k := by
  rw [Nat.pow_succ, ← Nat.div_div_eq_div_mul]
  exact Nat.div_lt_self (div_pos10 h) (by decide)
theorem k_dsz {N k : Nat} (h : k = 0 ∨ N / 10 ^ (k - 1) ≠ 0) : k ≤ dsz N := by
  rcases h with h | h
  · omega
  · refine Nat.le_of_not_lt fun h2 => h (Nat.div_eq_of_lt (dlt_sz (by omega)))
theorem dsz_sz (N : Nat) : dsz N ≤ 3 * sz N := dsz_le (Nat.lt_of_lt_of_le (sz_ok N).1 (by rw [Nat.pow_mul]; exact Nat.pow_le_pow_left (by decide) _))
theorem k_end {N k : Nat} (h : k = 0 ∨ N / 10 ^ (k - 1) ≠ 0) (h2 : ¬ sz (N / 10 ^ k) > 0) : k = dsz N := by
  have e : N / 10 ^ k = 0 := sz0 (by omega)
  have h3 : N < 10 ^ k := by
    rcases Nat.lt_or_ge N (10 ^ k) with h4 | h4
    · exact h4
    · have := Nat.div_pos h4 (dpw_pos k); omega
  refine dsz_of h3 ?_
  rcases h with h | h
  · exact .inl h
  · refine .inr (Nat.le_of_not_lt fun h4 => h (Nat.div_eq_of_lt h4))
/-- A list of which i have changed places with those at the other end. -/
def rvL (X : List Nat) (i : Nat) : List Nat := (List.range X.length).map fun p => if p < i ∨ X.length - i ≤ p then X.getD (X.length - 1 - p) 0 else X.getD p 0
theorem rvL_len (X : List Nat) (i : Nat) : (rvL X i).length = X.length := by simp [rvL]
theorem rvL_get (X : List Nat) (i : Nat) {p : Nat} (h : p < X.length) : (rvL X i).getD p 0 = if p < i ∨ X.length - i ≤ p then X.getD (X.length - 1 - p) 0 else X.getD p 0 := by
  rw [rvL, List.getD_eq_getElem?_getD, List.getElem?_map, List.getElem?_range h]; rfl
theorem rvL_zero (X : List Nat) : rvL X 0 = X := by
  refine ext_getD (rvL_len _ _) fun p hp => ?_
  rw [rvL_len] at hp
  rw [rvL_get _ _ hp, if_neg (by omega)]
theorem rvL_lt {X : List Nat} (h : ∀ i, X.getD i 0 < 256) (i p : Nat) : (rvL X i).getD p 0 < 256 := by
  rcases Nat.lt_or_ge p X.length with h1 | h1
  · rw [rvL_get _ _ h1]; split <;> exact h _
  · rw [List.getD_eq_getElem?_getD, List.getElem?_eq_none (by rw [rvL_len]; exact h1)]; decide
theorem rvL_step {X : List Nat} {n i : Nat} (hn : X.length = n) (h : i < n / 2) : ((rvL X i).set i (X.getD (n - 1 - i) 0)).set (n - 1 - i) (X.getD i 0) = rvL X (i + 1) := by
  subst hn
  refine ext_getD (by simp [rvL]) fun p hp => ?_
  simp only [List.length_set, rvL_len] at hp
  rw [getD_set, getD_set, rvL_get _ _ hp, rvL_get _ _ hp, List.length_set, rvL_len]
  by_cases e : X.length - 1 - i = p
  · rw [if_pos ⟨e, by omega⟩, if_pos (by omega), show X.length - 1 - p = i by omega]
  · rw [if_neg (fun q => e q.1)]
    by_cases e2 : i = p
    · rw [if_pos ⟨e2, by omega⟩, if_pos (by omega), e2]
    · rw [if_neg (fun q => e2 q.1)]
      by_cases e3 : p < i ∨ X.length - i ≤ p
      · rw [if_pos e3, if_pos (by omega)]
      · rw [if_neg e3, if_neg (by omega)]
theorem rvL_end {X : List Nat} {n i : Nat} (hn : X.length = n) (h : ¬ i < n / 2) (h2 : i ≤ n / 2) : rvL X i = X.reverse := by
  subst hn
  refine ext_getD (by rw [rvL_len, List.length_reverse]) fun p hp => ?_
  rw [rvL_len] at hp
  have e : X.reverse.getD p 0 = X.getD (X.length - 1 - p) 0 := by
    rw [List.getD_eq_getElem?_getD, List.getElem?_reverse hp, ← List.getD_eq_getElem?_getD]
  rw [rvL_get _ _ hp, e]
  by_cases e3 : p < i ∨ X.length - i ≤ p
  · rw [if_pos e3]
  · rw [if_neg e3, show X.length - 1 - p = p by omega]
theorem str_cat {X : List Nat} {rest : Array Value} {n : Nat} (hn : X.length = n) (hX : ∀ i, X.getD i 0 < 256) : StrAt (cn .u8 X ++ rest) 0 n (bs X) := by
  obtain ⟨h1, h2⟩ := str_all hn hX
  exact ⟨h1, fun i hi => (cat_l (by rw [cn_size]; omega)).trans (h2 i hi)⟩
set_option maxRecDepth 100000 in
theorem text8_any (N : Nat) (hz : sz N < 100000) (w0 : World) :
    Calls Tryd.prog 14 #[.string (bs (minB N))] w0 fun e w' => e = .returned (.string (bs (decN N))) ∧ Below w0.heap.size w0 w' := by
  refine enter_fr Tryd.func14 rfl Tryd.ntmps14 (by simp) fun ac (FF : Fr 80 ac [(0, .string (bs (minB N)))]) => ?_
  have MM := MemS.start w0
  refine wp_seq (rg_seq FF MM [o_] [0, 2] (fun Kt => Kt [(2, .string (bs [])), (0, .string (bs (minB N)))] []) (by kernel_rfl) (fun _ => by kernel_rfl) (fun ac1 wd1 FF1 MM1 => then_n ?_))
  refine wp_seq ?_
  refine wp_seq (rg_seq FF1 MM1 [o_, t_ (.int .i64 (sz N : Nat)), o_] [2, 0, 11] (fun Kt => Value.int .i64 ((bs (minB N)).size : Nat) = .int .i64 (sz N : Nat) ∧ Kt [(11, .bool (decide ((sz N) = 0))), (2, .string (bs [])), (0, .string (bs (minB N)))] []) (by kernel_rfl) (fun _ => by kernel_rfl) (⟨(vI ((bs_size _).trans (minB_len N))), fun ac2 wd2 FF2 MM2 => then_n ?_⟩))
  by_cases hs11 : (sz N) = 0
  · refine wp_cond_true ((FF2.ev 0 rfl).trans (dec_t hs11)) ?_
    refine wp_seq (rg_seq FF2 MM2 [o_] [2, 0] (fun Kt => Kt [(2, .string (bs [48])), (0, .string (bs (minB N)))] []) (by kernel_rfl) (fun _ => by kernel_rfl) (fun ac3 wd3 FF3 MM3 => then_n ?_))
    refine wp_ret ?_
    repeat first | refine then_ret ?_ | refine inb_ret ?_
    exact (ret_fr FF3 0 Tryd.results14 rfl ⟨congrArg (fun z => Ending.returned (Value.string (bs z))) (by rw [show N = 0 from sz0 hs11]; rfl), MM3.below⟩)
  · refine wp_cond_false ((FF2.ev 0 rfl).trans (dec_f hs11)) ?_
    have hN0 : N ≠ 0 := fun e => hs11 (by rw [e]; rfl)
    have hdz := dsz_sz N
    refine wp_skip ?_
    refine then_n ?_
    refine wp_seq (rg_seq FF2 MM2 [o_] [2, 0, 3] (fun Kt => Kt [(3, .slice none 0 0), (2, .string (bs [])), (0, .string (bs (minB N)))] []) (by kernel_rfl) (fun _ => by kernel_rfl) (fun ac4 wd4 FF4 MM4 => then_n ?_))
    have MMn := MM4.rowNil 5 1
    have FFz : Fr 80 ac4 [(3, .slice none 0 0), (2, .string (bs [])), (0, .string (bs (minB (N / 10 ^ 0))))] := by rw [Nat.pow_zero, Nat.div_one]; exact FF4
    refine wp_seq ?_
    refine wp_for2w (fun a' w' => ∃ rv : Value, ∃ k : Nat, (k = 0 ∨ N / 10 ^ (k - 1) ≠ 0) ∧ Fr 80 a' [(3, rv), (2, .string (bs [])), (0, .string (bs (minB (N / 10 ^ k))))] ∧ MemS (fun k => k < w0.heap.size) w0 w' [] [(rv, 5, 1, k, (bcells (dgs k N)))]) (fun a' _ => strAt 0 a') ⟨(.slice none 0 0), 0, .inl rfl, FFz.pick [0, 1, 2], MMn⟩ ?_
    rintro ac5 wd5 ⟨rv, k, hk, FF5, MM5⟩
    have hc := strAt_of (FF5.get 2 rfl)
    refine rg_seq FF5 MM5 [o_, t_ (.int .i64 (sz (N / 10 ^ k) : Nat)), o_] [3, 2, 0, 14] (fun Kt => Value.int .i64 ((bs (minB (N / 10 ^ k))).size : Nat) = .int .i64 (sz (N / 10 ^ k) : Nat) ∧ Kt [(14, .bool (decide ((sz (N / 10 ^ k)) > 0))), (3, rv), (2, .string (bs [])), (0, .string (bs (minB (N / 10 ^ k))))] []) (by kernel_rfl) (fun _ => by kernel_rfl) (⟨(vI ((bs_size _).trans (minB_len (N / 10 ^ k)))), fun ac6 wd6 FF6 MM6 => ?_⟩)
    by_cases hlt : (sz (N / 10 ^ k)) > 0
    · skip
      refine then_n (.inl ⟨(FF6.ev 0 rfl).trans (dec_t hlt), ?_⟩)
      have hkk := k_dsz hk
      have hsA : sz (N / 10 ^ k) ≤ sz N := sz_mono (Nat.div_le_self _ _)
      have hml := minB_len (N / 10 ^ k)
      refine wp_seq (wp_region_list ?_)
      refine rg_part 1 FF6 MM6 [o_] [3, 2, 0, 15] (fun Kt => Kt [(15, .string (bs (minB (N / 10 ^ k)))), (3, rv), (2, .string (bs [])), (0, .string (bs (minB (N / 10 ^ k))))] []) (by kernel_rfl) (fun _ => by kernel_rfl) (fun ac7 wd7 FF7 MM7 => ?_)
      refine st_new [3, 2, 0, 16] FF7 MM7 (d := 16) (bytes_ok (e := 5) (x := (.tmp 15)) (by kernel_rfl) rfl (minB_lt (N / 10 ^ k)) Tryd.underlying29 Tryd.underlying59 Tryd.underlying5) rfl rfl (by decide) fun ac8 wd8 bb cz (FF8 : Fr 80 ac8 [(16, .slice (some ⟨bb, 0, none⟩) ((minB (N / 10 ^ k)).length) ((minB (N / 10 ^ k)).length + cz)), (3, rv), (2, .string (bs [])), (0, .string (bs (minB (N / 10 ^ k))))]) (MM8 : MemS (fun k => k < w0.heap.size) w0 wd8 [(bb, .cells (cn .u8 ((minB (N / 10 ^ k)) ++ List.replicate cz 0)) 5 ((minB (N / 10 ^ k)).length + cz, (minB (N / 10 ^ k)).length + cz + 1))] [(rv, 5, 1, k, (bcells (dgs k N)))]) => ?_
      refine rg_part 1 FF8 MM8 [o_] [3, 2, 0, 4] (fun Kt => Kt [(4, .slice (some ⟨bb, 0, none⟩) ((minB (N / 10 ^ k)).length) ((minB (N / 10 ^ k)).length + cz)), (3, rv), (2, .string (bs [])), (0, .string (bs (minB (N / 10 ^ k))))] [(bb, .cells (cn .u8 ((minB (N / 10 ^ k)) ++ List.replicate cz 0)) 5 ((minB (N / 10 ^ k)).length + cz, (minB (N / 10 ^ k)).length + cz + 1))]) (by kernel_rfl) (fun _ => by kernel_rfl) (fun ac9 wd9 FF9 MM9 => ?_)
      refine wpl_nil (then_n ?_)
      have MMr35 : MemS (fun k => k < w0.heap.size) w0 wd9 [(bb, .cells (cn .u8 (qt (N / 10 ^ k) (sz (N / 10 ^ k)) ++ List.replicate cz 0)) 5 ((minB (N / 10 ^ k)).length + cz, (minB (N / 10 ^ k)).length + cz + 1))] [(rv, 5, 1, k, (bcells (dgs k N)))] := by rw [qt_top]; exact MM9
      refine wp_seq (rg_seq FF9 MMr35 [t_ (.int .i64 ((N / 10 ^ k) / 256 ^ sz (N / 10 ^ k) % 10 : Nat))] [4, 3, 2, 0, 5] (fun Kt => Value.int .i64 (0 : Nat) = .int .i64 ((N / 10 ^ k) / 256 ^ sz (N / 10 ^ k) % 10 : Nat) ∧ Kt [(5, .int .i64 ((N / 10 ^ k) / 256 ^ sz (N / 10 ^ k) % 10 : Nat)), (4, .slice (some ⟨bb, 0, none⟩) ((minB (N / 10 ^ k)).length) ((minB (N / 10 ^ k)).length + cz)), (3, rv), (2, .string (bs [])), (0, .string (bs (minB (N / 10 ^ k))))] [(bb, .cells (cn .u8 (qt (N / 10 ^ k) (sz (N / 10 ^ k)) ++ List.replicate cz 0)) 5 ((minB (N / 10 ^ k)).length + cz, (minB (N / 10 ^ k)).length + cz + 1))]) (by kernel_rfl) (fun _ => by kernel_rfl) (⟨(vI (by rw [Nat.div_eq_of_lt (sz_ok (N / 10 ^ k)).1])), fun ac10 wd10 FF10 MM10 => then_n ?_⟩))
      refine wp_seq ?_
      refine wp_seq (rg_seq FF10 MM10 [o_, o_, u_ 4 (.int .i64 (((sz (N / 10 ^ k) : Nat) : Int) - 1 : Int)), o_] [5, 4, 3, 2, 0, 6] (fun Kt => -(9223372036854775808 : Int) ≤ (((minB (N / 10 ^ k)).length : Nat) : Int) - ((1 : Nat) : Int) ∧ (((minB (N / 10 ^ k)).length : Nat) : Int) - ((1 : Nat) : Int) < (9223372036854775808 : Nat) ∧ Value.int .i64 ((((minB (N / 10 ^ k)).length : Nat) : Int) - ((1 : Nat) : Int) : Int) = .int .i64 (((sz (N / 10 ^ k) : Nat) : Int) - 1 : Int) ∧ Kt [(6, .int .i64 (((sz (N / 10 ^ k) : Nat) : Int) - 1 : Int)), (5, .int .i64 ((N / 10 ^ k) / 256 ^ sz (N / 10 ^ k) % 10 : Nat)), (4, .slice (some ⟨bb, 0, none⟩) ((minB (N / 10 ^ k)).length) ((minB (N / 10 ^ k)).length + cz)), (3, rv), (2, .string (bs [])), (0, .string (bs (minB (N / 10 ^ k))))] [(bb, .cells (cn .u8 (qt (N / 10 ^ k) (sz (N / 10 ^ k)) ++ List.replicate cz 0)) 5 ((minB (N / 10 ^ k)).length + cz, (minB (N / 10 ^ k)).length + cz + 1))]) (by kernel_rfl) (fun _ => by kernel_rfl) (⟨(by omega), (by omega), (vZ (by omega)), fun ac11 wd11 FF11 MM11 => then_n ?_⟩))
      refine wp_for2 (fun a' w' => ∃ j : Nat, j ≤ sz (N / 10 ^ k) ∧ Fr 80 a' [(6, .int .i64 (((j : Nat) : Int) - 1 : Int)), (5, .int .i64 ((N / 10 ^ k) / 256 ^ j % 10 : Nat)), (4, .slice (some ⟨bb, 0, none⟩) ((minB (N / 10 ^ k)).length) ((minB (N / 10 ^ k)).length + cz)), (3, rv), (2, .string (bs [])), (0, .string (bs (minB (N / 10 ^ k))))] ∧ MemS (fun k => k < w0.heap.size) w0 w' [(bb, .cells (cn .u8 (qt (N / 10 ^ k) j ++ List.replicate cz 0)) 5 ((minB (N / 10 ^ k)).length + cz, (minB (N / 10 ^ k)).length + cz + 1))] [(rv, 5, 1, k, (bcells (dgs k N)))]) (fun a' _ => (cnt 6 a' + 1).toNat) ⟨sz (N / 10 ^ k), Nat.le_refl _, FF11.pick [0, 1, 2, 3, 4, 5], MM11⟩ ?_
      rintro ac12 wd12 ⟨j, hj, FF12, MM12⟩
      have hc2 := cnt_of (FF12.get 0 rfl)
      refine rg_seq FF12 MM12 [o_, w_ 4] [6, 5, 4, 3, 2, 0, 21] (fun Kt => Kt [(21, .bool (decide ((((j : Nat) : Int) - 1) ≥ ((0 : Nat) : Int)))), (6, .int .i64 (((j : Nat) : Int) - 1 : Int)), (5, .int .i64 ((N / 10 ^ k) / 256 ^ j % 10 : Nat)), (4, .slice (some ⟨bb, 0, none⟩) ((minB (N / 10 ^ k)).length) ((minB (N / 10 ^ k)).length + cz)), (3, rv), (2, .string (bs [])), (0, .string (bs (minB (N / 10 ^ k))))] [(bb, .cells (cn .u8 (qt (N / 10 ^ k) j ++ List.replicate cz 0)) 5 ((minB (N / 10 ^ k)).length + cz, (minB (N / 10 ^ k)).length + cz + 1))]) (by kernel_rfl) (fun _ => by kernel_rfl) (fun ac13 wd13 FF13 MM13 => ?_)
      by_cases hlt2 : (((j : Nat) : Int) - 1) ≥ ((0 : Nat) : Int)
      · skip
        refine then_n (.inl ⟨(FF13.ev 0 rfl).trans (dec_t hlt2), ?_⟩)
        obtain ⟨j, rfl⟩ : ∃ z, j = z + 1 := ⟨j - 1, by omega⟩
        have h10 : (N / 10 ^ k) / 256 ^ (j + 1) % 10 < 10 := Nat.mod_lt _ (by decide)
        have hdl := d8_lt (N / 10 ^ k) j
        refine wp_seq (rg_seq FF13 MM13 [o_, o_, o_, t_ (.int .i64 (j : Nat)), w_ 1, l_ 0 (.int .u8 (d8 (N / 10 ^ k) j : Nat)), w_ 1, o_, o_] [6, 5, 4, 3, 2, 0, 7] (fun Kt => ((N / 10 ^ k) / 256 ^ (j + 1) % 10) * 256 < 9223372036854775808 ∧ Value.int .i64 ((((j + 1) : Nat) : Int) - 1 : Int) = .int .i64 (j : Nat) ∧ j < ((minB (N / 10 ^ k)).length) ∧ bb = bb ∧ (cn .u8 (qt (N / 10 ^ k) (j + 1) ++ List.replicate cz 0))[j]? = some (.int .u8 (d8 (N / 10 ^ k) j : Nat)) ∧ (d8 (N / 10 ^ k) j) < 9223372036854775808 ∧ (((N / 10 ^ k) / 256 ^ (j + 1) % 10) * 256) + (d8 (N / 10 ^ k) j) < 9223372036854775808 ∧ Kt [(7, .int .i64 ((((N / 10 ^ k) / 256 ^ (j + 1) % 10) * 256) + (d8 (N / 10 ^ k) j) : Nat)), (6, .int .i64 ((((j + 1) : Nat) : Int) - 1 : Int)), (5, .int .i64 ((N / 10 ^ k) / 256 ^ (j + 1) % 10 : Nat)), (4, .slice (some ⟨bb, 0, none⟩) ((minB (N / 10 ^ k)).length) ((minB (N / 10 ^ k)).length + cz)), (3, rv), (2, .string (bs [])), (0, .string (bs (minB (N / 10 ^ k))))] [(bb, .cells (cn .u8 (qt (N / 10 ^ k) (j + 1) ++ List.replicate cz 0)) 5 ((minB (N / 10 ^ k)).length + cz, (minB (N / 10 ^ k)).length + cz + 1))]) (by kernel_rfl) (fun _ => by kernel_rfl) (⟨(by omega), (vZ (by omega)), (by omega), rfl, ((cn_get _ _ _ (by rw [rep_len, qt_sz]; omega)).trans (by rw [List.getD_eq_getElem?_getD, List.getElem?_append_left (by rw [qt_sz]; omega), ← List.getD_eq_getElem?_getD, qt_get _ _ (by omega), if_neg (by omega)])), (by omega), (by omega), fun ac14 wd14 FF14 MM14 => then_n ?_⟩))
        refine wp_seq (rg_seq FF14 MM14 [o_, t_ (.int .i64 (j : Nat)), o_, o_, t_ (.int .u8 (d8 ((N / 10 ^ k) / 10) j : Nat)), w_ 1, s_ 0 (.cells (cn .u8 (qt (N / 10 ^ k) j ++ List.replicate cz 0)) 5)] [7, 6, 5, 4, 3, 2, 0] (fun Kt => Value.int .i64 ((((j + 1) : Nat) : Int) - 1 : Int) = .int .i64 (j : Nat) ∧ 10 ≠ 0 ∧ ((((N / 10 ^ k) / 256 ^ (j + 1) % 10) * 256) + (d8 (N / 10 ^ k) j)) / 10 < 9223372036854775808 ∧ Value.int .u8 ((((((N / 10 ^ k) / 256 ^ (j + 1) % 10) * 256) + (d8 (N / 10 ^ k) j)) / 10) % 256 : Nat) = .int .u8 (d8 ((N / 10 ^ k) / 10) j : Nat) ∧ j < ((minB (N / 10 ^ k)).length) ∧ bb = bb ∧ j < (cn .u8 (qt (N / 10 ^ k) (j + 1) ++ List.replicate cz 0)).size ∧ ((((minB (N / 10 ^ k)).length + cz, (minB (N / 10 ^ k)).length + cz + 1)).2 = 0 ∨ j < (((minB (N / 10 ^ k)).length + cz, (minB (N / 10 ^ k)).length + cz + 1)).1) ∧ (cn .u8 (qt (N / 10 ^ k) (j + 1) ++ List.replicate cz 0)).setIfInBounds j (.int .u8 (d8 ((N / 10 ^ k) / 10) j : Nat)) = cn .u8 (qt (N / 10 ^ k) j ++ List.replicate cz 0) ∧ Kt [(7, .int .i64 ((((N / 10 ^ k) / 256 ^ (j + 1) % 10) * 256) + (d8 (N / 10 ^ k) j) : Nat)), (6, .int .i64 ((((j + 1) : Nat) : Int) - 1 : Int)), (5, .int .i64 ((N / 10 ^ k) / 256 ^ (j + 1) % 10 : Nat)), (4, .slice (some ⟨bb, 0, none⟩) ((minB (N / 10 ^ k)).length) ((minB (N / 10 ^ k)).length + cz)), (3, rv), (2, .string (bs [])), (0, .string (bs (minB (N / 10 ^ k))))] [(bb, .cells (cn .u8 (qt (N / 10 ^ k) j ++ List.replicate cz 0)) 5 ((minB (N / 10 ^ k)).length + cz, (minB (N / 10 ^ k)).length + cz + 1))]) (by kernel_rfl) (fun _ => by kernel_rfl) (⟨(vZ (by omega)), (by decide), (by omega), (vI (qt_dig (N / 10 ^ k) j)), (by omega), rfl, (by rw [cn_size, rep_len, qt_sz]; omega), (.inr (by simp only; omega)), ((cn_set _ _ _ _).trans (congrArg _ ((set_rep (by rw [qt_sz]; omega)).trans (congrArg (· ++ _) (qt_step (N / 10 ^ k) j (by omega)))))), fun ac15 wd15 FF15 MM15 => then_n ?_⟩))
        refine rg_seq FF15 MM15 [o_, t_ (.int .i64 ((N / 10 ^ k) / 256 ^ j % 10 : Nat)), o_] [7, 6, 5, 4, 3, 2, 0] (fun Kt => 10 ≠ 0 ∧ Value.int .i64 (((((N / 10 ^ k) / 256 ^ (j + 1) % 10) * 256) + (d8 (N / 10 ^ k) j)) % 10 : Nat) = .int .i64 ((N / 10 ^ k) / 256 ^ j % 10 : Nat) ∧ Kt [(5, .int .i64 ((N / 10 ^ k) / 256 ^ j % 10 : Nat)), (7, .int .i64 ((((N / 10 ^ k) / 256 ^ (j + 1) % 10) * 256) + (d8 (N / 10 ^ k) j) : Nat)), (6, .int .i64 ((((j + 1) : Nat) : Int) - 1 : Int)), (4, .slice (some ⟨bb, 0, none⟩) ((minB (N / 10 ^ k)).length) ((minB (N / 10 ^ k)).length + cz)), (3, rv), (2, .string (bs [])), (0, .string (bs (minB (N / 10 ^ k))))] [(bb, .cells (cn .u8 (qt (N / 10 ^ k) j ++ List.replicate cz 0)) 5 ((minB (N / 10 ^ k)).length + cz, (minB (N / 10 ^ k)).length + cz + 1))]) (by kernel_rfl) (fun _ => by kernel_rfl) (⟨(by decide), (vI (qt_rem (N / 10 ^ k) j)), fun ac16 wd16 FF16 MM16 => ?_⟩)
        refine inb_n (then_n ?_)
        refine rg_seq FF16 MM16 [o_, u_ 4 (.int .i64 (((j : Nat) : Int) - 1 : Int)), o_] [5, 7, 6, 4, 3, 2, 0] (fun Kt => -(9223372036854775808 : Int) ≤ ((((j + 1) : Nat) : Int) - 1) - ((1 : Nat) : Int) ∧ ((((j + 1) : Nat) : Int) - 1) - ((1 : Nat) : Int) < (9223372036854775808 : Nat) ∧ Value.int .i64 (((((j + 1) : Nat) : Int) - 1) - ((1 : Nat) : Int) : Int) = .int .i64 (((j : Nat) : Int) - 1 : Int) ∧ Kt [(6, .int .i64 (((j : Nat) : Int) - 1 : Int)), (5, .int .i64 ((N / 10 ^ k) / 256 ^ j % 10 : Nat)), (7, .int .i64 ((((N / 10 ^ k) / 256 ^ (j + 1) % 10) * 256) + (d8 (N / 10 ^ k) j) : Nat)), (4, .slice (some ⟨bb, 0, none⟩) ((minB (N / 10 ^ k)).length) ((minB (N / 10 ^ k)).length + cz)), (3, rv), (2, .string (bs [])), (0, .string (bs (minB (N / 10 ^ k))))] [(bb, .cells (cn .u8 (qt (N / 10 ^ k) j ++ List.replicate cz 0)) 5 ((minB (N / 10 ^ k)).length + cz, (minB (N / 10 ^ k)).length + cz + 1))]) (by kernel_rfl) (fun _ => by kernel_rfl) (⟨(by omega), (by omega), (vZ (by omega)), fun ac17 wd17 FF17 MM17 => ?_⟩)
        have hd2 := cnt_of (FF17.get 0 rfl)
        refine then_n ⟨⟨j, by omega, FF17.pick [0, 1, 3, 4, 5, 6], MM17⟩, ?_⟩
        rw [hc2, hd2]; omega
      · skip
        refine then_n (.inr ⟨(FF13.ev 0 rfl).trans (dec_f hlt2), ?_⟩)
        obtain rfl : j = 0 := by omega
        refine then_n ?_
        have hdd := dig_le N k
        refine wp_seq (wp_region_list ?_)
        refine rg_part 5 FF13 MM13 [o_, t_ (.int .i64 (N / 10 ^ k % 10 : Nat)), o_, w_ 1, o_] [6, 5, 4, 3, 2, 0, 40, 44] (fun Kt => Value.int .i64 ((N / 10 ^ k) / 256 ^ 0 % 10 : Nat) = .int .i64 (N / 10 ^ k % 10 : Nat) ∧ 48 + (N / 10 ^ k % 10) < 9223372036854775808 ∧ (48 + (N / 10 ^ k % 10)) < 256 ∧ ∀ bq, Kt [(44, .slice (some ⟨bq, 0, none⟩) 1 1), (40, rv), (6, .int .i64 (((0 : Nat) : Int) - 1 : Int)), (5, .int .i64 ((N / 10 ^ k) / 256 ^ 0 % 10 : Nat)), (4, .slice (some ⟨bb, 0, none⟩) ((minB (N / 10 ^ k)).length) ((minB (N / 10 ^ k)).length + cz)), (3, rv), (2, .string (bs [])), (0, .string (bs (minB (N / 10 ^ k))))] [(bq, .cells (cn .u8 ([48 + (N / 10 ^ k % 10)])) 5), (bb, .cells (cn .u8 (qt (N / 10 ^ k) 0 ++ List.replicate cz 0)) 5 ((minB (N / 10 ^ k)).length + cz, (minB (N / 10 ^ k)).length + cz + 1))]) (by kernel_rfl) (fun _ => by kernel_rfl) (⟨(vI (by rw [Nat.pow_zero, Nat.div_one])), (by omega), (by omega), fun bq => fun ac18 wd18 FF18 MM18 => ?_⟩)
        refine st_app [6, 5, 4, 3, 2, 0, 45] FF18 MM18 (d := 45) (s := 40) (x := 44) (Y := (bcells [48 + N / 10 ^ k % 10])) (z := .int .u8 (0 : Nat)) (bb := 1) rfl rfl rfl rfl (lies_cn (MM18.get 0 rfl)) (bcells_one _) (by decide) Tryd.underlying59 (by kernel_rfl) rfl (by decide) (by simp only [maxLen]; omega) (by omega) rfl rfl (by decide) fun ac20 wd20 rv19 (FF20 : Fr 80 ac20 [(45, rv19), (6, .int .i64 (((0 : Nat) : Int) - 1 : Int)), (5, .int .i64 ((N / 10 ^ k) / 256 ^ 0 % 10 : Nat)), (4, .slice (some ⟨bb, 0, none⟩) ((minB (N / 10 ^ k)).length) ((minB (N / 10 ^ k)).length + cz)), (3, rv), (2, .string (bs [])), (0, .string (bs (minB (N / 10 ^ k))))]) (MM20 : MemS (fun k => k < w0.heap.size) w0 wd20 [(bq, .cells (cn .u8 ([48 + (N / 10 ^ k % 10)])) 5), (bb, .cells (cn .u8 (qt (N / 10 ^ k) 0 ++ List.replicate cz 0)) 5 ((minB (N / 10 ^ k)).length + cz, (minB (N / 10 ^ k)).length + cz + 1))] [(rv19, 5, 1, (k + 1), ((bcells (dgs k N)) ++ (bcells [48 + N / 10 ^ k % 10])))]) => ?_
        rw [bcells_app, ← dgs_succ] at MM20
        refine rg_part 1 FF20 MM20 [o_] [6, 5, 4, 3, 2, 0] (fun Kt => Kt [(3, rv19), (6, .int .i64 (((0 : Nat) : Int) - 1 : Int)), (5, .int .i64 ((N / 10 ^ k) / 256 ^ 0 % 10 : Nat)), (4, .slice (some ⟨bb, 0, none⟩) ((minB (N / 10 ^ k)).length) ((minB (N / 10 ^ k)).length + cz)), (2, .string (bs [])), (0, .string (bs (minB (N / 10 ^ k))))] [(bq, .cells (cn .u8 ([48 + (N / 10 ^ k % 10)])) 5), (bb, .cells (cn .u8 (qt (N / 10 ^ k) 0 ++ List.replicate cz 0)) 5 ((minB (N / 10 ^ k)).length + cz, (minB (N / 10 ^ k)).length + cz + 1))]) (by kernel_rfl) (fun _ => by kernel_rfl) (fun ac21 wd21 FF21 MM21 => ?_)
        refine wpl_nil (then_n ?_)
        refine rg_seq FF21 MM21 [o_, l_ 1 (.string (bs (qt (N / 10 ^ k) 0))), t_ (.string (bs (minB (N / 10 ^ (k + 1))))), o_] [3, 6, 5, 4, 2, 0] (fun Kt => bb = bb ∧ StrAt (cn .u8 (qt (N / 10 ^ k) 0 ++ List.replicate cz 0)) 0 ((minB (N / 10 ^ k)).length) (bs (qt (N / 10 ^ k) 0)) ∧ CallP Tryd.prog 31 [.string (bs (qt (N / 10 ^ k) 0))] [] (.string (bs (minB (N / 10 ^ (k + 1))))) ∧ Kt [(0, .string (bs (minB (N / 10 ^ (k + 1))))), (3, rv19), (6, .int .i64 (((0 : Nat) : Int) - 1 : Int)), (5, .int .i64 ((N / 10 ^ k) / 256 ^ 0 % 10 : Nat)), (4, .slice (some ⟨bb, 0, none⟩) ((minB (N / 10 ^ k)).length) ((minB (N / 10 ^ k)).length + cz)), (2, .string (bs []))] [(bq, .cells (cn .u8 ([48 + (N / 10 ^ k % 10)])) 5), (bb, .cells (cn .u8 (qt (N / 10 ^ k) 0 ++ List.replicate cz 0)) 5 ((minB (N / 10 ^ k)).length + cz, (minB (N / 10 ^ k)).length + cz + 1))]) (by kernel_rfl) (fun _ => by kernel_rfl) (⟨rfl, (by have h0 := str_rep (X := qt (N / 10 ^ k) 0) (qt_lt _ _) cz; rw [qt_len] at h0; exact h0), (by have h0 := callP_of en_rtrim (trim_any (qt (N / 10 ^ k) 0) (qt_lt _ _) (by rw [qt_sz]; omega)) []; rw [qt_val, Nat.div_div_eq_div_mul, ← Nat.pow_succ] at h0; exact h0), fun ac22 wd22 FF22 MM22 => ?_⟩)
        refine inb_n ?_
        have hd := strAt_of (FF22.get 0 rfl)
        refine then_n ⟨⟨rv19, k + 1, .inr (by have := div_pos10 hlt; simp only [Nat.add_sub_cancel]; omega), FF22.pick [1, 5, 0], MM22.sub [] rfl⟩, ?_⟩
        rw [hc, hd]; exact div_less hlt
    · skip
      refine then_n (.inr ⟨(FF6.ev 0 rfl).trans (dec_f hlt), ?_⟩)
      have hkd := k_end hk hlt
      have hk0 : k ≠ 0 := fun e => hs11 (by have h9 := hlt; rw [e, Nat.pow_zero, Nat.div_one] at h9; omega)
      obtain ⟨g, cap, rfl⟩ := (MM6.rowForm).resolve_left (fun h => hk0 h.2)
      obtain ⟨rest, MMg, hg, hcm, hcx, hrs, hXl⟩ := MM6.freezeB
      refine then_n ?_
      refine wp_seq ?_
      refine wp_seq (rg_seq FF6 MMg [o_] [3, 2, 0, 8] (fun Kt => Kt [(8, .int .i64 (0 : Nat)), (3, .slice (some ⟨g, 0, none⟩) k cap), (2, .string (bs [])), (0, .string (bs (minB (N / 10 ^ k))))] [(g, .cells ((cn .u8 (dgs k N)) ++ rest) 5)]) (by kernel_rfl) (fun _ => by kernel_rfl) (fun ac23 wd23 FF23 MM23 => then_n ?_))
      have MMr82 : MemS (fun k => k < w0.heap.size) w0 wd23 [(g, .cells ((cn .u8 (rvL (dgs k N) 0)) ++ rest) 5)] [] := by rw [rvL_zero]; exact MM23
      refine wp_for2 (fun a' w' => ∃ i : Nat, i ≤ k / 2 ∧ Fr 80 a' [(8, .int .i64 (i : Nat)), (3, .slice (some ⟨g, 0, none⟩) k cap), (2, .string (bs [])), (0, .string (bs (minB (N / 10 ^ k))))] ∧ MemS (fun k => k < w0.heap.size) w0 w' [(g, .cells ((cn .u8 (rvL (dgs k N) i)) ++ rest) 5)] []) (fun a' _ => (k - cnt 8 a').toNat) ⟨0, Nat.zero_le _, FF23.pick [0, 1, 2, 3], MMr82⟩ ?_
      rintro ac24 wd24 ⟨i, hi, FF24, MM24⟩
      have hc4 := cnt_of (FF24.get 0 rfl)
      refine rg_seq FF24 MM24 [o_, o_, o_, o_, o_] [8, 3, 2, 0, 53] (fun Kt => 2 ≠ 0 ∧ k / 2 < 9223372036854775808 ∧ Kt [(53, .bool (decide (i < (k / 2)))), (8, .int .i64 (i : Nat)), (3, .slice (some ⟨g, 0, none⟩) k cap), (2, .string (bs [])), (0, .string (bs (minB (N / 10 ^ k))))] [(g, .cells ((cn .u8 (rvL (dgs k N) i)) ++ rest) 5)]) (by kernel_rfl) (fun _ => by kernel_rfl) (⟨(by decide), (by omega), fun ac25 wd25 FF25 MM25 => ?_⟩)
      by_cases hlt4 : i < (k / 2)
      · skip
        refine then_n (.inl ⟨(FF25.ev 0 rfl).trans (dec_t hlt4), ?_⟩)
        have hil : i < k := by omega
        have hjl : k - 1 - i < k := by omega
        have hkm : k < 9223372036854775808 := by omega
        refine draw_open (N := 24) (by kernel_rfl) (by kernel_rfl) MM25 fun wd26 (MM27 : MemS (fun k => k < w0.heap.size) w0 wd26 [(g, .cells ((cn .u8 (rvL (dgs k N) i)) ++ rest) 5)] []) => ?_
        refine take_op FF25 (i := 0) (oi := opAt Tryd.f14 18 0) (v := (.slice (some ⟨g, 0, none⟩) k cap)) (d := 56) (by kernel_rfl) (by kernel_rfl) (by kernel_rfl) (by kernel_rfl) (fun _ _ _ _ _ h => h) (by kernel_rfl) (by decide) (by kernel_rfl) (mvV (x := .tmp 3) (by kernel_rfl) rfl) fun ac28 (FF29 : Fr 80 ac28 [(56, .slice (some ⟨g, 0, none⟩) k cap), (53, .bool (decide (i < (k / 2)))), (8, .int .i64 (i : Nat)), (3, .slice (some ⟨g, 0, none⟩) k cap), (2, .string (bs [])), (0, .string (bs (minB (N / 10 ^ k))))]) => ?_
        refine take_op FF29 (i := 1) (oi := opAt Tryd.f14 18 1) (v := (.int .i64 (i : Nat))) (d := 57) (by kernel_rfl) (by kernel_rfl) (by kernel_rfl) (by kernel_rfl) (fun _ _ _ _ _ h => h) (by kernel_rfl) (by decide) (by kernel_rfl) (mvV (x := .tmp 8) (by kernel_rfl) rfl) fun ac30 (FF31 : Fr 80 ac30 [(57, .int .i64 (i : Nat)), (56, .slice (some ⟨g, 0, none⟩) k cap), (53, .bool (decide (i < (k / 2)))), (8, .int .i64 (i : Nat)), (3, .slice (some ⟨g, 0, none⟩) k cap), (2, .string (bs [])), (0, .string (bs (minB (N / 10 ^ k))))]) => ?_
        refine take_op FF31 (i := 2) (oi := opAt Tryd.f14 18 2) (v := (.slice (some ⟨g, 0, none⟩) k cap)) (d := 58) (by kernel_rfl) (by kernel_rfl) (by kernel_rfl) (by kernel_rfl) (fun _ _ _ _ _ h => h) (by kernel_rfl) (by decide) (by kernel_rfl) (mvV (x := .tmp 3) (by kernel_rfl) rfl) fun ac32 (FF33 : Fr 80 ac32 [(58, .slice (some ⟨g, 0, none⟩) k cap), (57, .int .i64 (i : Nat)), (56, .slice (some ⟨g, 0, none⟩) k cap), (53, .bool (decide (i < (k / 2)))), (8, .int .i64 (i : Nat)), (3, .slice (some ⟨g, 0, none⟩) k cap), (2, .string (bs [])), (0, .string (bs (minB (N / 10 ^ k))))]) => ?_
        refine take_op FF33 (i := 3) (oi := opAt Tryd.f14 18 3) (v := (.slice (some ⟨g, 0, none⟩) k cap)) (d := 59) (by kernel_rfl) (by kernel_rfl) (by kernel_rfl) (by kernel_rfl) (fun _ _ _ _ _ h => h) (by kernel_rfl) (by decide) (by kernel_rfl) (mvV (x := .tmp 3) (by kernel_rfl) rfl) fun ac34 (FF35 : Fr 80 ac34 [(59, .slice (some ⟨g, 0, none⟩) k cap), (58, .slice (some ⟨g, 0, none⟩) k cap), (57, .int .i64 (i : Nat)), (56, .slice (some ⟨g, 0, none⟩) k cap), (53, .bool (decide (i < (k / 2)))), (8, .int .i64 (i : Nat)), (3, .slice (some ⟨g, 0, none⟩) k cap), (2, .string (bs [])), (0, .string (bs (minB (N / 10 ^ k))))]) => ?_
        refine take_op FF35 (i := 4) (oi := opAt Tryd.f14 18 4) (v := (.int .i64 (k : Nat))) (d := 60) (by kernel_rfl) (by kernel_rfl) (by kernel_rfl) (by kernel_rfl) (fun _ _ _ _ _ h => h) (by kernel_rfl) (by decide) (by kernel_rfl) (lenV (x := .tmp 59) (t := 59) (by kernel_rfl) rfl Tryd.underlying59) fun ac36 (FF37 : Fr 80 ac36 [(60, .int .i64 (k : Nat)), (59, .slice (some ⟨g, 0, none⟩) k cap), (58, .slice (some ⟨g, 0, none⟩) k cap), (57, .int .i64 (i : Nat)), (56, .slice (some ⟨g, 0, none⟩) k cap), (53, .bool (decide (i < (k / 2)))), (8, .int .i64 (i : Nat)), (3, .slice (some ⟨g, 0, none⟩) k cap), (2, .string (bs [])), (0, .string (bs (minB (N / 10 ^ k))))]) => ?_
        refine take_op FF37 (i := 5) (oi := opAt Tryd.f14 18 5) (v := (.int .i64 (k - 1 : Nat))) (d := 61) (by kernel_rfl) (by kernel_rfl) (by kernel_rfl) (by kernel_rfl) (fun _ _ _ _ _ h => h) (by kernel_rfl) (by decide) (by kernel_rfl) (subV (t := 3) (t' := 3) (x := .tmp 60) (y := .const (.int .i64 1)) (p := k) (q := 1) (by kernel_rfl) rfl rfl (by omega) hkm) fun ac38 (FF39 : Fr 80 ac38 [(61, .int .i64 (k - 1 : Nat)), (60, .int .i64 (k : Nat)), (59, .slice (some ⟨g, 0, none⟩) k cap), (58, .slice (some ⟨g, 0, none⟩) k cap), (57, .int .i64 (i : Nat)), (56, .slice (some ⟨g, 0, none⟩) k cap), (53, .bool (decide (i < (k / 2)))), (8, .int .i64 (i : Nat)), (3, .slice (some ⟨g, 0, none⟩) k cap), (2, .string (bs [])), (0, .string (bs (minB (N / 10 ^ k))))]) => ?_
        refine take_op FF39 (i := 6) (oi := opAt Tryd.f14 18 6) (v := (.int .i64 (i : Nat))) (d := 62) (by kernel_rfl) (by kernel_rfl) (by kernel_rfl) (by kernel_rfl) (fun _ _ _ _ _ h => h) (by kernel_rfl) (by decide) (by kernel_rfl) (mvV (x := .tmp 8) (by kernel_rfl) rfl) fun ac40 (FF41 : Fr 80 ac40 [(62, .int .i64 (i : Nat)), (61, .int .i64 (k - 1 : Nat)), (60, .int .i64 (k : Nat)), (59, .slice (some ⟨g, 0, none⟩) k cap), (58, .slice (some ⟨g, 0, none⟩) k cap), (57, .int .i64 (i : Nat)), (56, .slice (some ⟨g, 0, none⟩) k cap), (53, .bool (decide (i < (k / 2)))), (8, .int .i64 (i : Nat)), (3, .slice (some ⟨g, 0, none⟩) k cap), (2, .string (bs [])), (0, .string (bs (minB (N / 10 ^ k))))]) => ?_
        refine take_op FF41 (i := 7) (oi := opAt Tryd.f14 18 7) (v := (.int .i64 (k - 1 - i : Nat))) (d := 63) (by kernel_rfl) (by kernel_rfl) (by kernel_rfl) (by kernel_rfl) (fun _ _ _ _ _ h => h) (by kernel_rfl) (by decide) (by kernel_rfl) (subV (t := 3) (t' := 3) (x := .tmp 61) (y := .tmp 62) (p := k - 1) (q := i) (by kernel_rfl) rfl rfl (by omega) (by omega)) fun ac42 (FF43 : Fr 80 ac42 [(63, .int .i64 (k - 1 - i : Nat)), (62, .int .i64 (i : Nat)), (61, .int .i64 (k - 1 : Nat)), (60, .int .i64 (k : Nat)), (59, .slice (some ⟨g, 0, none⟩) k cap), (58, .slice (some ⟨g, 0, none⟩) k cap), (57, .int .i64 (i : Nat)), (56, .slice (some ⟨g, 0, none⟩) k cap), (53, .bool (decide (i < (k / 2)))), (8, .int .i64 (i : Nat)), (3, .slice (some ⟨g, 0, none⟩) k cap), (2, .string (bs [])), (0, .string (bs (minB (N / 10 ^ k))))]) => ?_
        refine take_op FF43 (i := 8) (oi := opAt Tryd.f14 18 8) (v := (.slice (some ⟨g, 0, none⟩) k cap)) (d := 64) (by kernel_rfl) (by kernel_rfl) (by kernel_rfl) (by kernel_rfl) (fun _ _ _ _ _ h => h) (by kernel_rfl) (by decide) (by kernel_rfl) (mvV (x := .tmp 3) (by kernel_rfl) rfl) fun ac44 (FF45 : Fr 80 ac44 [(64, .slice (some ⟨g, 0, none⟩) k cap), (63, .int .i64 (k - 1 - i : Nat)), (62, .int .i64 (i : Nat)), (61, .int .i64 (k - 1 : Nat)), (60, .int .i64 (k : Nat)), (59, .slice (some ⟨g, 0, none⟩) k cap), (58, .slice (some ⟨g, 0, none⟩) k cap), (57, .int .i64 (i : Nat)), (56, .slice (some ⟨g, 0, none⟩) k cap), (53, .bool (decide (i < (k / 2)))), (8, .int .i64 (i : Nat)), (3, .slice (some ⟨g, 0, none⟩) k cap), (2, .string (bs [])), (0, .string (bs (minB (N / 10 ^ k))))]) => ?_
        refine take_op FF45 (i := 9) (oi := opAt Tryd.f14 18 9) (v := (.slice (some ⟨g, 0, none⟩) k cap)) (d := 65) (by kernel_rfl) (by kernel_rfl) (by kernel_rfl) (by kernel_rfl) (fun _ _ _ _ _ h => h) (by kernel_rfl) (by decide) (by kernel_rfl) (mvV (x := .tmp 3) (by kernel_rfl) rfl) fun ac46 (FF47 : Fr 80 ac46 [(65, .slice (some ⟨g, 0, none⟩) k cap), (64, .slice (some ⟨g, 0, none⟩) k cap), (63, .int .i64 (k - 1 - i : Nat)), (62, .int .i64 (i : Nat)), (61, .int .i64 (k - 1 : Nat)), (60, .int .i64 (k : Nat)), (59, .slice (some ⟨g, 0, none⟩) k cap), (58, .slice (some ⟨g, 0, none⟩) k cap), (57, .int .i64 (i : Nat)), (56, .slice (some ⟨g, 0, none⟩) k cap), (53, .bool (decide (i < (k / 2)))), (8, .int .i64 (i : Nat)), (3, .slice (some ⟨g, 0, none⟩) k cap), (2, .string (bs [])), (0, .string (bs (minB (N / 10 ^ k))))]) => ?_
        refine take_op FF47 (i := 10) (oi := opAt Tryd.f14 18 10) (v := (.int .i64 (k : Nat))) (d := 66) (by kernel_rfl) (by kernel_rfl) (by kernel_rfl) (by kernel_rfl) (fun _ _ _ _ _ h => h) (by kernel_rfl) (by decide) (by kernel_rfl) (lenV (x := .tmp 65) (t := 59) (by kernel_rfl) rfl Tryd.underlying59) fun ac48 (FF49 : Fr 80 ac48 [(66, .int .i64 (k : Nat)), (65, .slice (some ⟨g, 0, none⟩) k cap), (64, .slice (some ⟨g, 0, none⟩) k cap), (63, .int .i64 (k - 1 - i : Nat)), (62, .int .i64 (i : Nat)), (61, .int .i64 (k - 1 : Nat)), (60, .int .i64 (k : Nat)), (59, .slice (some ⟨g, 0, none⟩) k cap), (58, .slice (some ⟨g, 0, none⟩) k cap), (57, .int .i64 (i : Nat)), (56, .slice (some ⟨g, 0, none⟩) k cap), (53, .bool (decide (i < (k / 2)))), (8, .int .i64 (i : Nat)), (3, .slice (some ⟨g, 0, none⟩) k cap), (2, .string (bs [])), (0, .string (bs (minB (N / 10 ^ k))))]) => ?_
        refine take_op FF49 (i := 11) (oi := opAt Tryd.f14 18 11) (v := (.int .i64 (k - 1 : Nat))) (d := 67) (by kernel_rfl) (by kernel_rfl) (by kernel_rfl) (by kernel_rfl) (fun _ _ _ _ _ h => h) (by kernel_rfl) (by decide) (by kernel_rfl) (subV (t := 3) (t' := 3) (x := .tmp 66) (y := .const (.int .i64 1)) (p := k) (q := 1) (by kernel_rfl) rfl rfl (by omega) hkm) fun ac50 (FF51 : Fr 80 ac50 [(67, .int .i64 (k - 1 : Nat)), (66, .int .i64 (k : Nat)), (65, .slice (some ⟨g, 0, none⟩) k cap), (64, .slice (some ⟨g, 0, none⟩) k cap), (63, .int .i64 (k - 1 - i : Nat)), (62, .int .i64 (i : Nat)), (61, .int .i64 (k - 1 : Nat)), (60, .int .i64 (k : Nat)), (59, .slice (some ⟨g, 0, none⟩) k cap), (58, .slice (some ⟨g, 0, none⟩) k cap), (57, .int .i64 (i : Nat)), (56, .slice (some ⟨g, 0, none⟩) k cap), (53, .bool (decide (i < (k / 2)))), (8, .int .i64 (i : Nat)), (3, .slice (some ⟨g, 0, none⟩) k cap), (2, .string (bs [])), (0, .string (bs (minB (N / 10 ^ k))))]) => ?_
        refine take_op FF51 (i := 12) (oi := opAt Tryd.f14 18 12) (v := (.int .i64 (i : Nat))) (d := 68) (by kernel_rfl) (by kernel_rfl) (by kernel_rfl) (by kernel_rfl) (fun _ _ _ _ _ h => h) (by kernel_rfl) (by decide) (by kernel_rfl) (mvV (x := .tmp 8) (by kernel_rfl) rfl) fun ac52 (FF53 : Fr 80 ac52 [(68, .int .i64 (i : Nat)), (67, .int .i64 (k - 1 : Nat)), (66, .int .i64 (k : Nat)), (65, .slice (some ⟨g, 0, none⟩) k cap), (64, .slice (some ⟨g, 0, none⟩) k cap), (63, .int .i64 (k - 1 - i : Nat)), (62, .int .i64 (i : Nat)), (61, .int .i64 (k - 1 : Nat)), (60, .int .i64 (k : Nat)), (59, .slice (some ⟨g, 0, none⟩) k cap), (58, .slice (some ⟨g, 0, none⟩) k cap), (57, .int .i64 (i : Nat)), (56, .slice (some ⟨g, 0, none⟩) k cap), (53, .bool (decide (i < (k / 2)))), (8, .int .i64 (i : Nat)), (3, .slice (some ⟨g, 0, none⟩) k cap), (2, .string (bs [])), (0, .string (bs (minB (N / 10 ^ k))))]) => ?_
        refine take_op FF53 (i := 13) (oi := opAt Tryd.f14 18 13) (v := (.int .i64 (k - 1 - i : Nat))) (d := 69) (by kernel_rfl) (by kernel_rfl) (by kernel_rfl) (by kernel_rfl) (fun _ _ _ _ _ h => h) (by kernel_rfl) (by decide) (by kernel_rfl) (subV (t := 3) (t' := 3) (x := .tmp 67) (y := .tmp 68) (p := k - 1) (q := i) (by kernel_rfl) rfl rfl (by omega) (by omega)) fun ac54 (FF55 : Fr 80 ac54 [(69, .int .i64 (k - 1 - i : Nat)), (68, .int .i64 (i : Nat)), (67, .int .i64 (k - 1 : Nat)), (66, .int .i64 (k : Nat)), (65, .slice (some ⟨g, 0, none⟩) k cap), (64, .slice (some ⟨g, 0, none⟩) k cap), (63, .int .i64 (k - 1 - i : Nat)), (62, .int .i64 (i : Nat)), (61, .int .i64 (k - 1 : Nat)), (60, .int .i64 (k : Nat)), (59, .slice (some ⟨g, 0, none⟩) k cap), (58, .slice (some ⟨g, 0, none⟩) k cap), (57, .int .i64 (i : Nat)), (56, .slice (some ⟨g, 0, none⟩) k cap), (53, .bool (decide (i < (k / 2)))), (8, .int .i64 (i : Nat)), (3, .slice (some ⟨g, 0, none⟩) k cap), (2, .string (bs [])), (0, .string (bs (minB (N / 10 ^ k))))]) => ?_
        refine take_op FF55 (i := 14) (oi := opAt Tryd.f14 18 14) (v := (.pointer (some ⟨g, k - 1 - i, none⟩))) (d := 70) (by kernel_rfl) (by kernel_rfl) (by kernel_rfl) (by kernel_rfl) (fun _ _ _ _ _ h => h) (by kernel_rfl) (by decide) (by kernel_rfl) (addrV (x := .tmp 64) (y := .tmp 69) (t := 59) (by kernel_rfl) rfl rfl Tryd.underlying59 (by kernel_rfl) hjl) fun ac56 (FF57 : Fr 80 ac56 [(70, .pointer (some ⟨g, k - 1 - i, none⟩)), (69, .int .i64 (k - 1 - i : Nat)), (68, .int .i64 (i : Nat)), (67, .int .i64 (k - 1 : Nat)), (66, .int .i64 (k : Nat)), (65, .slice (some ⟨g, 0, none⟩) k cap), (64, .slice (some ⟨g, 0, none⟩) k cap), (63, .int .i64 (k - 1 - i : Nat)), (62, .int .i64 (i : Nat)), (61, .int .i64 (k - 1 : Nat)), (60, .int .i64 (k : Nat)), (59, .slice (some ⟨g, 0, none⟩) k cap), (58, .slice (some ⟨g, 0, none⟩) k cap), (57, .int .i64 (i : Nat)), (56, .slice (some ⟨g, 0, none⟩) k cap), (53, .bool (decide (i < (k / 2)))), (8, .int .i64 (i : Nat)), (3, .slice (some ⟨g, 0, none⟩) k cap), (2, .string (bs [])), (0, .string (bs (minB (N / 10 ^ k))))]) => ?_
        refine take_op FF57 (i := 16) (oi := opAt Tryd.f14 18 16) (v := (.slice (some ⟨g, 0, none⟩) k cap)) (d := 72) (by kernel_rfl) (by kernel_rfl) (by kernel_rfl) (by kernel_rfl) (fun _ _ _ _ _ h => h) (by kernel_rfl) (by decide) (by kernel_rfl) (mvV (x := .tmp 3) (by kernel_rfl) rfl) fun ac58 (FF59 : Fr 80 ac58 [(72, .slice (some ⟨g, 0, none⟩) k cap), (70, .pointer (some ⟨g, k - 1 - i, none⟩)), (69, .int .i64 (k - 1 - i : Nat)), (68, .int .i64 (i : Nat)), (67, .int .i64 (k - 1 : Nat)), (66, .int .i64 (k : Nat)), (65, .slice (some ⟨g, 0, none⟩) k cap), (64, .slice (some ⟨g, 0, none⟩) k cap), (63, .int .i64 (k - 1 - i : Nat)), (62, .int .i64 (i : Nat)), (61, .int .i64 (k - 1 : Nat)), (60, .int .i64 (k : Nat)), (59, .slice (some ⟨g, 0, none⟩) k cap), (58, .slice (some ⟨g, 0, none⟩) k cap), (57, .int .i64 (i : Nat)), (56, .slice (some ⟨g, 0, none⟩) k cap), (53, .bool (decide (i < (k / 2)))), (8, .int .i64 (i : Nat)), (3, .slice (some ⟨g, 0, none⟩) k cap), (2, .string (bs [])), (0, .string (bs (minB (N / 10 ^ k))))]) => ?_
        refine take_op FF59 (i := 17) (oi := opAt Tryd.f14 18 17) (v := (.int .i64 (i : Nat))) (d := 73) (by kernel_rfl) (by kernel_rfl) (by kernel_rfl) (by kernel_rfl) (fun _ _ _ _ _ h => h) (by kernel_rfl) (by decide) (by kernel_rfl) (mvV (x := .tmp 8) (by kernel_rfl) rfl) fun ac60 (FF61 : Fr 80 ac60 [(73, .int .i64 (i : Nat)), (72, .slice (some ⟨g, 0, none⟩) k cap), (70, .pointer (some ⟨g, k - 1 - i, none⟩)), (69, .int .i64 (k - 1 - i : Nat)), (68, .int .i64 (i : Nat)), (67, .int .i64 (k - 1 : Nat)), (66, .int .i64 (k : Nat)), (65, .slice (some ⟨g, 0, none⟩) k cap), (64, .slice (some ⟨g, 0, none⟩) k cap), (63, .int .i64 (k - 1 - i : Nat)), (62, .int .i64 (i : Nat)), (61, .int .i64 (k - 1 : Nat)), (60, .int .i64 (k : Nat)), (59, .slice (some ⟨g, 0, none⟩) k cap), (58, .slice (some ⟨g, 0, none⟩) k cap), (57, .int .i64 (i : Nat)), (56, .slice (some ⟨g, 0, none⟩) k cap), (53, .bool (decide (i < (k / 2)))), (8, .int .i64 (i : Nat)), (3, .slice (some ⟨g, 0, none⟩) k cap), (2, .string (bs [])), (0, .string (bs (minB (N / 10 ^ k))))]) => ?_
        refine take_op FF61 (i := 18) (oi := opAt Tryd.f14 18 18) (v := (.pointer (some ⟨g, i, none⟩))) (d := 74) (by kernel_rfl) (by kernel_rfl) (by kernel_rfl) (by kernel_rfl) (fun _ _ _ _ _ h => h) (by kernel_rfl) (by decide) (by kernel_rfl) (addrV (x := .tmp 72) (y := .tmp 73) (t := 59) (by kernel_rfl) rfl rfl Tryd.underlying59 (by kernel_rfl) hil) fun ac62 (FF63 : Fr 80 ac62 [(74, .pointer (some ⟨g, i, none⟩)), (73, .int .i64 (i : Nat)), (72, .slice (some ⟨g, 0, none⟩) k cap), (70, .pointer (some ⟨g, k - 1 - i, none⟩)), (69, .int .i64 (k - 1 - i : Nat)), (68, .int .i64 (i : Nat)), (67, .int .i64 (k - 1 : Nat)), (66, .int .i64 (k : Nat)), (65, .slice (some ⟨g, 0, none⟩) k cap), (64, .slice (some ⟨g, 0, none⟩) k cap), (63, .int .i64 (k - 1 - i : Nat)), (62, .int .i64 (i : Nat)), (61, .int .i64 (k - 1 : Nat)), (60, .int .i64 (k : Nat)), (59, .slice (some ⟨g, 0, none⟩) k cap), (58, .slice (some ⟨g, 0, none⟩) k cap), (57, .int .i64 (i : Nat)), (56, .slice (some ⟨g, 0, none⟩) k cap), (53, .bool (decide (i < (k / 2)))), (8, .int .i64 (i : Nat)), (3, .slice (some ⟨g, 0, none⟩) k cap), (2, .string (bs [])), (0, .string (bs (minB (N / 10 ^ k))))]) => ?_
        refine take_two FF63 MM27.hasL (i := 15) (j := 19) (oi := opAt Tryd.f14 18 15) (oj := opAt Tryd.f14 18 19) (u := (.int .u8 ((dgs k N).getD (k - 1 - i) 0 : Nat))) (v := (.int .u8 ((dgs k N).getD i 0 : Nat))) (d := 71) (e := 75) (by kernel_rfl) (by kernel_rfl) (by kernel_rfl) (by kernel_rfl) (by kernel_rfl) (by kernel_rfl) (by kernel_rfl) (by decide) (by decide) (by decide) (by decide) (by kernel_rfl) (by kernel_rfl) (by kernel_rfl) (by kernel_rfl) (loadV (x := .tmp 70) (t := 5) (by kernel_rfl) rfl Tryd.underlying5 rfl (List.mem_of_getElem? (i := 0) rfl) ((cat_l (by rw [cn_size, rvL_len, dgs_len]; omega)).trans ((cn_get _ _ _ (by rw [rvL_len, dgs_len]; omega)).trans (by rw [rvL_get _ _ (by rw [dgs_len]; omega), dgs_len, if_neg (by omega)])))) (loadV (x := .tmp 74) (t := 5) (by kernel_rfl) rfl Tryd.underlying5 rfl (List.mem_of_getElem? (i := 0) rfl) ((cat_l (by rw [cn_size, rvL_len, dgs_len]; omega)).trans ((cn_get _ _ _ (by rw [rvL_len, dgs_len]; omega)).trans (by rw [rvL_get _ _ (by rw [dgs_len]; omega), dgs_len, if_neg (by omega)])))) (loadV (x := .tmp 70) (t := 5) (by kernel_rfl) rfl Tryd.underlying5 rfl (List.mem_of_getElem? (i := 0) rfl) ((cat_l (by rw [cn_size, rvL_len, dgs_len]; omega)).trans ((cn_get _ _ _ (by rw [rvL_len, dgs_len]; omega)).trans (by rw [rvL_get _ _ (by rw [dgs_len]; omega), dgs_len, if_neg (by omega)])))) (loadV (x := .tmp 74) (t := 5) (by kernel_rfl) rfl Tryd.underlying5 rfl (List.mem_of_getElem? (i := 0) rfl) ((cat_l (by rw [cn_size, rvL_len, dgs_len]; omega)).trans ((cn_get _ _ _ (by rw [rvL_len, dgs_len]; omega)).trans (by rw [rvL_get _ _ (by rw [dgs_len]; omega), dgs_len, if_neg (by omega)])))) fun ac64 (FF65 : Fr 80 ac64 [(75, .int .u8 ((dgs k N).getD i 0 : Nat)), (71, .int .u8 ((dgs k N).getD (k - 1 - i) 0 : Nat)), (74, .pointer (some ⟨g, i, none⟩)), (73, .int .i64 (i : Nat)), (72, .slice (some ⟨g, 0, none⟩) k cap), (70, .pointer (some ⟨g, k - 1 - i, none⟩)), (69, .int .i64 (k - 1 - i : Nat)), (68, .int .i64 (i : Nat)), (67, .int .i64 (k - 1 : Nat)), (66, .int .i64 (k : Nat)), (65, .slice (some ⟨g, 0, none⟩) k cap), (64, .slice (some ⟨g, 0, none⟩) k cap), (63, .int .i64 (k - 1 - i : Nat)), (62, .int .i64 (i : Nat)), (61, .int .i64 (k - 1 : Nat)), (60, .int .i64 (k : Nat)), (59, .slice (some ⟨g, 0, none⟩) k cap), (58, .slice (some ⟨g, 0, none⟩) k cap), (57, .int .i64 (i : Nat)), (56, .slice (some ⟨g, 0, none⟩) k cap), (53, .bool (decide (i < (k / 2)))), (8, .int .i64 (i : Nat)), (3, .slice (some ⟨g, 0, none⟩) k cap), (2, .string (bs [])), (0, .string (bs (minB (N / 10 ^ k))))]) => ?_
        refine to_row 20 (by kernel_rfl) (by kernel_rfl) (Nat.le_of_ble_eq_true (by kernel_rfl)) (by kernel_rfl) (by kernel_rfl) (by kernel_rfl) (Nat.le_of_ble_eq_true (by kernel_rfl)) ?_
        refine rg_part 4 FF65 MM27 [w_ 1, s_ 0 (.cells ((cn .u8 ((rvL (dgs k N) i).set i ((dgs k N).getD (k - 1 - i) 0))) ++ rest) 5), w_ 1, s_ 0 (.cells ((cn .u8 (rvL (dgs k N) (i + 1))) ++ rest) 5)] [8, 3, 2, 0] (fun Kt => i < k ∧ g = g ∧ i < ((cn .u8 (rvL (dgs k N) i)) ++ rest).size ∧ (((0, 0)).2 = 0 ∨ i < ((0, 0)).1) ∧ ((cn .u8 (rvL (dgs k N) i)) ++ rest).setIfInBounds i (.int .u8 ((dgs k N).getD (k - 1 - i) 0 : Nat)) = (cn .u8 ((rvL (dgs k N) i).set i ((dgs k N).getD (k - 1 - i) 0))) ++ rest ∧ (k - 1 - i) < k ∧ g = g ∧ k - 1 - i < ((cn .u8 ((rvL (dgs k N) i).set i ((dgs k N).getD (k - 1 - i) 0))) ++ rest).size ∧ (((0, 0)).2 = 0 ∨ k - 1 - i < ((0, 0)).1) ∧ ((cn .u8 ((rvL (dgs k N) i).set i ((dgs k N).getD (k - 1 - i) 0))) ++ rest).setIfInBounds (k - 1 - i) (.int .u8 ((dgs k N).getD i 0 : Nat)) = (cn .u8 (rvL (dgs k N) (i + 1))) ++ rest ∧ Kt [(8, .int .i64 (i : Nat)), (3, .slice (some ⟨g, 0, none⟩) k cap), (2, .string (bs [])), (0, .string (bs (minB (N / 10 ^ k))))] [(g, .cells ((cn .u8 (rvL (dgs k N) (i + 1))) ++ rest) 5)]) (by kernel_rfl) (fun _ => by kernel_rfl) (⟨hil, rfl, (by rw [Array.size_append, cn_size, rvL_len, dgs_len]; omega), (.inl rfl), ((cat_set_l (by rw [cn_size, rvL_len, dgs_len]; omega)).trans (congrArg (· ++ _) (cn_set _ _ _ _))), hjl, rfl, (by rw [Array.size_append, cn_size, List.length_set, rvL_len, dgs_len]; omega), (.inl rfl), ((cat_set_l (by rw [cn_size, List.length_set, rvL_len, dgs_len]; omega)).trans (congrArg (· ++ _) ((cn_set _ _ _ _).trans (congrArg _ (rvL_step (dgs_len _ _) hlt4))))), fun ac66 wd66 FF66 MM66 => ?_⟩)
        refine wpl_nil ?_
        refine inb_n (then_n ?_)
        refine rg_seq FF66 MM66 [o_, o_, o_] [8, 3, 2, 0] (fun Kt => i + 1 < 9223372036854775808 ∧ Kt [(8, .int .i64 (i + 1 : Nat)), (3, .slice (some ⟨g, 0, none⟩) k cap), (2, .string (bs [])), (0, .string (bs (minB (N / 10 ^ k))))] [(g, .cells ((cn .u8 (rvL (dgs k N) (i + 1))) ++ rest) 5)]) (by kernel_rfl) (fun _ => by kernel_rfl) (⟨(by omega), fun ac67 wd67 FF67 MM67 => ?_⟩)
        have hd4 := cnt_of (FF67.get 0 rfl)
        refine then_n ⟨⟨i + 1, by omega, FF67.pick [0, 1, 2, 3], MM67⟩, ?_⟩
        rw [hc4, hd4]; omega
      · skip
        refine then_n (.inr ⟨(FF25.ev 0 rfl).trans (dec_f hlt4), ?_⟩)
        have hrv := rvL_end (X := dgs k N) (dgs_len _ _) hlt4 hi
        rw [hrv] at MM25
        refine then_n ?_
        refine wp_seq (rg_seq FF25 MM25 [o_, l_ 0 (.string (bs ((dgs k N).reverse))), o_] [8, 3, 2, 0] (fun Kt => g = g ∧ StrAt ((cn .u8 ((dgs k N).reverse)) ++ rest) 0 k (bs ((dgs k N).reverse)) ∧ Kt [(2, .string (bs ((dgs k N).reverse))), (8, .int .i64 (i : Nat)), (3, .slice (some ⟨g, 0, none⟩) k cap), (0, .string (bs (minB (N / 10 ^ k))))] [(g, .cells ((cn .u8 ((dgs k N).reverse)) ++ rest) 5)]) (by kernel_rfl) (fun _ => by kernel_rfl) (⟨rfl, (str_cat (by rw [List.length_reverse, dgs_len]) (by rw [← hrv]; exact rvL_lt (dgs_lt _ _) _)), fun ac68 wd68 FF68 MM68 => then_n ?_⟩))
        refine wp_ret ?_
        repeat first | refine then_ret ?_ | refine inb_ret ?_
        exact (ret_fr FF68 0 Tryd.results14 rfl ⟨congrArg (fun z => Ending.returned (Value.string (bs z))) (by rw [hkd]; exact dgs_all hN0), MM68.below⟩)

end Go.Proofs.YtcannnmpemnklaaDoor
namespace Go.Proofs.YtcannnmpemnklaaDoor
open Go.RowKit

theorem sz_mul8 (M N : Nat) : sz (M * N) ≤ sz M + sz N := by
  refine sz_le ?_
  rw [Nat.pow_add]
  rcases Nat.eq_zero_or_pos N with h | h
  · subst h; rw [Nat.mul_zero]; exact Nat.mul_pos (pw_pos _) (pw_pos _)
  · exact Nat.mul_lt_mul'' (sz_ok M).1 (sz_ok N).1
theorem sz_pow8 {M : Nat} (hM : sz M ≤ 20) : ∀ i, sz (M ^ i) ≤ 1 + 20 * i
  | 0 => by rw [Nat.pow_zero]; decide
  | i + 1 => by
    rw [Nat.pow_succ]
    have h1 := sz_mul8 (M ^ i) M
    have h2 := sz_pow8 hM i
    omega
theorem cmp1_pos {M : Nat} : cmpN M 1 > ((0 : Nat) : Int) ↔ 1 < M := by
  unfold cmpN
  split
  · constructor <;> intro h <;> omega
  · split
    · constructor <;> intro h <;> omega
    · constructor <;> intro h <;> omega
theorem pow_small {M n : Nat} (h : ¬ 1 < M) (h2 : ¬ (n > 0 ∧ sz M = 0)) : 1 = M ^ n := by
  rcases Nat.eq_zero_or_pos M with e | e
  · have : n = 0 := by
      rcases Nat.eq_zero_or_pos n with q | q
      · exact q
      · exact absurd ⟨q, by rw [e]; rfl⟩ h2
    rw [this, Nat.pow_zero]
  · rw [show M = 1 by omega, Nat.one_pow]
theorem pow_none {M n : Nat} (h : n > 0) (h2 : sz M = 0) : 0 = M ^ n := by rw [sz0 h2, Nat.zero_pow h]
set_option maxRecDepth 100000 in
theorem pow8_big (M n : Nat) (hM : sz M ≤ 20) (hM1 : 1 < M) (hn : n ≤ 300) (w0 : World) :
    Calls Tryd.prog 29 #[.string (bs (minB M)), .int .i64 (n : Nat)] w0 fun e w' => e = .returned (.string (bs (minB (M ^ n)))) ∧ Below w0.heap.size w0 w' := by
  refine enter_fr Tryd.func29 rfl Tryd.ntmps29 (by simp) fun ac (FF : Fr 30 ac [(0, .string (bs (minB M))), (1, .int .i64 (n : Nat))]) => ?_
  have MM := MemS.start w0
  refine wp_seq (rg_seq FF MM [o_] [0, 1, 4] (fun Kt => Kt [(4, .string (bs [])), (0, .string (bs (minB M))), (1, .int .i64 (n : Nat))] []) (by kernel_rfl) (fun _ => by kernel_rfl) (fun ac1 wd1 FF1 MM1 => then_n ?_))
  refine wp_seq (rg_seq FF1 MM1 [t_ (.string (bs (minB 1))), o_] [4, 0, 1, 5] (fun Kt => CallP Tryd.prog 20 [.int .u64 (1 : Nat)] [] (.string (bs (minB 1))) ∧ Kt [(5, .string (bs (minB 1))), (4, .string (bs [])), (0, .string (bs (minB M))), (1, .int .i64 (n : Nat))] []) (by kernel_rfl) (fun _ => by kernel_rfl) (⟨(callP_of en_rof (of_any 1 (by decide)) _), fun ac2 wd2 FF2 MM2 => then_n ?_⟩))
  have FFz : Fr 30 ac2 [(5, .string (bs (minB (M ^ 0)))), (4, .string (bs [])), (0, .string (bs (minB M))), (1, .int .i64 (n : Nat))] := by rw [Nat.pow_zero]; exact FF2
  refine wp_seq ?_
  refine wp_seq (rg_seq FFz MM2 [o_] [5, 4, 0, 1, 6] (fun Kt => Kt [(6, .int .i64 (0 : Nat)), (5, .string (bs (minB (M ^ 0)))), (4, .string (bs [])), (0, .string (bs (minB M))), (1, .int .i64 (n : Nat))] []) (by kernel_rfl) (fun _ => by kernel_rfl) (fun ac3 wd3 FF3 MM3 => then_n ?_))
  refine wp_for2 (fun a' w' => ∃ i : Nat, i ≤ n ∧ Fr 30 a' [(6, .int .i64 (i : Nat)), (5, .string (bs (minB (M ^ i)))), (4, .string (bs [])), (0, .string (bs (minB M))), (1, .int .i64 (n : Nat))] ∧ MemS (fun k => k < w0.heap.size) w0 w' [] []) (fun a' _ => (n - cnt 6 a').toNat) ⟨0, Nat.zero_le _, FF3.pick [0, 1, 2, 3, 4], MM3⟩ ?_
  rintro ac4 wd4 ⟨i, hi, FF4, MM4⟩
  have hc := cnt_of (FF4.get 0 rfl)
  by_cases h1 : i < n
  · skip
    refine rg_seq FF4 MM4 [o_, o_, w_ 2, o_, o_, t_ (.string (bs (minB 1))), t_ (.int .i64 (cmpN M 1 : Int)), u_ 4 (.bool true), o_] [6, 5, 4, 0, 1, 16] (fun Kt => i < n ∧ CallP Tryd.prog 20 [.int .u64 (1 : Nat)] [] (.string (bs (minB 1))) ∧ CallP Tryd.prog 18 [.string (bs (minB M)), .string (bs (minB 1))] [] (.int .i64 (cmpN M 1 : Int)) ∧ Value.bool (decide ((cmpN M 1) > ((0 : Nat) : Int))) = .bool true ∧ Kt [(16, .bool true), (6, .int .i64 (i : Nat)), (5, .string (bs (minB (M ^ i)))), (4, .string (bs [])), (0, .string (bs (minB M))), (1, .int .i64 (n : Nat))] []) (by kernel_rfl) (fun _ => by kernel_rfl) (⟨h1, (callP_of en_rof (of_any 1 (by decide)) _), (callP_of en_rcmp (cmp_any M 1 (by have : sz 1 = 1 := rfl; omega)) _), (dec_t (cmp1_pos.2 hM1)), fun ac5 wd5 FF5 MM5 => ?_⟩)
    refine then_n (.inl ⟨FF5.ev 0 rfl, ?_⟩)
    refine rg_seq FF5 MM5 [o_, o_, t_ (.string (bs (minB ((M ^ i) * M)))), o_] [6, 5, 4, 0, 1] (fun Kt => CallP Tryd.prog 23 [.string (bs (minB (M ^ i))), .string (bs (minB M))] [] (.string (bs (minB ((M ^ i) * M)))) ∧ Kt [(5, .string (bs (minB ((M ^ i) * M)))), (6, .int .i64 (i : Nat)), (4, .string (bs [])), (0, .string (bs (minB M))), (1, .int .i64 (n : Nat))] []) (by kernel_rfl) (fun _ => by kernel_rfl) (⟨(callP_of en_rmul (mul8_any (M ^ i) M (by have := sz_pow8 hM i; omega)) _), fun ac6 wd6 FF6 MM6 => ?_⟩)
    refine inb_n (then_n ?_)
    refine rg_seq FF6 MM6 [o_, o_, o_] [5, 6, 4, 0, 1] (fun Kt => i + 1 < 9223372036854775808 ∧ Kt [(6, .int .i64 (i + 1 : Nat)), (5, .string (bs (minB ((M ^ i) * M)))), (4, .string (bs [])), (0, .string (bs (minB M))), (1, .int .i64 (n : Nat))] []) (by kernel_rfl) (fun _ => by kernel_rfl) (⟨(by omega), fun ac7 wd7 FF7 MM7 => ?_⟩)
    have hd := cnt_of (FF7.get 0 rfl)
    rw [← Nat.pow_succ] at FF7
    refine then_n ⟨⟨i + 1, by omega, FF7.pick [0, 1, 2, 3, 4], MM7⟩, ?_⟩
    rw [hc, hd]; omega
  · skip
    refine rg_seq FF4 MM4 [o_, o_, w_ 3, o_, o_, o_, o_, o_, o_] [6, 5, 4, 0, 1, 16] (fun Kt => ¬ (i < n) ∧ Kt [(16, .bool false), (6, .int .i64 (i : Nat)), (5, .string (bs (minB (M ^ i)))), (4, .string (bs [])), (0, .string (bs (minB M))), (1, .int .i64 (n : Nat))] []) (by kernel_rfl) (fun _ => by kernel_rfl) (⟨h1, fun ac8 wd8 FF8 MM8 => ?_⟩)
    refine then_n (.inr ⟨FF8.ev 0 rfl, ?_⟩)
    obtain rfl : n = i := by omega
    refine then_n ?_
    refine wp_seq ?_
    by_cases h6 : n > 0
    · skip
      refine wp_seq (rg_seq FF8 MM8 [o_, w_ 2, o_, o_, t_ (.int .i64 (sz M : Nat)), w_ 3, o_] [6, 5, 4, 0, 1, 28] (fun Kt => n > 0 ∧ Value.int .i64 ((bs (minB M)).size : Nat) = .int .i64 (sz M : Nat) ∧ ¬ ((sz M) = 0) ∧ Kt [(28, .bool false), (6, .int .i64 (n : Nat)), (5, .string (bs (minB (M ^ n)))), (4, .string (bs [])), (0, .string (bs (minB M))), (1, .int .i64 (n : Nat))] []) (by kernel_rfl) (fun _ => by kernel_rfl) (⟨h6, (vI ((bs_size _).trans (minB_len M))), (fun e => by rw [sz0 e] at hM1; omega), fun ac9 wd9 FF9 MM9 => then_n ?_⟩))
      refine wp_cond_false (FF9.ev 0 rfl) ?_
      refine wp_skip ?_
      refine then_n ?_
      refine wp_seq (rg_seq FF9 MM9 [o_, o_] [6, 5, 4, 0, 1] (fun Kt => Kt [(4, .string (bs (minB (M ^ n)))), (6, .int .i64 (n : Nat)), (5, .string (bs (minB (M ^ n)))), (0, .string (bs (minB M))), (1, .int .i64 (n : Nat))] []) (by kernel_rfl) (fun _ => by kernel_rfl) (fun ac10 wd10 FF10 MM10 => then_n ?_))
      refine wp_ret ?_
      repeat first | refine then_ret ?_ | refine inb_ret ?_
      exact (ret_fr FF10 0 Tryd.results29 rfl ⟨rfl, MM10.below⟩)
    · skip
      refine wp_seq (rg_seq FF8 MM8 [o_, w_ 3, o_, o_, o_, o_, o_] [6, 5, 4, 0, 1, 28] (fun Kt => ¬ (n > 0) ∧ Kt [(28, .bool false), (6, .int .i64 (n : Nat)), (5, .string (bs (minB (M ^ n)))), (4, .string (bs [])), (0, .string (bs (minB M))), (1, .int .i64 (n : Nat))] []) (by kernel_rfl) (fun _ => by kernel_rfl) (⟨h6, fun ac11 wd11 FF11 MM11 => then_n ?_⟩))
      refine wp_cond_false (FF11.ev 0 rfl) ?_
      refine wp_skip ?_
      refine then_n ?_
      refine wp_seq (rg_seq FF11 MM11 [o_, o_] [6, 5, 4, 0, 1] (fun Kt => Kt [(4, .string (bs (minB (M ^ n)))), (6, .int .i64 (n : Nat)), (5, .string (bs (minB (M ^ n)))), (0, .string (bs (minB M))), (1, .int .i64 (n : Nat))] []) (by kernel_rfl) (fun _ => by kernel_rfl) (fun ac12 wd12 FF12 MM12 => then_n ?_))
      refine wp_ret ?_
      repeat first | refine then_ret ?_ | refine inb_ret ?_
      exact (ret_fr FF12 0 Tryd.results29 rfl ⟨rfl, MM12.below⟩)
set_option maxRecDepth 100000 in
theorem pow8_small (M n : Nat) (hM : sz M ≤ 20) (hM1 : ¬ 1 < M) (_hn : n < 9223372036854775808) (w0 : World) :
    Calls Tryd.prog 29 #[.string (bs (minB M)), .int .i64 (n : Nat)] w0 fun e w' => e = .returned (.string (bs (minB (M ^ n)))) ∧ Below w0.heap.size w0 w' := by
  refine enter_fr Tryd.func29 rfl Tryd.ntmps29 (by simp) fun ac (FF : Fr 30 ac [(0, .string (bs (minB M))), (1, .int .i64 (n : Nat))]) => ?_
  have MM := MemS.start w0
  refine wp_seq (rg_seq FF MM [o_] [0, 1, 4] (fun Kt => Kt [(4, .string (bs [])), (0, .string (bs (minB M))), (1, .int .i64 (n : Nat))] []) (by kernel_rfl) (fun _ => by kernel_rfl) (fun ac1 wd1 FF1 MM1 => then_n ?_))
  refine wp_seq (rg_seq FF1 MM1 [t_ (.string (bs (minB 1))), o_] [4, 0, 1, 5] (fun Kt => CallP Tryd.prog 20 [.int .u64 (1 : Nat)] [] (.string (bs (minB 1))) ∧ Kt [(5, .string (bs (minB 1))), (4, .string (bs [])), (0, .string (bs (minB M))), (1, .int .i64 (n : Nat))] []) (by kernel_rfl) (fun _ => by kernel_rfl) (⟨(callP_of en_rof (of_any 1 (by decide)) _), fun ac2 wd2 FF2 MM2 => then_n ?_⟩))
  refine wp_seq ?_
  refine wp_seq (rg_seq FF2 MM2 [o_] [5, 4, 0, 1, 6] (fun Kt => Kt [(6, .int .i64 (0 : Nat)), (5, .string (bs (minB 1))), (4, .string (bs [])), (0, .string (bs (minB M))), (1, .int .i64 (n : Nat))] []) (by kernel_rfl) (fun _ => by kernel_rfl) (fun ac3 wd3 FF3 MM3 => then_n ?_))
  refine wp_for2 (fun a' w' => ∃ i : Nat, i = 0 ∧ Fr 30 a' [(6, .int .i64 (i : Nat)), (5, .string (bs (minB 1))), (4, .string (bs [])), (0, .string (bs (minB M))), (1, .int .i64 (n : Nat))] ∧ MemS (fun k => k < w0.heap.size) w0 w' [] []) (fun a' _ => 0) ⟨0, rfl, FF3.pick [0, 1, 2, 3, 4], MM3⟩ ?_
  rintro ac4 wd4 ⟨i, hi, FF4, MM4⟩
  by_cases h1 : i < n
  · skip
    refine rg_seq FF4 MM4 [o_, o_, w_ 2, o_, o_, t_ (.string (bs (minB 1))), t_ (.int .i64 (cmpN M 1 : Int)), u_ 4 (.bool false), o_] [6, 5, 4, 0, 1, 16] (fun Kt => i < n ∧ CallP Tryd.prog 20 [.int .u64 (1 : Nat)] [] (.string (bs (minB 1))) ∧ CallP Tryd.prog 18 [.string (bs (minB M)), .string (bs (minB 1))] [] (.int .i64 (cmpN M 1 : Int)) ∧ Value.bool (decide ((cmpN M 1) > ((0 : Nat) : Int))) = .bool false ∧ Kt [(16, .bool false), (6, .int .i64 (i : Nat)), (5, .string (bs (minB 1))), (4, .string (bs [])), (0, .string (bs (minB M))), (1, .int .i64 (n : Nat))] []) (by kernel_rfl) (fun _ => by kernel_rfl) (⟨h1, (callP_of en_rof (of_any 1 (by decide)) _), (callP_of en_rcmp (cmp_any M 1 (by have : sz 1 = 1 := rfl; omega)) _), (dec_f (fun h => hM1 (cmp1_pos.1 h))), fun ac5 wd5 FF5 MM5 => ?_⟩)
    refine then_n (.inr ⟨FF5.ev 0 rfl, ?_⟩)
    refine then_n ?_
    refine wp_seq ?_
    by_cases h6 : n > 0
    · by_cases h7 : sz M = 0
      · skip
        refine wp_seq (rg_seq FF5 MM5 [o_, w_ 2, o_, o_, t_ (.int .i64 (sz M : Nat)), w_ 2, o_] [6, 5, 4, 0, 1, 28] (fun Kt => n > 0 ∧ Value.int .i64 ((bs (minB M)).size : Nat) = .int .i64 (sz M : Nat) ∧ (sz M) = 0 ∧ Kt [(28, .bool true), (6, .int .i64 (i : Nat)), (5, .string (bs (minB 1))), (4, .string (bs [])), (0, .string (bs (minB M))), (1, .int .i64 (n : Nat))] []) (by kernel_rfl) (fun _ => by kernel_rfl) (⟨h6, (vI ((bs_size _).trans (minB_len M))), h7, fun ac6 wd6 FF6 MM6 => then_n ?_⟩))
        refine wp_cond_true (FF6.ev 0 rfl) ?_
        refine wp_seq (rg_seq FF6 MM6 [o_] [6, 5, 4, 0, 1] (fun Kt => Kt [(4, .string (bs [])), (6, .int .i64 (i : Nat)), (5, .string (bs (minB 1))), (0, .string (bs (minB M))), (1, .int .i64 (n : Nat))] []) (by kernel_rfl) (fun _ => by kernel_rfl) (fun ac7 wd7 FF7 MM7 => then_n ?_))
        refine wp_ret ?_
        repeat first | refine then_ret ?_ | refine inb_ret ?_
        exact (ret_fr FF7 0 Tryd.results29 rfl ⟨congrArg (fun z => Ending.returned (Value.string (bs (minB z)))) (pow_none h6 h7), MM7.below⟩)
      · skip
        refine wp_seq (rg_seq FF5 MM5 [o_, w_ 2, o_, o_, t_ (.int .i64 (sz M : Nat)), w_ 3, o_] [6, 5, 4, 0, 1, 28] (fun Kt => n > 0 ∧ Value.int .i64 ((bs (minB M)).size : Nat) = .int .i64 (sz M : Nat) ∧ ¬ ((sz M) = 0) ∧ Kt [(28, .bool false), (6, .int .i64 (i : Nat)), (5, .string (bs (minB 1))), (4, .string (bs [])), (0, .string (bs (minB M))), (1, .int .i64 (n : Nat))] []) (by kernel_rfl) (fun _ => by kernel_rfl) (⟨h6, (vI ((bs_size _).trans (minB_len M))), h7, fun ac8 wd8 FF8 MM8 => then_n ?_⟩))
        refine wp_cond_false (FF8.ev 0 rfl) ?_
        refine wp_skip ?_
        refine then_n ?_
        refine wp_seq (rg_seq FF8 MM8 [o_, o_] [6, 5, 4, 0, 1] (fun Kt => Kt [(4, .string (bs (minB 1))), (6, .int .i64 (i : Nat)), (5, .string (bs (minB 1))), (0, .string (bs (minB M))), (1, .int .i64 (n : Nat))] []) (by kernel_rfl) (fun _ => by kernel_rfl) (fun ac9 wd9 FF9 MM9 => then_n ?_))
        refine wp_ret ?_
        repeat first | refine then_ret ?_ | refine inb_ret ?_
        exact (ret_fr FF9 0 Tryd.results29 rfl ⟨congrArg (fun z => Ending.returned (Value.string (bs (minB z)))) (pow_small hM1 (fun h => by first | exact h7 h.2 | exact h6 h.1)), MM9.below⟩)
    · skip
      refine wp_seq (rg_seq FF5 MM5 [o_, w_ 3, o_, o_, o_, o_, o_] [6, 5, 4, 0, 1, 28] (fun Kt => ¬ (n > 0) ∧ Kt [(28, .bool false), (6, .int .i64 (i : Nat)), (5, .string (bs (minB 1))), (4, .string (bs [])), (0, .string (bs (minB M))), (1, .int .i64 (n : Nat))] []) (by kernel_rfl) (fun _ => by kernel_rfl) (⟨h6, fun ac10 wd10 FF10 MM10 => then_n ?_⟩))
      refine wp_cond_false (FF10.ev 0 rfl) ?_
      refine wp_skip ?_
      refine then_n ?_
      refine wp_seq (rg_seq FF10 MM10 [o_, o_] [6, 5, 4, 0, 1] (fun Kt => Kt [(4, .string (bs (minB 1))), (6, .int .i64 (i : Nat)), (5, .string (bs (minB 1))), (0, .string (bs (minB M))), (1, .int .i64 (n : Nat))] []) (by kernel_rfl) (fun _ => by kernel_rfl) (fun ac11 wd11 FF11 MM11 => then_n ?_))
      refine wp_ret ?_
      repeat first | refine then_ret ?_ | refine inb_ret ?_
      exact (ret_fr FF11 0 Tryd.results29 rfl ⟨congrArg (fun z => Ending.returned (Value.string (bs (minB z)))) (pow_small hM1 (fun h => by first | exact h7 h.2 | exact h6 h.1)), MM11.below⟩)
  · skip
    refine rg_seq FF4 MM4 [o_, o_, w_ 3, o_, o_, o_, o_, o_, o_] [6, 5, 4, 0, 1, 16] (fun Kt => ¬ (i < n) ∧ Kt [(16, .bool false), (6, .int .i64 (i : Nat)), (5, .string (bs (minB 1))), (4, .string (bs [])), (0, .string (bs (minB M))), (1, .int .i64 (n : Nat))] []) (by kernel_rfl) (fun _ => by kernel_rfl) (⟨h1, fun ac12 wd12 FF12 MM12 => ?_⟩)
    refine then_n (.inr ⟨FF12.ev 0 rfl, ?_⟩)
    refine then_n ?_
    refine wp_seq ?_
    by_cases h6 : n > 0
    · by_cases h7 : sz M = 0
      · skip
        refine wp_seq (rg_seq FF12 MM12 [o_, w_ 2, o_, o_, t_ (.int .i64 (sz M : Nat)), w_ 2, o_] [6, 5, 4, 0, 1, 28] (fun Kt => n > 0 ∧ Value.int .i64 ((bs (minB M)).size : Nat) = .int .i64 (sz M : Nat) ∧ (sz M) = 0 ∧ Kt [(28, .bool true), (6, .int .i64 (i : Nat)), (5, .string (bs (minB 1))), (4, .string (bs [])), (0, .string (bs (minB M))), (1, .int .i64 (n : Nat))] []) (by kernel_rfl) (fun _ => by kernel_rfl) (⟨h6, (vI ((bs_size _).trans (minB_len M))), h7, fun ac13 wd13 FF13 MM13 => then_n ?_⟩))
        refine wp_cond_true (FF13.ev 0 rfl) ?_
        refine wp_seq (rg_seq FF13 MM13 [o_] [6, 5, 4, 0, 1] (fun Kt => Kt [(4, .string (bs [])), (6, .int .i64 (i : Nat)), (5, .string (bs (minB 1))), (0, .string (bs (minB M))), (1, .int .i64 (n : Nat))] []) (by kernel_rfl) (fun _ => by kernel_rfl) (fun ac14 wd14 FF14 MM14 => then_n ?_))
        refine wp_ret ?_
        repeat first | refine then_ret ?_ | refine inb_ret ?_
        exact (ret_fr FF14 0 Tryd.results29 rfl ⟨congrArg (fun z => Ending.returned (Value.string (bs (minB z)))) (pow_none h6 h7), MM14.below⟩)
      · skip
        refine wp_seq (rg_seq FF12 MM12 [o_, w_ 2, o_, o_, t_ (.int .i64 (sz M : Nat)), w_ 3, o_] [6, 5, 4, 0, 1, 28] (fun Kt => n > 0 ∧ Value.int .i64 ((bs (minB M)).size : Nat) = .int .i64 (sz M : Nat) ∧ ¬ ((sz M) = 0) ∧ Kt [(28, .bool false), (6, .int .i64 (i : Nat)), (5, .string (bs (minB 1))), (4, .string (bs [])), (0, .string (bs (minB M))), (1, .int .i64 (n : Nat))] []) (by kernel_rfl) (fun _ => by kernel_rfl) (⟨h6, (vI ((bs_size _).trans (minB_len M))), h7, fun ac15 wd15 FF15 MM15 => then_n ?_⟩))
        refine wp_cond_false (FF15.ev 0 rfl) ?_
        refine wp_skip ?_
        refine then_n ?_
        refine wp_seq (rg_seq FF15 MM15 [o_, o_] [6, 5, 4, 0, 1] (fun Kt => Kt [(4, .string (bs (minB 1))), (6, .int .i64 (i : Nat)), (5, .string (bs (minB 1))), (0, .string (bs (minB M))), (1, .int .i64 (n : Nat))] []) (by kernel_rfl) (fun _ => by kernel_rfl) (fun ac16 wd16 FF16 MM16 => then_n ?_))
        refine wp_ret ?_
        repeat first | refine then_ret ?_ | refine inb_ret ?_
        exact (ret_fr FF16 0 Tryd.results29 rfl ⟨congrArg (fun z => Ending.returned (Value.string (bs (minB z)))) (pow_small hM1 (fun h => by first | exact h7 h.2 | exact h6 h.1)), MM16.below⟩)
    · skip
      refine wp_seq (rg_seq FF12 MM12 [o_, w_ 3, o_, o_, o_, o_, o_] [6, 5, 4, 0, 1, 28] (fun Kt => ¬ (n > 0) ∧ Kt [(28, .bool false), (6, .int .i64 (i : Nat)), (5, .string (bs (minB 1))), (4, .string (bs [])), (0, .string (bs (minB M))), (1, .int .i64 (n : Nat))] []) (by kernel_rfl) (fun _ => by kernel_rfl) (⟨h6, fun ac17 wd17 FF17 MM17 => then_n ?_⟩))
      refine wp_cond_false (FF17.ev 0 rfl) ?_
      refine wp_skip ?_
      refine then_n ?_
      refine wp_seq (rg_seq FF17 MM17 [o_, o_] [6, 5, 4, 0, 1] (fun Kt => Kt [(4, .string (bs (minB 1))), (6, .int .i64 (i : Nat)), (5, .string (bs (minB 1))), (0, .string (bs (minB M))), (1, .int .i64 (n : Nat))] []) (by kernel_rfl) (fun _ => by kernel_rfl) (fun ac18 wd18 FF18 MM18 => then_n ?_))
      refine wp_ret ?_
      repeat first | refine then_ret ?_ | refine inb_ret ?_
      exact (ret_fr FF18 0 Tryd.results29 rfl ⟨congrArg (fun z => Ending.returned (Value.string (bs (minB z)))) (pow_small hM1 (fun h => by first | exact h7 h.2 | exact h6 h.1)), MM18.below⟩)
theorem pow8_any (M n : Nat) (hM : sz M ≤ 20) (hn : n < 9223372036854775808) (h : ¬ 1 < M ∨ n ≤ 300) (w : World) : Calls Tryd.prog 29 #[.string (bs (minB M)), .int .i64 (n : Nat)] w fun e w' => e = .returned (.string (bs (minB (M ^ n)))) ∧ Below w.heap.size w w' := by
  by_cases h1 : 1 < M
  · exact pow8_big M n hM h1 (h.resolve_left (fun q => q h1)) w
  · exact pow8_small M n hM h1 hn w

end Go.Proofs.YtcannnmpemnklaaDoor
namespace Go.Proofs.YtcannnmpemnklaaDoor
open Go.RowKit

theorem qok {N : Nat} (h : N < 18446744073709551616 ^ 100) : qsz N < 1000000 := Nat.lt_of_le_of_lt (qsz_le h) (by decide)
theorem qok4 {N : Nat} (h : N < 18446744073709551616 ^ 100) : qsz N < 10000 := Nat.lt_of_le_of_lt (qsz_le h) (by decide)
theorem qok3 {N : Nat} (h : N < 18446744073709551616 ^ 100) : qsz N ≤ 1000 := Nat.le_trans (qsz_le h) (by decide)
theorem prN2 (a b : Nat) : prN [a, b] = a * b := by simp [prN]
theorem nadd2 {b : Nat} {T : TypeId} {fr : Nat × Nat} (M N : Nat) (x y : Value) (hs : M + N < 18446744073709551616 ^ 100) (w0 : World) (hb : w0.heap[b]? = some (.cells #[nv M x, nv N y] T fr)) (h1 : NatIn w0 (nv M x) M) (h2 : NatIn w0 (nv N y) N) : Calls Tryd.prog 24 #[.slice (some ⟨b, 0, none⟩) 2 2] w0 fun e w' => ∃ v, e = .returned (.agg #[nv (M + N) v]) ∧ Below w0.heap.size w0 w' ∧ NatNew w0.heap.size w' (nv (M + N) v) (M + N) :=
  nadd_any (some ⟨b, 0, none⟩) 2 [M, N] [x, y] (qok (by simpa using hs)) (show 2 < 1000 by decide) w0 (nats2 hb h1 h2)
theorem nadd3 {b : Nat} {T : TypeId} {fr : Nat × Nat} (M N K : Nat) (x y z : Value) (hs : M + (N + K) < 18446744073709551616 ^ 100) (w0 : World) (hb : w0.heap[b]? = some (.cells #[nv M x, nv N y, nv K z] T fr)) (h1 : NatIn w0 (nv M x) M) (h2 : NatIn w0 (nv N y) N) (h3 : NatIn w0 (nv K z) K) : Calls Tryd.prog 24 #[.slice (some ⟨b, 0, none⟩) 3 3] w0 fun e w' => ∃ v, e = .returned (.agg #[nv (M + (N + K)) v]) ∧ Below w0.heap.size w0 w' ∧ NatNew w0.heap.size w' (nv (M + (N + K)) v) (M + (N + K)) :=
  nadd_any (some ⟨b, 0, none⟩) 3 [M, N, K] [x, y, z] (qok (by simpa using hs)) (show 3 < 1000 by decide) w0 (nats3 hb h1 h2 h3)
theorem nmul2 {b : Nat} {T : TypeId} {fr : Nat × Nat} (M N : Nat) (x y : Value) (hM : M < 18446744073709551616 ^ 100) (hN : N < 18446744073709551616 ^ 100) (w0 : World) (hb : w0.heap[b]? = some (.cells #[nv M x, nv N y] T fr)) (h1 : NatIn w0 (nv M x) M) (h2 : NatIn w0 (nv N y) N) : Calls Tryd.prog 25 #[.slice (some ⟨b, 0, none⟩) 2 2] w0 fun e w' => ∃ v, e = .returned (.agg #[nv (M * N) v]) ∧ Below w0.heap.size w0 w' ∧ NatNew w0.heap.size w' (nv (M * N) v) (M * N) := by
  have h := nmul_any (some ⟨b, 0, none⟩) 2 [M, N] [x, y] (fun j hj => by
    have : j = 0 ∨ j = 1 := by simp at hj; omega
    rcases this with rfl | rfl
    · exact qok3 hM
    · exact qok3 hN) (show 2 ≤ 100 by decide) w0 (nats2 hb h1 h2)
  rw [prN2] at h
  exact h
theorem nmul0 (w0 : World) : Calls Tryd.prog 25 #[.slice none 0 0] w0 fun e w' => ∃ v, e = .returned (.agg #[nv 1 v]) ∧ Below w0.heap.size w0 w' ∧ NatNew w0.heap.size w' (nv 1 v) 1 :=
  nmul_any none 0 [] [] (fun j hj => absurd hj (Nat.not_lt_zero _)) (show 0 ≤ 100 by decide) w0 ⟨.inl rfl, fun j hj => absurd hj (Nat.not_lt_zero _)⟩
theorem ntext_nil (w0 : World) (hT : TabIn w0) : Calls Tryd.prog 13 #[.agg #[.slice none 0 0]] w0 fun e w' => e = .returned (.string (bs [48])) ∧ Below w0.heap.size w0 w' :=
  ntext_any 0 (.slice none 0 0) (by decide) w0 hT (natNew_nil 0 w0).1
theorem decN_of {N n : Nat} (h : N < 10 ^ n) (_hn : 0 < n) (h2 : 10 ^ (n - 1) ≤ N) : decN N = decK n N := by
  have h0 : N ≠ 0 := fun e => by have := dpw_pos (n - 1); omega
  rw [decN_K h0, ← dsz_of h (.inr h2)]
theorem bsz_is {N n : Nat} (h : N < 2 ^ n) (h2 : 2 ^ (n - 1) ≤ N) : bsz N = n := (bsz_of h (.inr h2)).symm
theorem pow_ten : PowOk 10 20 := .inr (by rw [bsz_is (N := 10) (n := 4) (by decide) (by decide)]; decide)
set_option maxRecDepth 100000 in
theorem wakes_any (O : Blks) (hD : Distinct O) (hT : TabO O) (w0 : World) (H : Has w0 O) :
    Calls Tryd.prog 8 #[] w0 fun e w' => e = .returned (.bool true) ∧ Below w0.heap.size w0 w' := by
  refine enter_fr Tryd.func8 rfl Tryd.ntmps8 (by simp) fun ac (FF : Fr 93 ac []) => ?_
  have MM : MemS (fun k => k < w0.heap.size ∧ ∀ x ∈ O, x.1 ≠ k) w0 w0 O [] := MemS.startN H hD
  refine wp_seq (rg_seq FF MM [o_] [0] (fun Kt => Kt [(0, .bool false)] O) (by kernel_rfl) (fun _ => by kernel_rfl) (fun ac1 wd1 FF1 MM1 => then_n ?_))
  refine wp_seq (wp_region_list ?_)
  refine st_callE [0, 11] FF1 (d := 11) (mk := fun v => .agg #[nv (300) v]) en_nof rfl rfl (nof_any 300 (by decide) _) rfl (by kernel_rfl) (by decide) fun ac3 wd3 lv2 (FF3 : Fr 93 ac3 [(11, .agg (#[nv 300 lv2] : Array Value)), (0, .bool false)]) hr4 => ?_
  obtain ⟨O5, MM60, hN7, hs8⟩ := MemS.addNats (K := []) (O := O) MM1 hr4.1 hr4.2 (Nats.nil O)
  have MM6 : MemS (fun k => k < w0.heap.size ∧ ∀ x ∈ O, x.1 ≠ k) w0 wd3 O5 [] := MM60
  have hT_9 := hT.mono hs8
  refine st_callE [11, 0, 12] FF3 (d := 12) (mk := fun v => .agg #[nv (5) v]) en_nbytes rfl rfl (nbytes_any [5] (lit_lt (by kernel_rfl)) (by decide) _) rfl (by kernel_rfl) (by decide) fun ac11 wd11 lv10 (FF11 : Fr 93 ac11 [(12, .agg (#[nv 5 lv10] : Array Value)), (11, .agg (#[nv 300 lv2] : Array Value)), (0, .bool false)]) hr12 => ?_
  obtain ⟨O13, MM140, hN15, hs16⟩ := MemS.addNats (K := []) (O := O5) MM6 hr12.1 hr12.2 hN7
  have MM14 : MemS (fun k => k < w0.heap.size ∧ ∀ x ∈ O, x.1 ≠ k) w0 wd11 O13 [] := MM140
  have hT_17 := hT_9.mono hs16
  have hz18 : ∀ x ∈ O, x ∈ O13 := fun x hx => hs16 x (hs8 x hx)
  refine rg_part 4 FF11 MM14 [o_, o_, b_ 1, b_ 0] [0, 1, 2] (fun Kt => ∀ ba, ∀ bb, ba = ba ∧ (#[.slice none 0 0] : Array Value).size = 1 ∧ (#[nv 300 lv2] : Array Value).size = 1 ∧ (#[nv 300 lv2] : Array Value).all (·.oneCell') = true ∧ (0, 0).2 = 0 ∧ bb = bb ∧ (#[.slice none 0 0] : Array Value).size = 1 ∧ (#[nv 5 lv10] : Array Value).size = 1 ∧ (#[nv 5 lv10] : Array Value).all (·.oneCell') = true ∧ (0, 0).2 = 0 ∧ Kt [(2, .pointer (some ⟨bb, 0, none⟩)), (1, .pointer (some ⟨ba, 0, none⟩)), (0, .bool false)] ((bb, .cells (#[nv 5 lv10] : Array Value) 27) :: (ba, .cells (#[nv 300 lv2] : Array Value) 27) :: O13)) (by kernel_rfl) (fun _ => by kernel_rfl) (fun ba => fun bb => ⟨rfl, rfl, rfl, (by kernel_rfl), rfl, rfl, rfl, rfl, (by kernel_rfl), rfl, fun ac19 wd19 FF19 MM19 => ?_⟩)
  refine wpl_nil (then_n ?_)
  refine wp_seq (wp_region_list ?_)
  refine rg_part 2 FF19 MM19 [b_ 1, b_ 0] [2, 1, 0, 14, 15] (fun Kt => ba = ba ∧ (#[nv 300 lv2] : Array Value).size = 1 ∧ bb = bb ∧ (#[nv 5 lv10] : Array Value).size = 1 ∧ Kt [(15, .agg (#[nv 5 lv10] : Array Value)), (14, .agg (#[nv 300 lv2] : Array Value)), (2, .pointer (some ⟨bb, 0, none⟩)), (1, .pointer (some ⟨ba, 0, none⟩)), (0, .bool false)] ((bb, .cells (#[nv 5 lv10] : Array Value) 27) :: (ba, .cells (#[nv 300 lv2] : Array Value) 27) :: O13)) (by kernel_rfl) (fun _ => by kernel_rfl) (⟨rfl, rfl, rfl, rfl, fun ac20 wd20 FF20 MM20 => ?_⟩)
  refine st_callE [2, 1, 0, 16] FF20 (d := 16) (mk := fun v => .tuple #[.agg #[nv (295) v], .bool true]) en_nsub rfl rfl (nsub_any 300 5 lv2 lv10 (qok (by decide +kernel)) _ ((hN15.get 1 rfl).at (Has.tl (Has.tl MM20.hasL))) ((hN15.get 0 rfl).at (Has.tl (Has.tl MM20.hasL)))) rfl (by kernel_rfl) (by decide) fun ac22 wd22 lv21 (FF22 : Fr 93 ac22 [(16, .tuple #[.agg (#[nv 295 lv21] : Array Value), .bool true]), (2, .pointer (some ⟨bb, 0, none⟩)), (1, .pointer (some ⟨ba, 0, none⟩)), (0, .bool false)]) hr23 => ?_
  obtain ⟨O24, MM250, hN26, hs27⟩ := MemS.addNats (K := [(bb, .cells (#[nv 5 lv10] : Array Value) 27), (ba, .cells (#[nv 300 lv2] : Array Value) 27)]) (O := O13) MM20 hr23.1 hr23.2 hN15
  have MM25 : MemS (fun k => k < w0.heap.size ∧ ∀ x ∈ O, x.1 ≠ k) w0 wd22 ((bb, .cells (#[nv 5 lv10] : Array Value) 27) :: (ba, .cells (#[nv 300 lv2] : Array Value) 27) :: O24) [] := MM250
  have hT_28 := hT_17.mono hs27
  have hz29 : ∀ x ∈ O, x ∈ O24 := fun x hx => hs27 x (hz18 x hx)
  refine rg_part 6 FF22 MM25 [o_, o_, o_, o_, b_ 0, o_] [2, 1, 0, 3, 4] (fun Kt => ∀ bd, bd = bd ∧ (#[.slice none 0 0] : Array Value).size = 1 ∧ (#[nv 295 lv21] : Array Value).size = 1 ∧ (#[nv 295 lv21] : Array Value).all (·.oneCell') = true ∧ (0, 0).2 = 0 ∧ Kt [(4, .bool true), (3, .pointer (some ⟨bd, 0, none⟩)), (2, .pointer (some ⟨bb, 0, none⟩)), (1, .pointer (some ⟨ba, 0, none⟩)), (0, .bool false)] ((bd, .cells (#[nv 295 lv21] : Array Value) 27) :: (bb, .cells (#[nv 5 lv10] : Array Value) 27) :: (ba, .cells (#[nv 300 lv2] : Array Value) 27) :: O24)) (by kernel_rfl) (fun _ => by kernel_rfl) (fun bd => ⟨rfl, rfl, rfl, (by kernel_rfl), rfl, fun ac30 wd30 FF30 MM30 => ?_⟩)
  refine wpl_nil (then_n ?_)
  refine wp_seq (wp_region_list ?_)
  refine rg_part 2 FF30 MM30 [b_ 1, b_ 2] [4, 3, 2, 1, 0, 20, 21] (fun Kt => bb = bb ∧ (#[nv 5 lv10] : Array Value).size = 1 ∧ ba = ba ∧ (#[nv 300 lv2] : Array Value).size = 1 ∧ Kt [(21, .agg (#[nv 300 lv2] : Array Value)), (20, .agg (#[nv 5 lv10] : Array Value)), (4, .bool true), (3, .pointer (some ⟨bd, 0, none⟩)), (2, .pointer (some ⟨bb, 0, none⟩)), (1, .pointer (some ⟨ba, 0, none⟩)), (0, .bool false)] ((bd, .cells (#[nv 295 lv21] : Array Value) 27) :: (bb, .cells (#[nv 5 lv10] : Array Value) 27) :: (ba, .cells (#[nv 300 lv2] : Array Value) 27) :: O24)) (by kernel_rfl) (fun _ => by kernel_rfl) (⟨rfl, rfl, rfl, rfl, fun ac31 wd31 FF31 MM31 => ?_⟩)
  refine st_callE [4, 3, 2, 1, 0, 22] FF31 (d := 22) (mk := fun v => .tuple #[.agg #[nv (0) v], .bool false]) en_nsub rfl rfl (nsub_any 5 300 lv10 lv2 (qok (by decide +kernel)) _ ((hN26.get 1 rfl).at (Has.tl (Has.tl (Has.tl MM31.hasL)))) ((hN26.get 2 rfl).at (Has.tl (Has.tl (Has.tl MM31.hasL))))) rfl (by kernel_rfl) (by decide) fun ac33 wd33 lv32 (FF33 : Fr 93 ac33 [(22, .tuple #[.agg (#[nv 0 lv32] : Array Value), .bool false]), (4, .bool true), (3, .pointer (some ⟨bd, 0, none⟩)), (2, .pointer (some ⟨bb, 0, none⟩)), (1, .pointer (some ⟨ba, 0, none⟩)), (0, .bool false)]) hr34 => ?_
  obtain ⟨O35, MM360, hN37, hs38⟩ := MemS.addNats (K := [(bd, .cells (#[nv 295 lv21] : Array Value) 27), (bb, .cells (#[nv 5 lv10] : Array Value) 27), (ba, .cells (#[nv 300 lv2] : Array Value) 27)]) (O := O24) MM31 hr34.1 hr34.2 hN26
  have MM36 : MemS (fun k => k < w0.heap.size ∧ ∀ x ∈ O, x.1 ≠ k) w0 wd33 ((bd, .cells (#[nv 295 lv21] : Array Value) 27) :: (bb, .cells (#[nv 5 lv10] : Array Value) 27) :: (ba, .cells (#[nv 300 lv2] : Array Value) 27) :: O35) [] := MM360
  have hT_39 := hT_28.mono hs38
  have hz40 : ∀ x ∈ O, x ∈ O35 := fun x hx => hs38 x (hz29 x hx)
  refine rg_part 6 FF33 MM36 [o_, o_, o_, o_, b_ 0, o_] [4, 3, 2, 1, 0, 6] (fun Kt => ∀ be, be = be ∧ (#[.slice none 0 0] : Array Value).size = 1 ∧ (#[nv 0 lv32] : Array Value).size = 1 ∧ (#[nv 0 lv32] : Array Value).all (·.oneCell') = true ∧ (0, 0).2 = 0 ∧ Kt [(6, .bool false), (4, .bool true), (3, .pointer (some ⟨bd, 0, none⟩)), (2, .pointer (some ⟨bb, 0, none⟩)), (1, .pointer (some ⟨ba, 0, none⟩)), (0, .bool false)] ((be, .cells (#[nv 0 lv32] : Array Value) 27) :: (bd, .cells (#[nv 295 lv21] : Array Value) 27) :: (bb, .cells (#[nv 5 lv10] : Array Value) 27) :: (ba, .cells (#[nv 300 lv2] : Array Value) 27) :: O35)) (by kernel_rfl) (fun _ => by kernel_rfl) (fun be => ⟨rfl, rfl, rfl, (by kernel_rfl), rfl, fun ac41 wd41 FF41 MM41 => ?_⟩)
  refine wpl_nil (then_n ?_)
  refine wp_seq (wp_region_list ?_)
  refine st_callE [6, 4, 3, 2, 1, 0, 26] FF41 (d := 26) (mk := fun v => .agg #[nv (10) v]) en_nof rfl rfl (nof_any 10 (by decide) _) rfl (by kernel_rfl) (by decide) fun ac43 wd43 lv42 (FF43 : Fr 93 ac43 [(26, .agg (#[nv 10 lv42] : Array Value)), (6, .bool false), (4, .bool true), (3, .pointer (some ⟨bd, 0, none⟩)), (2, .pointer (some ⟨bb, 0, none⟩)), (1, .pointer (some ⟨ba, 0, none⟩)), (0, .bool false)]) hr44 => ?_
  obtain ⟨O45, MM460, hN47, hs48⟩ := MemS.addNats (K := [(be, .cells (#[nv 0 lv32] : Array Value) 27), (bd, .cells (#[nv 295 lv21] : Array Value) 27), (bb, .cells (#[nv 5 lv10] : Array Value) 27), (ba, .cells (#[nv 300 lv2] : Array Value) 27)]) (O := O35) MM41 hr44.1 hr44.2 hN37
  have MM46 : MemS (fun k => k < w0.heap.size ∧ ∀ x ∈ O, x.1 ≠ k) w0 wd43 ((be, .cells (#[nv 0 lv32] : Array Value) 27) :: (bd, .cells (#[nv 295 lv21] : Array Value) 27) :: (bb, .cells (#[nv 5 lv10] : Array Value) 27) :: (ba, .cells (#[nv 300 lv2] : Array Value) 27) :: O45) [] := MM460
  have hT_49 := hT_39.mono hs48
  have hz50 : ∀ x ∈ O, x ∈ O45 := fun x hx => hs48 x (hz40 x hx)
  refine st_callE [6, 4, 3, 2, 1, 0, 27] FF43 (d := 27) (mk := fun v => .tuple #[.agg #[nv (10 ^ 20) v], .int .i64 (0 : Nat)]) en_npow rfl rfl (npow_ok 10 lv42 (qok4 (by decide +kernel)) 20 pow_ten (by decide) _ ((hN47.get 0 rfl).at (Has.tl (Has.tl (Has.tl (Has.tl MM46.hasL)))))) rfl (by kernel_rfl) (by decide) fun ac52 wd52 lv51 (FF52 : Fr 93 ac52 [(27, .tuple #[.agg (#[nv (10 ^ 20) lv51] : Array Value), .int .i64 (0 : Nat)]), (6, .bool false), (4, .bool true), (3, .pointer (some ⟨bd, 0, none⟩)), (2, .pointer (some ⟨bb, 0, none⟩)), (1, .pointer (some ⟨ba, 0, none⟩)), (0, .bool false)]) hr53 => ?_
  obtain ⟨O54, MM550, hN56, hs57⟩ := MemS.addNats (K := [(be, .cells (#[nv 0 lv32] : Array Value) 27), (bd, .cells (#[nv 295 lv21] : Array Value) 27), (bb, .cells (#[nv 5 lv10] : Array Value) 27), (ba, .cells (#[nv 300 lv2] : Array Value) 27)]) (O := O45) MM46 hr53.1 hr53.2 hN47
  have MM55 : MemS (fun k => k < w0.heap.size ∧ ∀ x ∈ O, x.1 ≠ k) w0 wd52 ((be, .cells (#[nv 0 lv32] : Array Value) 27) :: (bd, .cells (#[nv 295 lv21] : Array Value) 27) :: (bb, .cells (#[nv 5 lv10] : Array Value) 27) :: (ba, .cells (#[nv 300 lv2] : Array Value) 27) :: O54) [] := MM550
  have hT_58 := hT_49.mono hs57
  have hz59 : ∀ x ∈ O, x ∈ O54 := fun x hx => hs57 x (hz50 x hx)
  refine rg_part 6 FF52 MM55 [o_, o_, o_, o_, b_ 0, o_] [6, 4, 3, 2, 1, 0, 7, 8] (fun Kt => ∀ bp, bp = bp ∧ (#[.slice none 0 0] : Array Value).size = 1 ∧ (#[nv (10 ^ 20) lv51] : Array Value).size = 1 ∧ (#[nv (10 ^ 20) lv51] : Array Value).all (·.oneCell') = true ∧ (0, 0).2 = 0 ∧ Kt [(8, .int .i64 (0 : Nat)), (7, .pointer (some ⟨bp, 0, none⟩)), (6, .bool false), (4, .bool true), (3, .pointer (some ⟨bd, 0, none⟩)), (2, .pointer (some ⟨bb, 0, none⟩)), (1, .pointer (some ⟨ba, 0, none⟩)), (0, .bool false)] ((bp, .cells (#[nv (10 ^ 20) lv51] : Array Value) 27) :: (be, .cells (#[nv 0 lv32] : Array Value) 27) :: (bd, .cells (#[nv 295 lv21] : Array Value) 27) :: (bb, .cells (#[nv 5 lv10] : Array Value) 27) :: (ba, .cells (#[nv 300 lv2] : Array Value) 27) :: O54)) (by kernel_rfl) (fun _ => by kernel_rfl) (fun bp => ⟨rfl, rfl, rfl, (by kernel_rfl), rfl, fun ac60 wd60 FF60 MM60 => ?_⟩)
  refine wpl_nil (then_n ?_)
  refine wp_seq (rg_seq FF60 MM60 [b_ 2, u_ 1 (.tuple #[.int .u64 (lowN 295 : Nat), .bool (decide (295 < 18446744073709551616))]), o_, o_, o_, o_, o_] [8, 7, 6, 4, 3, 2, 1, 0, 9, 10] (fun Kt => bd = bd ∧ (#[nv 295 lv21] : Array Value).size = 1 ∧ CallP Tryd.prog 11 [.agg (#[nv 295 lv21] : Array Value)] ((bp, .cells (#[nv (10 ^ 20) lv51] : Array Value) 27) :: (be, .cells (#[nv 0 lv32] : Array Value) 27) :: (bd, .cells (#[nv 295 lv21] : Array Value) 27) :: (bb, .cells (#[nv 5 lv10] : Array Value) 27) :: (ba, .cells (#[nv 300 lv2] : Array Value) 27) :: O54) (.tuple #[.int .u64 (lowN 295 : Nat), .bool (decide (295 < 18446744073709551616))]) ∧ Kt [(10, .bool (decide (295 < 18446744073709551616))), (9, .int .u64 (lowN 295 : Nat)), (8, .int .i64 (0 : Nat)), (7, .pointer (some ⟨bp, 0, none⟩)), (6, .bool false), (4, .bool true), (3, .pointer (some ⟨bd, 0, none⟩)), (2, .pointer (some ⟨bb, 0, none⟩)), (1, .pointer (some ⟨ba, 0, none⟩)), (0, .bool false)] ((bp, .cells (#[nv (10 ^ 20) lv51] : Array Value) 27) :: (be, .cells (#[nv 0 lv32] : Array Value) 27) :: (bd, .cells (#[nv 295 lv21] : Array Value) 27) :: (bb, .cells (#[nv 5 lv10] : Array Value) 27) :: (ba, .cells (#[nv 300 lv2] : Array Value) 27) :: O54)) (by kernel_rfl) (fun _ => by kernel_rfl) (⟨rfl, rfl, ⟨en_nlow, fun w Hw => nlow_any 295 lv21 w ((hN56.get 3 rfl).at (Has.tl (Has.tl (Has.tl (Has.tl (Has.tl Hw))))))⟩, fun ac61 wd61 FF61 MM61 => then_n ?_⟩))
  refine wp_seq (wp_region_list ?_)
  refine rg_part 3 FF61 MM61 [b_ 4, b_ 3, o_] [10, 9, 8, 7, 6, 4, 3, 2, 1, 0, 37] (fun Kt => ba = ba ∧ (#[nv 300 lv2] : Array Value).size = 1 ∧ bb = bb ∧ (#[nv 5 lv10] : Array Value).size = 1 ∧ ∀ s1, Kt [(37, .slice (some ⟨s1, 0, none⟩) 2 2), (10, .bool (decide (295 < 18446744073709551616))), (9, .int .u64 (lowN 295 : Nat)), (8, .int .i64 (0 : Nat)), (7, .pointer (some ⟨bp, 0, none⟩)), (6, .bool false), (4, .bool true), (3, .pointer (some ⟨bd, 0, none⟩)), (2, .pointer (some ⟨bb, 0, none⟩)), (1, .pointer (some ⟨ba, 0, none⟩)), (0, .bool false)] ((s1, .cells (#[nv 300 lv2, nv 5 lv10] : Array Value) 27) :: (bp, .cells (#[nv (10 ^ 20) lv51] : Array Value) 27) :: (be, .cells (#[nv 0 lv32] : Array Value) 27) :: (bd, .cells (#[nv 295 lv21] : Array Value) 27) :: (bb, .cells (#[nv 5 lv10] : Array Value) 27) :: (ba, .cells (#[nv 300 lv2] : Array Value) 27) :: O54)) (by kernel_rfl) (fun _ => by kernel_rfl) (⟨rfl, rfl, rfl, rfl, fun s1 => fun ac62 wd62 FF62 MM62 => ?_⟩)
  refine st_callE [10, 9, 8, 7, 6, 4, 3, 2, 1, 0, 38] FF62 (d := 38) (mk := fun v => .agg #[nv (300 + 5) v]) en_nadd rfl rfl (nadd2 300 5 lv2 lv10 (by decide +kernel) _ (MM62.get 0 rfl) ((hN56.get 5 rfl).at (Has.tl (Has.tl (Has.tl (Has.tl (Has.tl (Has.tl MM62.hasL))))))) ((hN56.get 4 rfl).at (Has.tl (Has.tl (Has.tl (Has.tl (Has.tl (Has.tl MM62.hasL)))))))) rfl (by kernel_rfl) (by decide) fun ac64 wd64 lv63 (FF64 : Fr 93 ac64 [(38, .agg (#[nv (300 + 5) lv63] : Array Value)), (10, .bool (decide (295 < 18446744073709551616))), (9, .int .u64 (lowN 295 : Nat)), (8, .int .i64 (0 : Nat)), (7, .pointer (some ⟨bp, 0, none⟩)), (6, .bool false), (4, .bool true), (3, .pointer (some ⟨bd, 0, none⟩)), (2, .pointer (some ⟨bb, 0, none⟩)), (1, .pointer (some ⟨ba, 0, none⟩)), (0, .bool false)]) hr65 => ?_
  obtain ⟨O66, MM670, hN68, hs69⟩ := MemS.addNats (K := [(s1, .cells (#[nv 300 lv2, nv 5 lv10] : Array Value) 27), (bp, .cells (#[nv (10 ^ 20) lv51] : Array Value) 27), (be, .cells (#[nv 0 lv32] : Array Value) 27), (bd, .cells (#[nv 295 lv21] : Array Value) 27), (bb, .cells (#[nv 5 lv10] : Array Value) 27), (ba, .cells (#[nv 300 lv2] : Array Value) 27)]) (O := O54) MM62 hr65.1 hr65.2 hN56
  have MM67 : MemS (fun k => k < w0.heap.size ∧ ∀ x ∈ O, x.1 ≠ k) w0 wd64 ((s1, .cells (#[nv 300 lv2, nv 5 lv10] : Array Value) 27) :: (bp, .cells (#[nv (10 ^ 20) lv51] : Array Value) 27) :: (be, .cells (#[nv 0 lv32] : Array Value) 27) :: (bd, .cells (#[nv 295 lv21] : Array Value) 27) :: (bb, .cells (#[nv 5 lv10] : Array Value) 27) :: (ba, .cells (#[nv 300 lv2] : Array Value) 27) :: O66) [] := MM670
  have hT_70 := hT_58.mono hs69
  have hz71 : ∀ x ∈ O, x ∈ O66 := fun x hx => hs69 x (hz59 x hx)
  refine rg_part 6 FF64 MM67 [u_ 1 (.string (bs (decN (300 + 5)))), w_ 2, o_, b_ 5, b_ 4, o_] [10, 9, 8, 7, 6, 4, 3, 2, 1, 0, 41, 44] (fun Kt => CallP Tryd.prog 13 [.agg (#[nv (300 + 5) lv63] : Array Value)] ((s1, .cells (#[nv 300 lv2, nv 5 lv10] : Array Value) 27) :: (bp, .cells (#[nv (10 ^ 20) lv51] : Array Value) 27) :: (be, .cells (#[nv 0 lv32] : Array Value) 27) :: (bd, .cells (#[nv 295 lv21] : Array Value) 27) :: (bb, .cells (#[nv 5 lv10] : Array Value) 27) :: (ba, .cells (#[nv 300 lv2] : Array Value) 27) :: O66) (.string (bs (decN (300 + 5)))) ∧ bs (decN (300 + 5)) = bs ([51, 48, 53]) ∧ ba = ba ∧ (#[nv 300 lv2] : Array Value).size = 1 ∧ bb = bb ∧ (#[nv 5 lv10] : Array Value).size = 1 ∧ ∀ s2, Kt [(44, .slice (some ⟨s2, 0, none⟩) 2 2), (41, .bool true), (10, .bool (decide (295 < 18446744073709551616))), (9, .int .u64 (lowN 295 : Nat)), (8, .int .i64 (0 : Nat)), (7, .pointer (some ⟨bp, 0, none⟩)), (6, .bool false), (4, .bool true), (3, .pointer (some ⟨bd, 0, none⟩)), (2, .pointer (some ⟨bb, 0, none⟩)), (1, .pointer (some ⟨ba, 0, none⟩)), (0, .bool false)] ((s2, .cells (#[nv 300 lv2, nv 5 lv10] : Array Value) 27) :: (s1, .cells (#[nv 300 lv2, nv 5 lv10] : Array Value) 27) :: (bp, .cells (#[nv (10 ^ 20) lv51] : Array Value) 27) :: (be, .cells (#[nv 0 lv32] : Array Value) 27) :: (bd, .cells (#[nv 295 lv21] : Array Value) 27) :: (bb, .cells (#[nv 5 lv10] : Array Value) 27) :: (ba, .cells (#[nv 300 lv2] : Array Value) 27) :: O66)) (by kernel_rfl) (fun _ => by kernel_rfl) (⟨⟨en_ntext, fun w Hw => ntext_any (300 + 5) lv63 (qok (by decide +kernel)) w (hT_70.at (Has.tl (Has.tl (Has.tl (Has.tl (Has.tl (Has.tl Hw))))))) ((hN68.get 0 rfl).at (Has.tl (Has.tl (Has.tl (Has.tl (Has.tl (Has.tl Hw)))))))⟩, (congrArg bs ((decN_of (N := 300 + 5) (n := 3) (by decide +kernel) (by decide) (by decide +kernel)).trans (by decide +kernel))), rfl, rfl, rfl, rfl, fun s2 => fun ac72 wd72 FF72 MM72 => ?_⟩)
  refine st_callE [41, 10, 9, 8, 7, 6, 4, 3, 2, 1, 0, 45] FF72 (d := 45) (mk := fun v => .agg #[nv (300 * 5) v]) en_nmul rfl rfl (nmul2 300 5 lv2 lv10 (by decide +kernel) (by decide +kernel) _ (MM72.get 0 rfl) ((hN68.get 6 rfl).at (Has.tl (Has.tl (Has.tl (Has.tl (Has.tl (Has.tl (Has.tl MM72.hasL)))))))) ((hN68.get 5 rfl).at (Has.tl (Has.tl (Has.tl (Has.tl (Has.tl (Has.tl (Has.tl MM72.hasL))))))))) rfl (by kernel_rfl) (by decide) fun ac74 wd74 lv73 (FF74 : Fr 93 ac74 [(45, .agg (#[nv (300 * 5) lv73] : Array Value)), (41, .bool true), (10, .bool (decide (295 < 18446744073709551616))), (9, .int .u64 (lowN 295 : Nat)), (8, .int .i64 (0 : Nat)), (7, .pointer (some ⟨bp, 0, none⟩)), (6, .bool false), (4, .bool true), (3, .pointer (some ⟨bd, 0, none⟩)), (2, .pointer (some ⟨bb, 0, none⟩)), (1, .pointer (some ⟨ba, 0, none⟩)), (0, .bool false)]) hr75 => ?_
  obtain ⟨O76, MM770, hN78, hs79⟩ := MemS.addNats (K := [(s2, .cells (#[nv 300 lv2, nv 5 lv10] : Array Value) 27), (s1, .cells (#[nv 300 lv2, nv 5 lv10] : Array Value) 27), (bp, .cells (#[nv (10 ^ 20) lv51] : Array Value) 27), (be, .cells (#[nv 0 lv32] : Array Value) 27), (bd, .cells (#[nv 295 lv21] : Array Value) 27), (bb, .cells (#[nv 5 lv10] : Array Value) 27), (ba, .cells (#[nv 300 lv2] : Array Value) 27)]) (O := O66) MM72 hr75.1 hr75.2 hN68
  have MM77 : MemS (fun k => k < w0.heap.size ∧ ∀ x ∈ O, x.1 ≠ k) w0 wd74 ((s2, .cells (#[nv 300 lv2, nv 5 lv10] : Array Value) 27) :: (s1, .cells (#[nv 300 lv2, nv 5 lv10] : Array Value) 27) :: (bp, .cells (#[nv (10 ^ 20) lv51] : Array Value) 27) :: (be, .cells (#[nv 0 lv32] : Array Value) 27) :: (bd, .cells (#[nv 295 lv21] : Array Value) 27) :: (bb, .cells (#[nv 5 lv10] : Array Value) 27) :: (ba, .cells (#[nv 300 lv2] : Array Value) 27) :: O76) [] := MM770
  have hT_80 := hT_70.mono hs79
  have hz81 : ∀ x ∈ O, x ∈ O76 := fun x hx => hs79 x (hz71 x hx)
  refine rg_part 38 FF74 MM77 [u_ 1 (.string (bs (decN (300 * 5)))), w_ 2, o_, o_, o_, o_, o_, o_, o_, o_, o_, o_, w_ 2, o_, o_, o_, t_ (.bool true), o_, o_, w_ 2, o_, o_, b_ 2, u_ 1 (.string (bs (decN (10 ^ 20)))), w_ 2, o_, o_, b_ 2, u_ 1 (.int .i64 (bsz (10 ^ 20) : Nat)), w_ 2, o_, o_, b_ 6, b_ 5, u_ 1 (.int .i64 (cmpN 300 5 : Int)), u_ 4 (.bool true), o_, o_] [7, 3, 2, 1, 0, 83] (fun Kt => CallP Tryd.prog 13 [.agg (#[nv (300 * 5) lv73] : Array Value)] ((s2, .cells (#[nv 300 lv2, nv 5 lv10] : Array Value) 27) :: (s1, .cells (#[nv 300 lv2, nv 5 lv10] : Array Value) 27) :: (bp, .cells (#[nv (10 ^ 20) lv51] : Array Value) 27) :: (be, .cells (#[nv 0 lv32] : Array Value) 27) :: (bd, .cells (#[nv 295 lv21] : Array Value) 27) :: (bb, .cells (#[nv 5 lv10] : Array Value) 27) :: (ba, .cells (#[nv 300 lv2] : Array Value) 27) :: O76) (.string (bs (decN (300 * 5)))) ∧ bs (decN (300 * 5)) = bs ([49, 53, 48, 48]) ∧ (lowN 295) = 295 ∧ Value.bool (decide (295 < 18446744073709551616)) = .bool true ∧ 0 = 0 ∧ bp = bp ∧ (#[nv (10 ^ 20) lv51] : Array Value).size = 1 ∧ CallP Tryd.prog 13 [.agg (#[nv (10 ^ 20) lv51] : Array Value)] ((s2, .cells (#[nv 300 lv2, nv 5 lv10] : Array Value) 27) :: (s1, .cells (#[nv 300 lv2, nv 5 lv10] : Array Value) 27) :: (bp, .cells (#[nv (10 ^ 20) lv51] : Array Value) 27) :: (be, .cells (#[nv 0 lv32] : Array Value) 27) :: (bd, .cells (#[nv 295 lv21] : Array Value) 27) :: (bb, .cells (#[nv 5 lv10] : Array Value) 27) :: (ba, .cells (#[nv 300 lv2] : Array Value) 27) :: O76) (.string (bs (decN (10 ^ 20)))) ∧ bs (decN (10 ^ 20)) = bs ([49, 48, 48, 48, 48, 48, 48, 48, 48, 48, 48, 48, 48, 48, 48, 48, 48, 48, 48, 48, 48]) ∧ bp = bp ∧ (#[nv (10 ^ 20) lv51] : Array Value).size = 1 ∧ CallP Tryd.prog 15 [.agg (#[nv (10 ^ 20) lv51] : Array Value)] ((s2, .cells (#[nv 300 lv2, nv 5 lv10] : Array Value) 27) :: (s1, .cells (#[nv 300 lv2, nv 5 lv10] : Array Value) 27) :: (bp, .cells (#[nv (10 ^ 20) lv51] : Array Value) 27) :: (be, .cells (#[nv 0 lv32] : Array Value) 27) :: (bd, .cells (#[nv 295 lv21] : Array Value) 27) :: (bb, .cells (#[nv 5 lv10] : Array Value) 27) :: (ba, .cells (#[nv 300 lv2] : Array Value) 27) :: O76) (.int .i64 (bsz (10 ^ 20) : Nat)) ∧ (bsz (10 ^ 20)) = 67 ∧ ba = ba ∧ (#[nv 300 lv2] : Array Value).size = 1 ∧ bb = bb ∧ (#[nv 5 lv10] : Array Value).size = 1 ∧ CallP Tryd.prog 17 [.agg (#[nv 300 lv2] : Array Value), .agg (#[nv 5 lv10] : Array Value)] ((s2, .cells (#[nv 300 lv2, nv 5 lv10] : Array Value) 27) :: (s1, .cells (#[nv 300 lv2, nv 5 lv10] : Array Value) 27) :: (bp, .cells (#[nv (10 ^ 20) lv51] : Array Value) 27) :: (be, .cells (#[nv 0 lv32] : Array Value) 27) :: (bd, .cells (#[nv 295 lv21] : Array Value) 27) :: (bb, .cells (#[nv 5 lv10] : Array Value) 27) :: (ba, .cells (#[nv 300 lv2] : Array Value) 27) :: O76) (.int .i64 (cmpN 300 5 : Int)) ∧ Value.bool (decide ((cmpN 300 5) = ((1 : Nat) : Int))) = .bool true ∧ Kt [(83, .bool true), (7, .pointer (some ⟨bp, 0, none⟩)), (3, .pointer (some ⟨bd, 0, none⟩)), (2, .pointer (some ⟨bb, 0, none⟩)), (1, .pointer (some ⟨ba, 0, none⟩)), (0, .bool false)] ((s2, .cells (#[nv 300 lv2, nv 5 lv10] : Array Value) 27) :: (s1, .cells (#[nv 300 lv2, nv 5 lv10] : Array Value) 27) :: (bp, .cells (#[nv (10 ^ 20) lv51] : Array Value) 27) :: (be, .cells (#[nv 0 lv32] : Array Value) 27) :: (bd, .cells (#[nv 295 lv21] : Array Value) 27) :: (bb, .cells (#[nv 5 lv10] : Array Value) 27) :: (ba, .cells (#[nv 300 lv2] : Array Value) 27) :: O76)) (by kernel_rfl) (fun _ => by kernel_rfl) (⟨⟨en_ntext, fun w Hw => ntext_any (300 * 5) lv73 (qok (by decide +kernel)) w (hT_80.at (Has.tl (Has.tl (Has.tl (Has.tl (Has.tl (Has.tl (Has.tl Hw)))))))) ((hN78.get 0 rfl).at (Has.tl (Has.tl (Has.tl (Has.tl (Has.tl (Has.tl (Has.tl Hw))))))))⟩, (congrArg bs ((decN_of (N := 300 * 5) (n := 4) (by decide +kernel) (by decide) (by decide +kernel)).trans (by decide +kernel))), (by decide), (dec_t (by decide)), (by decide), rfl, rfl, ⟨en_ntext, fun w Hw => ntext_any (10 ^ 20) lv51 (qok (by decide +kernel)) w (hT_80.at (Has.tl (Has.tl (Has.tl (Has.tl (Has.tl (Has.tl (Has.tl Hw)))))))) ((hN78.get 2 rfl).at (Has.tl (Has.tl (Has.tl (Has.tl (Has.tl (Has.tl (Has.tl Hw))))))))⟩, (congrArg bs ((decN_of (N := 10 ^ 20) (n := 21) (by decide +kernel) (by decide) (by decide +kernel)).trans (by decide +kernel))), rfl, rfl, ⟨en_nbits, fun w Hw => nbits_any (10 ^ 20) lv51 (qok (by decide +kernel)) w ((hN78.get 2 rfl).at (Has.tl (Has.tl (Has.tl (Has.tl (Has.tl (Has.tl (Has.tl Hw))))))))⟩, (bsz_is (by decide +kernel) (by decide +kernel)), rfl, rfl, rfl, rfl, ⟨en_ncmp, fun w Hw => ncmp_any 300 lv2 (qok (by decide +kernel)) 5 lv10 w ((hN78.get 7 rfl).at (Has.tl (Has.tl (Has.tl (Has.tl (Has.tl (Has.tl (Has.tl Hw)))))))) ((hN78.get 6 rfl).at (Has.tl (Has.tl (Has.tl (Has.tl (Has.tl (Has.tl (Has.tl Hw))))))))⟩, (dec_t (by decide)), fun ac82 wd82 FF82 MM82 => ?_⟩)
  refine st_callE [83, 7, 3, 2, 1, 0, 84] FF82 (d := 84) (mk := fun v => .agg #[nv (1) v]) en_nmul rfl rfl (nmul0 _) rfl (by kernel_rfl) (by decide) fun ac84 wd84 lv83 (FF84 : Fr 93 ac84 [(84, .agg (#[nv 1 lv83] : Array Value)), (83, .bool true), (7, .pointer (some ⟨bp, 0, none⟩)), (3, .pointer (some ⟨bd, 0, none⟩)), (2, .pointer (some ⟨bb, 0, none⟩)), (1, .pointer (some ⟨ba, 0, none⟩)), (0, .bool false)]) hr85 => ?_
  obtain ⟨O86, MM870, hN88, hs89⟩ := MemS.addNats (K := [(s2, .cells (#[nv 300 lv2, nv 5 lv10] : Array Value) 27), (s1, .cells (#[nv 300 lv2, nv 5 lv10] : Array Value) 27), (bp, .cells (#[nv (10 ^ 20) lv51] : Array Value) 27), (be, .cells (#[nv 0 lv32] : Array Value) 27), (bd, .cells (#[nv 295 lv21] : Array Value) 27), (bb, .cells (#[nv 5 lv10] : Array Value) 27), (ba, .cells (#[nv 300 lv2] : Array Value) 27)]) (O := O76) MM82 hr85.1 hr85.2 hN78
  have MM87 : MemS (fun k => k < w0.heap.size ∧ ∀ x ∈ O, x.1 ≠ k) w0 wd84 ((s2, .cells (#[nv 300 lv2, nv 5 lv10] : Array Value) 27) :: (s1, .cells (#[nv 300 lv2, nv 5 lv10] : Array Value) 27) :: (bp, .cells (#[nv (10 ^ 20) lv51] : Array Value) 27) :: (be, .cells (#[nv 0 lv32] : Array Value) 27) :: (bd, .cells (#[nv 295 lv21] : Array Value) 27) :: (bb, .cells (#[nv 5 lv10] : Array Value) 27) :: (ba, .cells (#[nv 300 lv2] : Array Value) 27) :: O86) [] := MM870
  have hT_90 := hT_80.mono hs89
  have hz91 : ∀ x ∈ O, x ∈ O86 := fun x hx => hs89 x (hz81 x hx)
  refine rg_part 9 FF84 MM87 [u_ 1 (.string (bs (decN 1))), w_ 2, o_, o_, o_, u_ 1 (.string (bs [48])), o_, o_, o_] [7, 3, 2, 1, 0] (fun Kt => CallP Tryd.prog 13 [.agg (#[nv 1 lv83] : Array Value)] ((s2, .cells (#[nv 300 lv2, nv 5 lv10] : Array Value) 27) :: (s1, .cells (#[nv 300 lv2, nv 5 lv10] : Array Value) 27) :: (bp, .cells (#[nv (10 ^ 20) lv51] : Array Value) 27) :: (be, .cells (#[nv 0 lv32] : Array Value) 27) :: (bd, .cells (#[nv 295 lv21] : Array Value) 27) :: (bb, .cells (#[nv 5 lv10] : Array Value) 27) :: (ba, .cells (#[nv 300 lv2] : Array Value) 27) :: O86) (.string (bs (decN 1))) ∧ bs (decN 1) = bs [49] ∧ CallP Tryd.prog 13 [.agg (#[.slice none 0 0] : Array Value)] ((s2, .cells (#[nv 300 lv2, nv 5 lv10] : Array Value) 27) :: (s1, .cells (#[nv 300 lv2, nv 5 lv10] : Array Value) 27) :: (bp, .cells (#[nv (10 ^ 20) lv51] : Array Value) 27) :: (be, .cells (#[nv 0 lv32] : Array Value) 27) :: (bd, .cells (#[nv 295 lv21] : Array Value) 27) :: (bb, .cells (#[nv 5 lv10] : Array Value) 27) :: (ba, .cells (#[nv 300 lv2] : Array Value) 27) :: O86) (.string (bs [48])) ∧ Kt [(0, .bool (decide (bs [48] = bs [48]))), (7, .pointer (some ⟨bp, 0, none⟩)), (3, .pointer (some ⟨bd, 0, none⟩)), (2, .pointer (some ⟨bb, 0, none⟩)), (1, .pointer (some ⟨ba, 0, none⟩))] ((s2, .cells (#[nv 300 lv2, nv 5 lv10] : Array Value) 27) :: (s1, .cells (#[nv 300 lv2, nv 5 lv10] : Array Value) 27) :: (bp, .cells (#[nv (10 ^ 20) lv51] : Array Value) 27) :: (be, .cells (#[nv 0 lv32] : Array Value) 27) :: (bd, .cells (#[nv 295 lv21] : Array Value) 27) :: (bb, .cells (#[nv 5 lv10] : Array Value) 27) :: (ba, .cells (#[nv 300 lv2] : Array Value) 27) :: O86)) (by kernel_rfl) (fun _ => by kernel_rfl) (⟨⟨en_ntext, fun w Hw => ntext_any 1 lv83 (qok (by decide +kernel)) w (hT_90.at (Has.tl (Has.tl (Has.tl (Has.tl (Has.tl (Has.tl (Has.tl Hw)))))))) ((hN88.get 0 rfl).at (Has.tl (Has.tl (Has.tl (Has.tl (Has.tl (Has.tl (Has.tl Hw))))))))⟩, (congrArg bs ((decN_of (N := 1) (n := 1) (by decide +kernel) (by decide) (by decide +kernel)).trans (by decide +kernel))), ⟨en_ntext, fun w Hw => ntext_nil w (hT_90.at (Has.tl (Has.tl (Has.tl (Has.tl (Has.tl (Has.tl (Has.tl Hw))))))))⟩, fun ac92 wd92 FF92 MM92 => ?_⟩)
  refine wpl_nil (then_n ?_)
  refine wp_ret ?_
  repeat first | refine then_ret ?_ | refine inb_ret ?_
  exact (ret_fr FF92 0 Tryd.results8 rfl ⟨rfl, MM92.belowN H (fun _ hx => List.mem_cons_of_mem _ (List.mem_cons_of_mem _ (List.mem_cons_of_mem _ (List.mem_cons_of_mem _ (List.mem_cons_of_mem _ (List.mem_cons_of_mem _ (List.mem_cons_of_mem _ (hz91 _ hx))))))))⟩)

end Go.Proofs.YtcannnmpemnklaaDoor
namespace Go.Proofs.YtcannnmpemnklaaDoor
open Go.RowKit

theorem en_wakes : Enters Tryd.prog 8 := fun args w => by simp [go_sem]
theorem wakes_w (w : World) (hT : TabIn w) : Calls Tryd.prog 8 #[] w fun e w' => e = .returned (.bool true) ∧ Below w.heap.size w w' := by
  obtain ⟨O, g1, g2, g3⟩ := tab_O hT
  exact wakes_any O (distinct_of g2) g3 w g1
theorem leV_60 {X : List Nat} (hX : ∀ i, X.getD i 0 < 256) (h : X.length ≤ 60) : leV X < 256 ^ 60 := Nat.lt_of_lt_of_le (leV_lt X hX) (Nat.pow_le_pow_right (by decide) h)
theorem big60 {N : Nat} (h : N < 256 ^ 60) : N < 18446744073709551616 ^ 100 := Nat.lt_of_lt_of_le h (by decide +kernel)
theorem bsz_60 {N : Nat} (h : N < 256 ^ 60) : bsz N ≤ 480 := bsz_le (Nat.lt_of_lt_of_le h (by decide +kernel))
theorem leV_pad (X : List Nat) (k : Nat) : leV (X ++ List.replicate k 0) = leV X := by rw [leV_app, leV_zeros, Nat.mul_zero, Nat.add_zero]
theorem cmp_self (N : Nat) : cmpN N N = ((0 : Nat) : Int) := (cmp0 rfl).symm
theorem cmp_ge0 {M N : Nat} (h : N ≤ M) : cmpN M N ≥ ((0 : Nat) : Int) := by
  have := mt (cmp_neg M N).1 (Nat.not_lt.2 h)
  omega
theorem cmp_lt0 {M N : Nat} (h : M < N) : ¬ cmpN M N ≥ ((0 : Nat) : Int) := by
  have := (cmp_neg M N).2 h
  omega
theorem pow2ok {n : Nat} (h : n ≤ 480) : PowOk 2 n := .inr (by rw [bsz_is (N := 2) (n := 2) (by decide) (by decide)]; omega)
theorem pow2big {n : Nat} (h : n ≤ 480) : 2 ^ n < 18446744073709551616 ^ 100 := Nat.lt_of_le_of_lt (Nat.pow_le_pow_right (by decide) h) (by decide +kernel)
theorem low_same {n : Nat} (h : n < 18446744073709551616) : lowN n = n := if_pos h
theorem app_lt8 {X Y : List Nat} (hX : ∀ i, X.getD i 0 < 256) (hY : ∀ i, Y.getD i 0 < 256) (i : Nat) : (X ++ Y).getD i 0 < 256 := by
  rw [List.getD_eq_getElem?_getD]
  rcases Nat.lt_or_ge i X.length with h | h
  · rw [List.getElem?_append_left h, ← List.getD_eq_getElem?_getD]; exact hX i
  · rw [List.getElem?_append_right h, ← List.getD_eq_getElem?_getD]; exact hY _
/-- A block of noughts. -/
def ZIn (w : World) (p : Option Addr) (k : Nat) (T : TypeId) : Prop := ∃ b, p = some ⟨b, 0, none⟩ ∧ w.heap[b]? = some (.cells (cn .u8 (List.replicate k 0)) T)
theorem zin_st (k : Nat) (T : TypeId) : ∀ (v : Value) (w w' : World), ZIn w (pOf v) k T → Below w.heap.size w w' → ZIn w' (pOf v) k T := fun _ _ _ ⟨b, h1, h2⟩ hb => ⟨b, h1, (hb.block b (lt_of_block h2)).trans h2⟩
theorem zin_run {P : Program} {l : Slots} {o : Oper} {w : World} {p : Option Addr} {k c : Nat} {T e src dst : TypeId} {x : Operand} (hz : ZIn w p k T) (ho : o.op = .convert src dst x) (hx : evO l x = some (.slice p k c)) (h1 : P.underlying src = some (.slice e)) (h2 : P.underlying e = some (.int .u8)) (h3 : P.underlying dst = some .string) :
    RunW P l o (.string (bs (List.replicate k 0))) w := fun ρ A => by
  obtain ⟨b, rfl, hb⟩ := hz
  have hv := A x _ hx
  have h := run_convert_bytes_arg (P := P) w src e h1 h2 b 0 k c ((List.replicate k 0).map fun (x : Nat) => (x : Int)) (by simp) (fun i hi => by
    rw [Nat.zero_add, cell_of hb]
    simp [cn, hi]) dst h3
  have e2 : strOfNums ((List.replicate k 0).map fun (x : Nat) => (x : Int)) = bs (List.replicate k 0) := by simp [strOfNums, bs]
  rw [e2] at h
  simp only [execOp, ho, hv, Sem.run_bind, h, Result.andThen_ok, Sem.run_pure]
set_option maxRecDepth 100000 in
theorem natbits_any (O : Blks) (hD : Distinct O) (hT : TabO O) (X : List Nat) (hX : ∀ i, X.getD i 0 < 256) (hl : X.length < 9223372036854775808) (k n : Nat) (hk : k < 256) (hn : n < 18446744073709551616) (w0 : World) (H : Has w0 O) :
    Calls Tryd.prog 7 #[.string (bs X), .int .u8 (k : Nat), .int .u64 (n : Nat)] w0 fun e w' => e = .returned (.bool true) ∧ Below w0.heap.size w0 w' := by
  refine enter_fr Tryd.func7 rfl Tryd.ntmps7 (by simp) fun ac (FF : Fr 89 ac [(0, .string (bs X)), (1, .int .u8 (k : Nat)), (2, .int .u64 (n : Nat))]) => ?_
  have MM : MemS (fun k => k < w0.heap.size ∧ ∀ x ∈ O, x.1 ≠ k) w0 w0 O [] := MemS.startN H hD
  refine wp_seq (rg_seq FF MM [o_] [0, 1, 2, 6] (fun Kt => Kt [(6, .bool false), (0, .string (bs X)), (1, .int .u8 (k : Nat)), (2, .int .u64 (n : Nat))] O) (by kernel_rfl) (fun _ => by kernel_rfl) (fun ac1 wd1 FF1 MM1 => then_n ?_))
  refine wp_seq ?_
  refine wp_seq (rg_seq FF1 MM1 [o_, t_ (.int .i64 (X.length : Nat)), o_] [6, 0, 1, 2, 17] (fun Kt => Value.int .i64 ((bs X).size : Nat) = .int .i64 (X.length : Nat) ∧ Kt [(17, .bool (decide (X.length > 60))), (6, .bool false), (0, .string (bs X)), (1, .int .u8 (k : Nat)), (2, .int .u64 (n : Nat))] O) (by kernel_rfl) (fun _ => by kernel_rfl) (⟨(vI (bs_size _)), fun ac2 wd2 FF2 MM2 => then_n ?_⟩))
  by_cases hs17 : X.length > 60
  · refine wp_cond_true ((FF2.ev 0 rfl).trans (dec_t hs17)) ?_
    refine wp_seq (rg_seq FF2 MM2 [u_ 1 (.bool true), o_] [6, 0, 1, 2] (fun Kt => CallP Tryd.prog 8 [] O (.bool true) ∧ Kt [(6, .bool true), (0, .string (bs X)), (1, .int .u8 (k : Nat)), (2, .int .u64 (n : Nat))] O) (by kernel_rfl) (fun _ => by kernel_rfl) (⟨⟨en_wakes, fun w Hw => wakes_w w (hT.at Hw)⟩, fun ac3 wd3 FF3 MM3 => then_n ?_⟩))
    refine wp_ret ?_
    repeat first | refine then_ret ?_ | refine inb_ret ?_
    exact (ret_fr FF3 0 Tryd.results7 rfl ⟨rfl, MM3.belowN H (fun _ hx => hx)⟩)
  · refine wp_cond_false ((FF2.ev 0 rfl).trans (dec_f hs17)) ?_
    have hN := leV_60 hX (Nat.not_lt.1 hs17)
    have hB := big60 hN
    have hb := bsz_60 hN
    refine wp_skip ?_
    refine then_n ?_
    refine wp_seq (wp_region_list ?_)
    refine rg_part 1 FF2 MM2 [o_] [6, 0, 1, 2, 19] (fun Kt => Kt [(19, .string (bs X)), (6, .bool false), (0, .string (bs X)), (1, .int .u8 (k : Nat)), (2, .int .u64 (n : Nat))] O) (by kernel_rfl) (fun _ => by kernel_rfl) (fun ac4 wd4 FF4 MM4 => ?_)
    refine st_callE [6, 0, 1, 2, 20] FF4 (d := 20) (mk := fun v => .agg #[nv (leV X) v]) en_nbytes rfl rfl (nbytes_any X hX (by omega) _) rfl (by kernel_rfl) (by decide) fun ac6 wd6 lv5 (FF6 : Fr 89 ac6 [(20, .agg (#[nv (leV X) lv5] : Array Value)), (6, .bool false), (0, .string (bs X)), (1, .int .u8 (k : Nat)), (2, .int .u64 (n : Nat))]) hr7 => ?_
    obtain ⟨O8, MM90, hN10, hs11⟩ := MemS.addNats (K := []) (O := O) MM4 hr7.1 hr7.2 (Nats.nil O)
    have MM9 : MemS (fun k => k < w0.heap.size ∧ ∀ x ∈ O, x.1 ≠ k) w0 wd6 O8 [] := MM90
    have hT_12 := hT.mono hs11
    refine rg_part 2 FF6 MM9 [o_, b_ 0] [6, 0, 1, 2, 7] (fun Kt => ∀ ba, ba = ba ∧ (#[.slice none 0 0] : Array Value).size = 1 ∧ (#[nv (leV X) lv5] : Array Value).size = 1 ∧ (#[nv (leV X) lv5] : Array Value).all (·.oneCell') = true ∧ (0, 0).2 = 0 ∧ Kt [(7, .pointer (some ⟨ba, 0, none⟩)), (6, .bool false), (0, .string (bs X)), (1, .int .u8 (k : Nat)), (2, .int .u64 (n : Nat))] ((ba, .cells (#[nv (leV X) lv5] : Array Value) 27) :: O8)) (by kernel_rfl) (fun _ => by kernel_rfl) (fun ba => ⟨rfl, rfl, rfl, (by kernel_rfl), rfl, fun ac13 wd13 FF13 MM13 => ?_⟩)
    refine wpl_nil (then_n ?_)
    refine wp_seq (rg_seq FF13 MM13 [b_ 0, u_ 1 (.int .i64 (bsz (leV X) : Nat)), o_] [7, 6, 0, 1, 2, 8] (fun Kt => ba = ba ∧ (#[nv (leV X) lv5] : Array Value).size = 1 ∧ CallP Tryd.prog 15 [.agg (#[nv (leV X) lv5] : Array Value)] ((ba, .cells (#[nv (leV X) lv5] : Array Value) 27) :: O8) (.int .i64 (bsz (leV X) : Nat)) ∧ Kt [(8, .int .i64 (bsz (leV X) : Nat)), (7, .pointer (some ⟨ba, 0, none⟩)), (6, .bool false), (0, .string (bs X)), (1, .int .u8 (k : Nat)), (2, .int .u64 (n : Nat))] ((ba, .cells (#[nv (leV X) lv5] : Array Value) 27) :: O8)) (by kernel_rfl) (fun _ => by kernel_rfl) (⟨rfl, rfl, ⟨en_nbits, fun w Hw => nbits_any (leV X) lv5 (qok hB) w ((hN10.get 0 rfl).at (Has.tl Hw))⟩, fun ac14 wd14 FF14 MM14 => then_n ?_⟩))
    refine wp_seq (wp_region_list ?_)
    refine rg_part 1 FF14 MM14 [o_] [8, 7, 6, 0, 1, 2, 24] (fun Kt => Kt [(24, .int .u64 (n : Nat)), (8, .int .i64 (bsz (leV X) : Nat)), (7, .pointer (some ⟨ba, 0, none⟩)), (6, .bool false), (0, .string (bs X)), (1, .int .u8 (k : Nat)), (2, .int .u64 (n : Nat))] ((ba, .cells (#[nv (leV X) lv5] : Array Value) 27) :: O8)) (by kernel_rfl) (fun _ => by kernel_rfl) (fun ac15 wd15 FF15 MM15 => ?_)
    refine st_callE [8, 7, 6, 0, 1, 2, 25] FF15 (d := 25) (mk := fun v => .agg #[nv (n) v]) en_nof rfl rfl (nof_any n hn _) rfl (by kernel_rfl) (by decide) fun ac17 wd17 lv16 (FF17 : Fr 89 ac17 [(25, .agg (#[nv n lv16] : Array Value)), (8, .int .i64 (bsz (leV X) : Nat)), (7, .pointer (some ⟨ba, 0, none⟩)), (6, .bool false), (0, .string (bs X)), (1, .int .u8 (k : Nat)), (2, .int .u64 (n : Nat))]) hr18 => ?_
    obtain ⟨O19, MM200, hN21, hs22⟩ := MemS.addNats (K := [(ba, .cells (#[nv (leV X) lv5] : Array Value) 27)]) (O := O8) MM15 hr18.1 hr18.2 hN10
    have MM20 : MemS (fun k => k < w0.heap.size ∧ ∀ x ∈ O, x.1 ≠ k) w0 wd17 ((ba, .cells (#[nv (leV X) lv5] : Array Value) 27) :: O19) [] := MM200
    have hT_23 := hT_12.mono hs22
    have hz24 : ∀ x ∈ O, x ∈ O19 := fun x hx => hs22 x (hs11 x hx)
    refine rg_part 6 FF17 MM20 [u_ 1 (.tuple #[.int .u64 (lowN n : Nat), .bool (decide (n < 18446744073709551616))]), o_, t_ (.int .u64 (n : Nat)), t_ (.bool true), o_, o_] [8, 7, 6, 0, 1, 2, 9, 10] (fun Kt => CallP Tryd.prog 11 [.agg (#[nv n lv16] : Array Value)] ((ba, .cells (#[nv (leV X) lv5] : Array Value) 27) :: O19) (.tuple #[.int .u64 (lowN n : Nat), .bool (decide (n < 18446744073709551616))]) ∧ Value.int .u64 (lowN n : Nat) = .int .u64 (n : Nat) ∧ Value.bool (decide (n < 18446744073709551616)) = .bool true ∧ Kt [(10, .bool true), (9, .int .u64 (n : Nat)), (8, .int .i64 (bsz (leV X) : Nat)), (7, .pointer (some ⟨ba, 0, none⟩)), (6, .bool false), (0, .string (bs X)), (1, .int .u8 (k : Nat)), (2, .int .u64 (n : Nat))] ((ba, .cells (#[nv (leV X) lv5] : Array Value) 27) :: O19)) (by kernel_rfl) (fun _ => by kernel_rfl) (⟨⟨en_nlow, fun w Hw => nlow_any n lv16 w ((hN21.get 0 rfl).at (Has.tl Hw))⟩, (vI (low_same hn)), (dec_t hn), fun ac25 wd25 FF25 MM25 => ?_⟩)
    refine wpl_nil (then_n ?_)
    refine wp_seq (wp_region_list ?_)
    refine st_callE [10, 9, 8, 7, 6, 0, 1, 2, 30] FF25 (d := 30) (mk := fun v => .agg #[nv (2) v]) en_nof rfl rfl (nof_any 2 (by decide) _) rfl (by kernel_rfl) (by decide) fun ac27 wd27 lv26 (FF27 : Fr 89 ac27 [(30, .agg (#[nv 2 lv26] : Array Value)), (10, .bool true), (9, .int .u64 (n : Nat)), (8, .int .i64 (bsz (leV X) : Nat)), (7, .pointer (some ⟨ba, 0, none⟩)), (6, .bool false), (0, .string (bs X)), (1, .int .u8 (k : Nat)), (2, .int .u64 (n : Nat))]) hr28 => ?_
    obtain ⟨O29, MM300, hN31, hs32⟩ := MemS.addNats (K := [(ba, .cells (#[nv (leV X) lv5] : Array Value) 27)]) (O := O19) MM25 hr28.1 hr28.2 hN21
    have MM30 : MemS (fun k => k < w0.heap.size ∧ ∀ x ∈ O, x.1 ≠ k) w0 wd27 ((ba, .cells (#[nv (leV X) lv5] : Array Value) 27) :: O29) [] := MM300
    have hT_33 := hT_23.mono hs32
    have hz34 : ∀ x ∈ O, x ∈ O29 := fun x hx => hs32 x (hz24 x hx)
    refine rg_part 1 FF27 MM30 [o_] [30, 10, 9, 8, 7, 6, 0, 1, 2, 31] (fun Kt => Kt [(31, .int .i64 (bsz (leV X) : Nat)), (30, .agg (#[nv 2 lv26] : Array Value)), (10, .bool true), (9, .int .u64 (n : Nat)), (8, .int .i64 (bsz (leV X) : Nat)), (7, .pointer (some ⟨ba, 0, none⟩)), (6, .bool false), (0, .string (bs X)), (1, .int .u8 (k : Nat)), (2, .int .u64 (n : Nat))] ((ba, .cells (#[nv (leV X) lv5] : Array Value) 27) :: O29)) (by kernel_rfl) (fun _ => by kernel_rfl) (fun ac35 wd35 FF35 MM35 => ?_)
    refine st_callE [10, 9, 8, 7, 6, 0, 1, 2, 32] FF35 (d := 32) (mk := fun v => .tuple #[.agg #[nv (2 ^ (bsz (leV X))) v], .int .i64 (0 : Nat)]) en_npow rfl rfl (npow_ok 2 lv26 (qok4 (by decide +kernel)) (bsz (leV X)) (pow2ok hb) (by omega) _ ((hN31.get 0 rfl).at (Has.tl MM35.hasL))) rfl (by kernel_rfl) (by decide) fun ac37 wd37 lv36 (FF37 : Fr 89 ac37 [(32, .tuple #[.agg (#[nv (2 ^ (bsz (leV X))) lv36] : Array Value), .int .i64 (0 : Nat)]), (10, .bool true), (9, .int .u64 (n : Nat)), (8, .int .i64 (bsz (leV X) : Nat)), (7, .pointer (some ⟨ba, 0, none⟩)), (6, .bool false), (0, .string (bs X)), (1, .int .u8 (k : Nat)), (2, .int .u64 (n : Nat))]) hr38 => ?_
    obtain ⟨O39, MM400, hN41, hs42⟩ := MemS.addNats (K := [(ba, .cells (#[nv (leV X) lv5] : Array Value) 27)]) (O := O29) MM35 hr38.1 hr38.2 hN31
    have MM40 : MemS (fun k => k < w0.heap.size ∧ ∀ x ∈ O, x.1 ≠ k) w0 wd37 ((ba, .cells (#[nv (leV X) lv5] : Array Value) 27) :: O39) [] := MM400
    have hT_43 := hT_33.mono hs42
    have hz44 : ∀ x ∈ O, x ∈ O39 := fun x hx => hs42 x (hz34 x hx)
    refine rg_part 6 FF37 MM40 [o_, o_, o_, o_, b_ 0, o_] [10, 9, 8, 7, 6, 0, 1, 2, 11, 12] (fun Kt => ∀ bt, bt = bt ∧ (#[.slice none 0 0] : Array Value).size = 1 ∧ (#[nv (2 ^ (bsz (leV X))) lv36] : Array Value).size = 1 ∧ (#[nv (2 ^ (bsz (leV X))) lv36] : Array Value).all (·.oneCell') = true ∧ (0, 0).2 = 0 ∧ Kt [(12, .int .i64 (0 : Nat)), (11, .pointer (some ⟨bt, 0, none⟩)), (10, .bool true), (9, .int .u64 (n : Nat)), (8, .int .i64 (bsz (leV X) : Nat)), (7, .pointer (some ⟨ba, 0, none⟩)), (6, .bool false), (0, .string (bs X)), (1, .int .u8 (k : Nat)), (2, .int .u64 (n : Nat))] ((bt, .cells (#[nv (2 ^ (bsz (leV X))) lv36] : Array Value) 27) :: (ba, .cells (#[nv (leV X) lv5] : Array Value) 27) :: O39)) (by kernel_rfl) (fun _ => by kernel_rfl) (fun bt => ⟨rfl, rfl, rfl, (by kernel_rfl), rfl, fun ac45 wd45 FF45 MM45 => ?_⟩)
    refine wpl_nil (then_n ?_)
    refine wp_seq ?_
    refine wp_seq (rg_pred FF45 MM45 [.inl (.int .i64 (0 : Nat)), .inl (.bool false), .inl (.bool false), .inl (.agg (#[nv (leV X) lv5] : Array Value)), .inl (.agg (#[nv (2 ^ (bsz (leV X))) lv36] : Array Value)), .inl (.int .i64 (cmpN (leV X) (2 ^ (bsz (leV X))) : Int)), .inl (.bool false), .inl (.bool false), .inl (.bool false), .inl (.string (bs X)), .inl (.int .u8 (k : Nat)), (.inr (fun v => .slice (pOf v) k k, fun v w => ZIn w (pOf v) k 5) : Spec), .inl (.string (bs (List.replicate k 0))), .inl (.string (bs (X ++ (List.replicate k 0)))), (.inr (fun v => .agg #[nv (leV X) v], fun v w => NatNew wd45.heap.size w (nv (leV X) v) (leV X)) : Spec), .inl (.agg (#[nv (leV X) lv5] : Array Value)), (.inr (fun _ => .int .i64 ((0 : Nat) : Int), fun v w => True) : Spec), .inl (.bool false), .inl (.bool false), .inl (.bool false), .inl (.int .u64 (n : Nat)), .inl (.int .u64 (n : Nat)), .inl (.bool false), .inl (.bool false), .inl (.bool false), .inl (.bool true), .inl (.bool false), .inl (.bool false)] [some (o_), some (w_ 3), some (o_), some (b_ 1), some (b_ 0), some (u_ 1 (.int .i64 (cmpN (leV X) (2 ^ (bsz (leV X))) : Int))), some (u_ 4 (.bool false)), some (o_), some (o_), some (o_), some (o_), some (n_ (.slice none k k) (.cells (cn .u8 (List.replicate k 0)) 5)), none, some (t_ (.string (bs (X ++ (List.replicate k 0))))), none, some (b_ 1), none, some (w_ 3), some (o_), some (o_), some (o_), some (o_), some (w_ 3), some (o_), some (o_), some (o_), some (o_), some (o_)] [62, 11, 8, 7, 6, 0, 2] (fun lx wq => [(Value.int .i64 (0 : Nat) = .int .i64 (0 : Nat)), (¬ (0 ≠ 0) ∧ Value.bool false = .bool false), (Value.bool false = .bool false), (ba = ba ∧ (#[nv (leV X) lv5] : Array Value).size = 1 ∧ Value.agg (#[nv (leV X) lv5] : Array Value) = .agg (#[nv (leV X) lv5] : Array Value)), (bt = bt ∧ (#[nv (2 ^ (bsz (leV X))) lv36] : Array Value).size = 1 ∧ Value.agg (#[nv (2 ^ (bsz (leV X))) lv36] : Array Value) = .agg (#[nv (2 ^ (bsz (leV X))) lv36] : Array Value)), (CallP Tryd.prog 17 [.agg (#[nv (leV X) lv5] : Array Value), .agg (#[nv (2 ^ (bsz (leV X))) lv36] : Array Value)] ((bt, .cells (#[nv (2 ^ (bsz (leV X))) lv36] : Array Value) 27) :: (ba, .cells (#[nv (leV X) lv5] : Array Value) 27) :: O39) (.int .i64 (cmpN (leV X) (2 ^ (bsz (leV X))) : Int)) ∧ Value.int .i64 (cmpN (leV X) (2 ^ (bsz (leV X))) : Int) = .int .i64 (cmpN (leV X) (2 ^ (bsz (leV X))) : Int)), (Value.bool (decide ((cmpN (leV X) (2 ^ (bsz (leV X)))) ≥ ((0 : Nat) : Int))) = .bool false ∧ Value.bool false = .bool false), (Value.bool false = .bool false), (Value.bool false = .bool false), (Value.string (bs X) = .string (bs X)), (Value.int .u8 (k : Nat) = .int .u8 (k : Nat)), (RunN Tryd.prog [(45, .int .u8 (k : Nat)), (45, .int .u8 (k : Nat)), (43, .bool false), (12, .int .i64 (0 : Nat)), (11, .pointer (some ⟨bt, 0, none⟩)), (10, .bool true), (9, .int .u64 (n : Nat)), (8, .int .i64 (bsz (leV X) : Nat)), (7, .pointer (some ⟨ba, 0, none⟩)), (6, .bool false), (0, .string (bs X)), (1, .int .u8 (k : Nat)), (2, .int .u64 (n : Nat))] ((bt, .cells (#[nv (2 ^ (bsz (leV X))) lv36] : Array Value) 27) :: (ba, .cells (#[nv (leV X) lv5] : Array Value) 27) :: O39) (opAt Tryd.f7 7 11) (mkOf (.slice none k k)) (.cells (cn .u8 (List.replicate k 0)) 5) ∧ (∀ w', Below wq.heap.size wq w' → w'.heap[wq.heap.size]? = some (.cells (cn .u8 (List.replicate k 0)) 5) → ∃ y, Value.slice (some ⟨wq.heap.size, 0, none⟩) k k = (fun v => .slice (pOf v) k k) y ∧ ZIn w' (pOf y) k 5)), (ZIn wq (pOf (lx 11)) k 5 → RunW Tryd.prog [(46, .slice (pOf (lx 11)) k k), (43, .bool false), (12, .int .i64 (0 : Nat)), (11, .pointer (some ⟨bt, 0, none⟩)), (10, .bool true), (9, .int .u64 (n : Nat)), (8, .int .i64 (bsz (leV X) : Nat)), (7, .pointer (some ⟨ba, 0, none⟩)), (6, .bool false), (0, .string (bs X)), (1, .int .u8 (k : Nat)), (2, .int .u64 (n : Nat))] (opAt Tryd.f7 7 12) (.string (bs (List.replicate k 0))) wq), ((bs X).size + (bs (List.replicate k 0)).size ≤ 9223372036854775807 ∧ Value.string (bs X ++ bs (List.replicate k 0)) = .string (bs (X ++ (List.replicate k 0))) ∧ Value.string (bs (X ++ (List.replicate k 0))) = .string (bs (X ++ (List.replicate k 0)))), (CallQ Tryd.prog 9 [.string (bs (X ++ (List.replicate k 0)))] wq (.inr (fun v => .agg #[nv (leV X) v], fun v w => NatNew wd45.heap.size w (nv (leV X) v) (leV X)) : Spec)), (ba = ba ∧ (#[nv (leV X) lv5] : Array Value).size = 1 ∧ Value.agg (#[nv (leV X) lv5] : Array Value) = .agg (#[nv (leV X) lv5] : Array Value)), (NatNew wd45.heap.size wq (nv (leV X) (lx 14)) (leV X) → NatNew wd45.heap.size wq (nv (leV X) (lx 14)) (leV X) → CallQ Tryd.prog 17 [.agg (#[nv (leV X) (lx 14)] : Array Value), .agg (#[nv (leV X) lv5] : Array Value)] wq (.inr (fun _ => .int .i64 ((0 : Nat) : Int), fun v w => True) : Spec)), (True → ¬ (0 ≠ 0) ∧ Value.bool false = .bool false), (Value.bool false = .bool false), (True → Value.bool false = .bool false), (Value.int .u64 (n : Nat) = .int .u64 (n : Nat)), (Value.int .u64 (n : Nat) = .int .u64 (n : Nat)), (¬ (n ≠ n) ∧ Value.bool false = .bool false), (Value.bool false = .bool false), (Value.bool false = .bool false), (Value.bool true = .bool true), (Value.bool false = .bool false), (Value.bool false = .bool false)]) (fun lx => [(62, .bool false), (11, .pointer (some ⟨bt, 0, none⟩)), (8, .int .i64 (bsz (leV X) : Nat)), (7, .pointer (some ⟨ba, 0, none⟩)), (6, .bool false), (0, .string (bs X)), (2, .int .u64 (n : Nat))]) (by kernel_rfl) (by kernel_rfl) (by kernel_rfl) ⟨(zin_st k 5), (fun v w w1 => natNew_st _ _ (nv _ v) w w1), (fun _ _ _ _ _ => trivial), trivial⟩ (fun _ _ => by kernel_rfl) (fun _ => by kernel_rfl) (fun lx wq hB9 hH9 => ⟨(rfl), (⟨(by decide), rfl⟩), (rfl), (⟨rfl, rfl, rfl⟩), (⟨rfl, rfl, rfl⟩), (⟨⟨en_ncmp, fun w Hw => ncmp_any (leV X) lv5 (qok hB) (2 ^ (bsz (leV X))) lv36 w ((hN41.get 3 rfl).at (Has.tl (Has.tl Hw))) ((hN41.get 0 rfl).at (Has.tl (Has.tl Hw)))⟩, rfl⟩), (⟨(dec_f (cmp_lt0 (bsz_ok _).1)), rfl⟩), (rfl), (rfl), (rfl), (rfl), (⟨(make_ok (t := 59) (e := 5) (p := (.tmp 45)) (q := (.tmp 45)) (by kernel_rfl) rfl rfl Tryd.underlying59 (by kernel_rfl) (by omega)), fun w' _ hb => ⟨.slice (some ⟨wq.heap.size, 0, none⟩) k k, rfl, _, rfl, hb⟩⟩), (fun h11_0 => (zin_run (x := .tmp 46) h11_0 (by kernel_rfl) rfl Tryd.underlying59 Tryd.underlying5 Tryd.underlying9)), (⟨(by simp only [bs_size, List.length_replicate]; omega), (vS2 (bs_app _ _)), rfl⟩), (⟨en_nbytes, by have h7 := nbytes_any (X ++ List.replicate k 0) (app_lt8 hX rep0_lt) (by rw [List.length_append, List.length_replicate]; omega) wq; rw [leV_pad] at h7; exact h7.mono fun _ _ ⟨v, h1, h2, h3⟩ => ⟨v, h1, h2, h3.mono hB9.size⟩⟩), (⟨rfl, rfl, rfl⟩), (fun h14_0 h14_1 => ⟨en_ncmp, (ncmp_any (leV X) (lx 14) (qok hB) (leV X) lv5 wq h14_1.1 ((hN41.get 3 rfl).at (Has.tl (Has.tl hH9)))).mono fun _ _ ⟨h1, h2⟩ => ⟨undef, h1.trans (by rw [cmp_self]; rfl), h2, trivial⟩⟩), (fun h16_0 => ⟨(by decide), rfl⟩), (rfl), (fun h16_0 => rfl), (rfl), (rfl), (⟨(by omega), rfl⟩), (rfl), (rfl), (rfl), (rfl), (rfl), trivial⟩) (fun lx ac46 wd46 hx47 hB48 FF46 MM46 => ?_))
    obtain ⟨hl11, hl14, hl16, -⟩ := hx47
    generalize lx 11 = lv49 at *
    generalize lx 14 = lv50 at *
    generalize lx 16 = lv51 at *
    refine wpl_nil (then_n ?_)
    refine wp_cond_false (FF46.ev 0 rfl) ?_
    refine wp_skip ?_
    refine then_n ?_
    refine wp_seq ?_
    refine wp_seq (rg_seq FF46 MM46 [o_, o_] [11, 8, 7, 6, 0, 2, 64] (fun Kt => Kt [(64, .bool (decide ((bsz (leV X)) = 0))), (11, .pointer (some ⟨bt, 0, none⟩)), (8, .int .i64 (bsz (leV X) : Nat)), (7, .pointer (some ⟨ba, 0, none⟩)), (6, .bool false), (0, .string (bs X)), (2, .int .u64 (n : Nat))] ((bt, .cells (#[nv (2 ^ (bsz (leV X))) lv36] : Array Value) 27) :: (ba, .cells (#[nv (leV X) lv5] : Array Value) 27) :: O39)) (by kernel_rfl) (fun _ => by kernel_rfl) (fun ac52 wd52 FF52 MM52 => then_n ?_))
    by_cases hs64 : (bsz (leV X)) = 0
    · refine wp_cond_true ((FF52.ev 0 rfl).trans (dec_t hs64)) ?_
      refine wp_seq (rg_seq FF52 MM52 [b_ 1, u_ 1 (.string (bs (decN (leV X)))), w_ 2, o_, u_ 1 (.bool true), o_, o_] [11, 8, 7, 6, 0, 2] (fun Kt => ba = ba ∧ (#[nv (leV X) lv5] : Array Value).size = 1 ∧ CallP Tryd.prog 13 [.agg (#[nv (leV X) lv5] : Array Value)] ((bt, .cells (#[nv (2 ^ (bsz (leV X))) lv36] : Array Value) 27) :: (ba, .cells (#[nv (leV X) lv5] : Array Value) 27) :: O39) (.string (bs (decN (leV X)))) ∧ bs (decN (leV X)) = bs [48] ∧ CallP Tryd.prog 8 [] ((bt, .cells (#[nv (2 ^ (bsz (leV X))) lv36] : Array Value) 27) :: (ba, .cells (#[nv (leV X) lv5] : Array Value) 27) :: O39) (.bool true) ∧ Kt [(6, .bool true), (11, .pointer (some ⟨bt, 0, none⟩)), (8, .int .i64 (bsz (leV X) : Nat)), (7, .pointer (some ⟨ba, 0, none⟩)), (0, .string (bs X)), (2, .int .u64 (n : Nat))] ((bt, .cells (#[nv (2 ^ (bsz (leV X))) lv36] : Array Value) 27) :: (ba, .cells (#[nv (leV X) lv5] : Array Value) 27) :: O39)) (by kernel_rfl) (fun _ => by kernel_rfl) (⟨rfl, rfl, ⟨en_ntext, fun w Hw => ntext_any (leV X) lv5 (qok hB) w (hT_43.at (Has.tl (Has.tl Hw))) ((hN41.get 3 rfl).at (Has.tl (Has.tl Hw)))⟩, (congrArg bs (by rw [bz0 hs64]; rfl)), ⟨en_wakes, fun w Hw => wakes_w w (hT_43.at (Has.tl (Has.tl Hw)))⟩, fun ac53 wd53 FF53 MM53 => then_n ?_⟩))
      refine wp_ret ?_
      repeat first | refine then_ret ?_ | refine inb_ret ?_
      exact (ret_fr FF53 0 Tryd.results7 rfl ⟨rfl, MM53.belowN H (fun _ hx => List.mem_cons_of_mem _ (List.mem_cons_of_mem _ (hz44 _ hx)))⟩)
    · refine wp_cond_false ((FF52.ev 0 rfl).trans (dec_f hs64)) ?_
      refine wp_skip ?_
      refine then_n ?_
      refine wp_seq (wp_region_list ?_)
      refine st_callE [11, 8, 7, 6, 0, 2, 72] FF52 (d := 72) (mk := fun v => .agg #[nv (2) v]) en_nof rfl rfl (nof_any 2 (by decide) _) rfl (by kernel_rfl) (by decide) fun ac55 wd55 lv54 (FF55 : Fr 89 ac55 [(72, .agg (#[nv 2 lv54] : Array Value)), (11, .pointer (some ⟨bt, 0, none⟩)), (8, .int .i64 (bsz (leV X) : Nat)), (7, .pointer (some ⟨ba, 0, none⟩)), (6, .bool false), (0, .string (bs X)), (2, .int .u64 (n : Nat))]) hr56 => ?_
      obtain ⟨O57, MM580, hN59, hs60⟩ := MemS.addNats (K := [(bt, .cells (#[nv (2 ^ (bsz (leV X))) lv36] : Array Value) 27), (ba, .cells (#[nv (leV X) lv5] : Array Value) 27)]) (O := O39) MM52 hr56.1 hr56.2 hN41
      have MM58 : MemS (fun k => k < w0.heap.size ∧ ∀ x ∈ O, x.1 ≠ k) w0 wd55 ((bt, .cells (#[nv (2 ^ (bsz (leV X))) lv36] : Array Value) 27) :: (ba, .cells (#[nv (leV X) lv5] : Array Value) 27) :: O57) [] := MM580
      have hT_61 := hT_43.mono hs60
      have hz62 : ∀ x ∈ O, x ∈ O57 := fun x hx => hs60 x (hz44 x hx)
      refine rg_part 2 FF55 MM58 [o_, o_] [72, 11, 8, 7, 6, 0, 2, 74] (fun Kt => 1 ≤ (bsz (leV X)) ∧ (bsz (leV X)) - 1 < 9223372036854775808 ∧ Kt [(74, .int .i64 ((bsz (leV X)) - 1 : Nat)), (72, .agg (#[nv 2 lv54] : Array Value)), (11, .pointer (some ⟨bt, 0, none⟩)), (8, .int .i64 (bsz (leV X) : Nat)), (7, .pointer (some ⟨ba, 0, none⟩)), (6, .bool false), (0, .string (bs X)), (2, .int .u64 (n : Nat))] ((bt, .cells (#[nv (2 ^ (bsz (leV X))) lv36] : Array Value) 27) :: (ba, .cells (#[nv (leV X) lv5] : Array Value) 27) :: O57)) (by kernel_rfl) (fun _ => by kernel_rfl) (⟨(by omega), (by omega), fun ac63 wd63 FF63 MM63 => ?_⟩)
      refine st_callE [11, 8, 7, 6, 0, 2, 75] FF63 (d := 75) (mk := fun v => .tuple #[.agg #[nv (2 ^ ((bsz (leV X)) - 1)) v], .int .i64 (0 : Nat)]) en_npow rfl rfl (npow_ok 2 lv54 (qok4 (by decide +kernel)) ((bsz (leV X)) - 1) (pow2ok (by omega)) (by omega) _ ((hN59.get 0 rfl).at (Has.tl (Has.tl MM63.hasL)))) rfl (by kernel_rfl) (by decide) fun ac65 wd65 lv64 (FF65 : Fr 89 ac65 [(75, .tuple #[.agg (#[nv (2 ^ ((bsz (leV X)) - 1)) lv64] : Array Value), .int .i64 (0 : Nat)]), (11, .pointer (some ⟨bt, 0, none⟩)), (8, .int .i64 (bsz (leV X) : Nat)), (7, .pointer (some ⟨ba, 0, none⟩)), (6, .bool false), (0, .string (bs X)), (2, .int .u64 (n : Nat))]) hr66 => ?_
      obtain ⟨O67, MM680, hN69, hs70⟩ := MemS.addNats (K := [(bt, .cells (#[nv (2 ^ (bsz (leV X))) lv36] : Array Value) 27), (ba, .cells (#[nv (leV X) lv5] : Array Value) 27)]) (O := O57) MM63 hr66.1 hr66.2 hN59
      have MM68 : MemS (fun k => k < w0.heap.size ∧ ∀ x ∈ O, x.1 ≠ k) w0 wd65 ((bt, .cells (#[nv (2 ^ (bsz (leV X))) lv36] : Array Value) 27) :: (ba, .cells (#[nv (leV X) lv5] : Array Value) 27) :: O67) [] := MM680
      have hT_71 := hT_61.mono hs70
      have hz72 : ∀ x ∈ O, x ∈ O67 := fun x hx => hs70 x (hz62 x hx)
      refine rg_part 6 FF65 MM68 [o_, o_, o_, o_, b_ 0, o_] [11, 8, 7, 6, 0, 2, 13, 14] (fun Kt => ∀ bh, bh = bh ∧ (#[.slice none 0 0] : Array Value).size = 1 ∧ (#[nv (2 ^ ((bsz (leV X)) - 1)) lv64] : Array Value).size = 1 ∧ (#[nv (2 ^ ((bsz (leV X)) - 1)) lv64] : Array Value).all (·.oneCell') = true ∧ (0, 0).2 = 0 ∧ Kt [(14, .int .i64 (0 : Nat)), (13, .pointer (some ⟨bh, 0, none⟩)), (11, .pointer (some ⟨bt, 0, none⟩)), (8, .int .i64 (bsz (leV X) : Nat)), (7, .pointer (some ⟨ba, 0, none⟩)), (6, .bool false), (0, .string (bs X)), (2, .int .u64 (n : Nat))] ((bh, .cells (#[nv (2 ^ ((bsz (leV X)) - 1)) lv64] : Array Value) 27) :: (bt, .cells (#[nv (2 ^ (bsz (leV X))) lv36] : Array Value) 27) :: (ba, .cells (#[nv (leV X) lv5] : Array Value) 27) :: O67)) (by kernel_rfl) (fun _ => by kernel_rfl) (fun bh => ⟨rfl, rfl, rfl, (by kernel_rfl), rfl, fun ac73 wd73 FF73 MM73 => ?_⟩)
      refine wpl_nil (then_n ?_)
      refine wp_seq (rg_seq FF73 MM73 [o_, w_ 2, o_, b_ 2, b_ 0, u_ 1 (.int .i64 (cmpN (leV X) (2 ^ ((bsz (leV X)) - 1)) : Int)), u_ 4 (.bool true), o_, o_, u_ 1 (.bool true), o_, o_] [13, 11, 8, 7, 6, 0, 2] (fun Kt => 0 = 0 ∧ ba = ba ∧ (#[nv (leV X) lv5] : Array Value).size = 1 ∧ bh = bh ∧ (#[nv (2 ^ ((bsz (leV X)) - 1)) lv64] : Array Value).size = 1 ∧ CallP Tryd.prog 17 [.agg (#[nv (leV X) lv5] : Array Value), .agg (#[nv (2 ^ ((bsz (leV X)) - 1)) lv64] : Array Value)] ((bh, .cells (#[nv (2 ^ ((bsz (leV X)) - 1)) lv64] : Array Value) 27) :: (bt, .cells (#[nv (2 ^ (bsz (leV X))) lv36] : Array Value) 27) :: (ba, .cells (#[nv (leV X) lv5] : Array Value) 27) :: O67) (.int .i64 (cmpN (leV X) (2 ^ ((bsz (leV X)) - 1)) : Int)) ∧ Value.bool (decide ((cmpN (leV X) (2 ^ ((bsz (leV X)) - 1))) ≥ ((0 : Nat) : Int))) = .bool true ∧ CallP Tryd.prog 8 [] ((bh, .cells (#[nv (2 ^ ((bsz (leV X)) - 1)) lv64] : Array Value) 27) :: (bt, .cells (#[nv (2 ^ (bsz (leV X))) lv36] : Array Value) 27) :: (ba, .cells (#[nv (leV X) lv5] : Array Value) 27) :: O67) (.bool true) ∧ Kt [(6, .bool true), (13, .pointer (some ⟨bh, 0, none⟩)), (11, .pointer (some ⟨bt, 0, none⟩)), (8, .int .i64 (bsz (leV X) : Nat)), (7, .pointer (some ⟨ba, 0, none⟩)), (0, .string (bs X)), (2, .int .u64 (n : Nat))] ((bh, .cells (#[nv (2 ^ ((bsz (leV X)) - 1)) lv64] : Array Value) 27) :: (bt, .cells (#[nv (2 ^ (bsz (leV X))) lv36] : Array Value) 27) :: (ba, .cells (#[nv (leV X) lv5] : Array Value) 27) :: O67)) (by kernel_rfl) (fun _ => by kernel_rfl) (⟨(by decide), rfl, rfl, rfl, rfl, ⟨en_ncmp, fun w Hw => ncmp_any (leV X) lv5 (qok hB) (2 ^ ((bsz (leV X)) - 1)) lv64 w ((hN69.get 5 rfl).at (Has.tl (Has.tl (Has.tl Hw)))) ((hN69.get 0 rfl).at (Has.tl (Has.tl (Has.tl Hw))))⟩, (dec_t (cmp_ge0 ((bsz_ok _).2.resolve_left hs64))), ⟨en_wakes, fun w Hw => wakes_w w (hT_71.at (Has.tl (Has.tl (Has.tl Hw))))⟩, fun ac74 wd74 FF74 MM74 => then_n ?_⟩))
      refine wp_ret ?_
      repeat first | refine then_ret ?_ | refine inb_ret ?_
      exact (ret_fr FF74 0 Tryd.results7 rfl ⟨rfl, MM74.belowN H (fun _ hx => List.mem_cons_of_mem _ (List.mem_cons_of_mem _ (List.mem_cons_of_mem _ (hz72 _ hx))))⟩)

end Go.Proofs.YtcannnmpemnklaaDoor
