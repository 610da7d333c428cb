/- Several texts in one: Covers: their texts, how many they are; a row made with room. No program in this text. Calls that turn several blocks; rows that a walk owns, read for a while. Package wire, package cover: requests. Package cover: Make. Package cover: Make of anything. The document's covers. The laws of covers: what they share. Rows of texts that are the same. The law CoverTells. -/
import Derived.Test.YthgfjeljfiadmaaZ5
import Derived.Test.YthgfjeljfiadmaaZ3
import Derived.OrdersHeld
namespace Go.Proofs.Ythgfjeljfiadmaa
open Go.RowKit
theorem tak_app (a b : Nat) (X : List Nat) : takN a X ++ takN b (X.drop a) = takN (a + b) X := by
  refine ext_getD (by rw [List.length_append, takN_len, takN_len, takN_len]) fun i hi => ?_
  rw [List.length_append, takN_len, takN_len] at hi
  rw [takN_get X hi]
  rcases Nat.lt_or_ge i a with h | h
  · rw [getD_app_l _ _ _ (by rw [takN_len]; exact h), takN_get X h]
  · rw [getD_app_r _ _ _ (by rw [takN_len]; exact h), takN_len, takN_get _ (by omega), dropD]
    congr 1
    omega
/-- The covers' requests, out of what is left of a tape: those that bear a name alone, then the pairs. -/
def reqC (o : Nat) (Y : List Nat) (k : Nat) : List Nat := if k < o then takN 52 (Y.drop (52 * k)) else takN 16 (Y.drop (52 * o + 88 * ((k - o) / 2))) ++ takN 36 (Y.drop (52 * o + 88 * ((k - o) / 2) + 16 + 36 * ((k - o) % 2)))
theorem reqC_one {o k : Nat} (Y : List Nat) (h : k < o) : takN 16 (Y.drop (52 * k)) ++ takN 36 (Y.drop (52 * k + 16)) = reqC o Y k := by
  rw [reqC, if_pos h, ← tak_app 16 36, List.drop_drop]
theorem reqC_a (o j : Nat) (Y : List Nat) : takN 16 (Y.drop (52 * o + 88 * j)) ++ takN 36 (Y.drop (52 * o + 88 * j + 16)) = reqC o Y (o + 2 * j) := by
  rw [reqC, if_neg (by omega), show (o + 2 * j - o) / 2 = j by omega, show (o + 2 * j - o) % 2 = 0 by omega]
theorem reqC_b (o j : Nat) (Y : List Nat) : takN 16 (Y.drop (52 * o + 88 * j)) ++ takN 36 (Y.drop (52 * o + 88 * j + 52)) = reqC o Y (o + 2 * j + 1) := by
  rw [reqC, if_neg (by omega), show (o + 2 * j + 1 - o) / 2 = j by omega, show (o + 2 * j + 1 - o) % 2 = 1 by omega]
theorem reqC_len (o : Nat) (Y : List Nat) (k : Nat) : (reqC o Y k).length = 52 := by
  rw [reqC]
  split
  · exact takN_len _ _
  · rw [List.length_append, takN_len, takN_len]
theorem fv_two (n : Nat) (F : Nat → Value) : fv n F ++ [F n, F (n + 1)] = fv (n + 2) F := by rw [← fv_succ, ← fv_succ, List.append_assoc]; rfl
theorem two_one (A B : List Nat) : ∀ u ∈ [sB A, sB B], u.oneCell' = true := fun u hu => by
  simp only [List.mem_cons, List.not_mem_nil, or_false] at hu
  rcases hu with rfl | rfl <;> rfl
theorem dr_in {a b r m k : Nat} {X : List Nat} (_hk : TOk a b r m) (h : (uN a b r m k X).2.1 = 0) : m - r ≤ drN a b r m k X ∧ drN a b r m k X ≤ m - r + 2 * r := by
  rw [drN, if_pos h]
  rcases und_ways (toN a b r m (2 * r + 1)) (bsz (toN a b r m (2 * r + 1))) k X with h1 | ⟨h1, _, _⟩
  · rw [uN, h1] at h
    cases h
  · obtain ⟨i, hi, h2, h3⟩ := atw_find h1
    rw [uN, a_yes hi h2 h3]
    omega
theorem dr_no {a b r m k : Nat} {X : List Nat} (h : (uN a b r m k X).2.1 ≠ 0) : drN a b r m k X = 0 := if_neg h
theorem dr_8 {a b r m k : Nat} {X : List Nat} (hk : TOk a b r m) : drN a b r m k X ≤ 8 := by
  by_cases h : (uN a b r m k X).2.1 = 0
  · have := dr_in hk h; have := hk.2.2.2.2; have := hk.2.2.2.1; omega
  · rw [dr_no h]; omega
theorem un_err (a b r m k : Nat) (X : List Nat) : (uN a b r m k X).2.1 = 0 ∨ (uN a b r m k X).2.1 = 3 := by
  rcases und_ways (toN a b r m (2 * r + 1)) (bsz (toN a b r m (2 * r + 1))) k X with h1 | ⟨_, h1, _⟩
  · rw [uN, h1]; exact .inr rfl
  · exact .inl h1
theorem un_bd {a b r m k : Nat} {X : List Nat} (hk : TOk a b r m) (hk2 : k ≤ 16) : (uN a b r m k X).2.2 ≤ 48 := by
  have h := und_bd (toN a b r m (2 * r + 1)) (bsz (toN a b r m (2 * r + 1))) k X
  have h2 := tot_b2 hk
  have h3 : (bsz (toN a b r m (2 * r + 1)) + 7) / 8 ≤ 3 := by omega
  exact Nat.le_trans h (Nat.mul_le_mul h3 hk2)
/-- What is made of a tape: the error, the ones, the twos, how much was taken ahead of the requests. -/
def cvK (a b r m k : Nat) (X : List Nat) : Nat × Nat × Nat × Nat :=
  if (uN a b r m k X).2.1 ≠ 0 then ((uN a b r m k X).2.1, 0, 0, (uN a b r m k X).2.2)
  else if (uN a b r m k (X.drop (uN a b r m k X).2.2)).2.1 ≠ 0 then ((uN a b r m k (X.drop (uN a b r m k X).2.2)).2.1, 0, 0, (uN a b r m k X).2.2 + (uN a b r m k (X.drop (uN a b r m k X).2.2)).2.2)
  else (0, drN a b r m k X, drN a b r m k (X.drop (uN a b r m k X).2.2), (uN a b r m k X).2.2 + (uN a b r m k (X.drop (uN a b r m k X).2.2)).2.2)
def cvZ (a b r m : Nat) (z : Int) (X : List Nat) : Nat × Nat × Nat × Nat := if 1 ≤ z ∧ z ≤ 16 then cvK a b r m z.toNat X else (1, 0, 0, 0)
theorem cvZ_nat {a b r m k : Nat} (h1 : 1 ≤ k) (h2 : k ≤ 16) (X : List Nat) : cvZ a b r m (k : Nat) X = cvK a b r m k X := by rw [cvZ, if_pos (by omega), Int.toNat_natCast]
theorem cvZ_bad {a b r m : Nat} {z : Int} (h : z < 1 ∨ z > 16) (X : List Nat) : cvZ a b r m z X = (1, 0, 0, 0) := if_neg (by omega)
theorem cvK_one {a b r m k : Nat} {X : List Nat} (h : (uN a b r m k X).2.1 ≠ 0) : cvK a b r m k X = ((uN a b r m k X).2.1, 0, 0, (uN a b r m k X).2.2) := if_pos h
theorem cvK_two {a b r m k : Nat} {X Y : List Nat} (hY : X.drop (uN a b r m k X).2.2 = Y) (h : (uN a b r m k X).2.1 = 0) (h2 : (uN a b r m k Y).2.1 ≠ 0) : cvK a b r m k X = ((uN a b r m k Y).2.1, 0, 0, (uN a b r m k X).2.2 + (uN a b r m k Y).2.2) := by
  subst hY
  rw [cvK, if_neg (by simpa using h), if_pos h2]
theorem cvK_ok {a b r m k : Nat} {X Y : List Nat} (hY : X.drop (uN a b r m k X).2.2 = Y) (h : (uN a b r m k X).2.1 = 0) (h2 : (uN a b r m k Y).2.1 = 0) : cvK a b r m k X = (0, drN a b r m k X, drN a b r m k Y, (uN a b r m k X).2.2 + (uN a b r m k Y).2.2) := by
  subst hY
  rw [cvK, if_neg (by simpa using h), if_neg (by simpa using h2)]
theorem cvK_bd {a b r m k : Nat} {X : List Nat} (hk : TOk a b r m) (hk2 : k ≤ 16) : (cvK a b r m k X).1 ≤ 3 ∧ (cvK a b r m k X).2.1 ≤ 8 ∧ (cvK a b r m k X).2.2.1 ≤ 8 ∧ (cvK a b r m k X).2.2.2 ≤ 96 := by
  have e1 := un_err a b r m k X
  have u1 := un_bd (X := X) hk hk2
  have e2 := un_err a b r m k (X.drop (uN a b r m k X).2.2)
  have u2 := un_bd (X := X.drop (uN a b r m k X).2.2) hk hk2
  have d1 := dr_8 (k := k) (X := X) hk
  have d2 := dr_8 (k := k) (X := X.drop (uN a b r m k X).2.2) hk
  unfold cvK
  split
  · simp only; omega
  · split
    · simp only; omega
    · simp only; omega
theorem cvZ_bd {a b r m : Nat} {z : Int} {X : List Nat} (hk : TOk a b r m) : (cvZ a b r m z X).1 ≤ 3 ∧ (cvZ a b r m z X).2.1 ≤ 8 ∧ (cvZ a b r m z X).2.2.1 ≤ 8 ∧ (cvZ a b r m z X).2.2.2 ≤ 96 := by
  unfold cvZ
  split
  · exact cvK_bd hk (by omega)
  · exact ⟨by decide, by decide, by decide, by decide⟩
theorem dropc0 {X Y : List Nat} {p : Nat} (h : X.drop p = Y) : Y = X.drop (p + (52 * 0 + 88 * 0)) := h.symm
theorem dropc1 {X Y : List Nat} {p : Nat} (h : X.drop p = Y) (q : Nat) : Y.drop q = X.drop (p + q + (52 * 0 + 88 * 0)) := by rw [← h, List.drop_drop]; rfl
theorem dropc2 {X Y : List Nat} {p : Nat} (h : X.drop p = Y) (q c : Nat) : (Y.drop q).drop c = X.drop (p + q + c) := by rw [← h, List.drop_drop, List.drop_drop, Nat.add_assoc]
theorem turn_to {g : Nat} {X X' : List Nat} {u u' : Nat} {w w' : World} (h : Turn g (TB X u) w w') (e1 : X = X') (e2 : u = u') : Turn g (TB X' u') w w' := by subst e1 e2; exact h
theorem rowNew_base {base base' n : Nat} {w : World} {p : Option Addr} {V : Nat → Value} (h : RowNew base' w p n V) (hb : base ≤ base') : RowNew base w p n V := by
  rcases h with h | ⟨b, cs, T, fr, e, h0, h1⟩
  · exact .inl h
  · exact .inr ⟨b, cs, T, fr, e, Nat.le_trans hb h0, h1⟩
theorem rowNew_keep {base n : Nat} {w w' : World} {p : Option Addr} {V : Nat → Value} (h : RowNew base w p n V) (h' : RowIn w' p n V) : RowNew base w' p n V := by
  rcases h with h | ⟨b, cs, T, fr, rfl, hb, h1, h2⟩
  · exact .inl h
  · rcases h' with h' | ⟨b', off, cs', T', fr', e, g1, g2⟩
    · exact .inl h'
    · cases e
      exact .inr ⟨b, cs', T', fr', rfl, hb, g1, fun j hj => by simpa using g2 j hj⟩
section
variable {P : Program} {w0 w : World} {L : Blks} {S : Nat → Prop} {R : List Row} {l : Slots}
/-- 'make([]T, 0, n)'. -/
theorem make0_ok {o : Oper} {t e : TypeId} {p q : Operand} {n bb : Nat} {k : IntKind} {z : Value} (ho : o.op = .makeSlice t p q) (hp : evO l p = some (.int k ((0 : Nat) : Int))) (hq : evO l q = some (.int k (n : Nat))) (hu : P.underlying t = some (.slice e))
    (hi : (P.info? e).map (fun i => (i.zero, i.size, i.bytes)) = some (some z, 1, bb)) (hz : z.cells = #[z]) (hn : bb * n ≤ 281474976710656) (h63 : n ≤ 281474976710656) : RunN P l L o (mkOf (.slice none 0 n)) (.cells (fc n fun _ => z) e) := fun ρ w A _ => by
  obtain ⟨i, hi, h2⟩ := Option.map_eq_some_iff.1 hi
  simp only [Prod.mk.injEq] at h2
  obtain ⟨s1, s2, s3⟩ := h2
  have h1 := A p _ hp
  have h3 := A q _ hq
  have hb : (i.bytes : Int) * (n : Int) ≤ 281474976710656 := by
    have h9 := Int.ofNat_le.2 hn
    rw [Int.natCast_mul] at h9
    rw [s3]
    exact h9
  have hr := run_make (P := P) w t e i z hu hi s1 k k ((0 : Nat) : Int) (n : Int) (by omega) (by omega) hb (by omega)
  have hm : madeCells z.cells ((n : Int).toNat * i.size) = fc n fun _ => z := by
    apply Array.ext'
    rw [s2, Nat.mul_one, Int.toNat_natCast, hz, toList_madeCells_one, fv_toList]
    unfold fv
    rw [List.map_const', List.length_range]
  rw [hm] at hr
  rw [show ((0 : Nat) : Int) = 0 from rfl] at hr h1
  simp [execOp, ho, h1, h3, hr, mkOf]
/-- A block that is the walk's own, as a row of which nothing is used yet. -/
theorem MemS.rowRoom {g cap k : Nat} {e : TypeId} {cs : Array Value} (M : MemS S w0 w ((g, .cells cs e) :: L) R) (hg : w0.heap.size ≤ g) (hm : cap ≤ maxLen) (hcs : cs.size = cap * k) : MemS S w0 w L ((.slice (some ⟨g, 0, none⟩) 0 cap, e, k, 0, []) :: R) := by
  refine ⟨M.os, M.tape, M.output, M.size, M.block, M.old, fun i x h => M.has (i + 1) x (by simpa using h), fun i j x y h h' hij => M.apart (i + 1) (j + 1) x y (by simpa using h) (by simpa using h') (by omega), fun i x h => M.base (i + 1) x (by simpa using h), fun r hr => ?_, fun r hr g' hg' x hx => ?_, fun i j r r' hi hj hij g' hg' => ?_⟩
  · rcases List.mem_cons.1 hr with rfl | hr
    · exact ⟨by simp, .inr ⟨g, cap, cs, rfl, hg, M.has 0 _ rfl, Nat.zero_le _, hm, hcs, by simp⟩⟩
    · exact M.rows r hr
  · rcases List.mem_cons.1 hr with rfl | hr
    · obtain rfl : g = g' := by simpa [Value.ownBlock] using hg'
      obtain ⟨i, hi⟩ := List.mem_iff_getElem?.1 hx
      exact M.apart (i + 1) 0 x (g, .cells cs e) (by simpa using hi) rfl (by omega)
    · exact M.rowsL r hr g' hg' x (List.mem_cons_of_mem _ hx)
  · cases i with
    | zero =>
      simp at hi
      subst hi
      obtain rfl : g = g' := by simpa [Value.ownBlock] using hg'
      cases j with
      | zero => omega
      | succ j => exact fun h => M.rowsL r' (List.mem_of_getElem? (by simpa using hj)) g h (g, .cells cs e) (by simp) rfl
    | succ i =>
      cases j with
      | zero =>
        simp at hj
        subst hj
        intro h
        have : g = g' := by simpa [Value.ownBlock] using h
        exact M.rowsL r (List.mem_of_getElem? (by simpa using hi)) g' hg' (g, .cells cs e) (by simp) this
      | succ j => exact M.rowsR i j r r' (by simpa using hi) (by simpa using hj) (by omega) g' hg'
end
end Go.Proofs.Ythgfjeljfiadmaa
namespace Go.Proofs.Ythgfjeljfiadmaa
open Go.RowKit
section
variable {P : Program} {ops : Array Oper} {rest : List Oper} {op o : Oper} {a : Act} {w0 w w' : World} {Q : Exit → Act → World → Prop} {n m : Nat} {l : Slots} {L O : Blks} {S : Nat → Prop} {R : List Row}
/-- These blocks hold what is told; no other one has turned. -/
structure TurnB (N : Blks) (w w' : World) : Prop where
  os : w'.os = w.os
  tape : w'.tape = w.tape
  output : w'.output = w.output
  size : w.heap.size ≤ w'.heap.size
  block : ∀ k, k < w.heap.size → (∀ x ∈ N, x.1 ≠ k) → w'.heap[k]? = w.heap[k]?
  now : ∀ x ∈ N, w'.heap[x.1]? = some x.2
theorem TurnB.of_below {N : Blks} (h : Below w.heap.size w w') (hN : Has w N) : TurnB N w w' := ⟨h.os, h.tape, h.output, h.size, fun k hk _ => h.block k hk, fun x hx => by
  have := Has.mem hN hx
  exact (h.block x.1 (lt_of_block this)).trans this⟩
theorem TurnB.below (h : TurnB [] w w') : Below w.heap.size w w' := ⟨h.os, h.tape, h.output, h.size, fun k hk => h.block k hk fun _ hx => (nomatch hx)⟩
/-- Blocks of the list, by their places. -/
def atL (L : Blks) : List Nat → Option Blks
  | [] => some []
  | i :: r => match L[i]?, atL L r with | some y, some N => some (y :: N) | _, _ => none
theorem atL_has : ∀ {is : List Nat} {K : Blks}, atL L is = some K → Has w L → Has w K
  | [], K, h, _ => by
    obtain rfl := Option.some.inj h
    exact fun i x hx => by simp at hx
  | i :: r, K, h, H => by
    unfold atL at h
    split at h
    · rename_i y N hy hN
      obtain rfl := Option.some.inj h
      intro j x hx
      cases j with
      | zero => simp at hx; subst hx; exact H i _ hy
      | succ j => exact atL_has hN H j x (by simpa using hx)
    · cases h
/-- What a row was while it lies among the blocks. -/
def Froz (base : Nat) (O' O : Blks) (v : Value) (e : TypeId) (k n : Nat) (X : List Value) : Prop :=
  (v = .slice none 0 0 ∧ n = 0 ∧ X = [] ∧ O' = O) ∨ ∃ (g cap : Nat) (cur : Array Value), v = .slice (some ⟨g, 0, none⟩) n cap ∧ base ≤ g ∧ n ≤ cap ∧ cap ≤ maxLen ∧ cur.size = cap * k ∧ cur.toList.take (n * k) = X ∧ X.length = n * k ∧ O' = (g, .cells cur e) :: O
theorem Froz.mono {base k n : Nat} {O' : Blks} {v : Value} {e : TypeId} {X : List Value} (h : Froz base O' O v e k n X) : ∀ x ∈ O, x ∈ O' := by
  rcases h with ⟨_, _, _, rfl⟩ | ⟨g, cap, cur, _, _, _, _, _, _, _, rfl⟩
  · exact fun _ h => h
  · exact fun _ h => List.mem_cons_of_mem _ h
end
section
variable {P : Program} {ops : Array Oper} {oi : Oper} {a : Act} {w0 w w' : World} {Q : Exit → Act → World → Prop} {n : Nat} {l : Slots} {L : Blks} {S : Nat → Prop} {R : List Row} {T : List Nat} {Z : World → Prop}
def wpLate (P : Program) (ops : Array Oper) (Q : Exit → Act → World → Prop) (Z : World → Prop) (T : List Nat) : Nat → Array Bool → Act → World → Prop
  | 0, listed, a, w => Region.ready .any ops listed = [] ∧ Q .normal a w
  | fuel + 1, listed, a, w => (Region.ready .any ops listed = [] → Q .normal a w) ∧
    ∀ i ∈ Region.ready .any ops listed, wpOp P ops Q i (fun a' w' => (i ∉ T → Z w') ∧ wpLate P ops Q Z T fuel (listed.setIfInBounds i true) a' w') a w
theorem wpAny_late : ∀ (fuel : Nat) (listed : Array Bool) (a : Act) (w : World), wpLate P ops Q Z T fuel listed a w → wpAny P .any ops Q fuel listed a w
  | 0, _, _, _, h => h
  | fuel + 1, _, _, _, h => ⟨h.1, fun i hi => wpOp_mono (fun a' w' h' => wpAny_late fuel _ a' w' h'.2) (h.2 i hi)⟩
/-- Each late operation waits for that one. -/
def waitsB (ops : Array Oper) (i : Nat) : List Nat → Bool
  | [] => true
  | j :: r => (match ops[j]? with | some o => o.after.any fun e => Region.binds .any e && Nat.beq e.on i | none => true) && waitsB ops i r
theorem waits_of {i : Nat} : ∀ {T : List Nat}, waitsB ops i T = true → ∀ j ∈ T, ∀ o, ops[j]? = some o → ∃ e ∈ o.after, Region.binds .any e = true ∧ e.on = i
  | [], _, _, hj, _, _ => (nomatch hj)
  | k :: r, h, j, hj, o, ho => by
    rw [waitsB, Bool.and_eq_true] at h
    rcases List.mem_cons.1 hj with rfl | hj
    · have h1 := h.1
      rw [ho] at h1
      obtain ⟨e, he, hb⟩ := Array.any_eq_true'.1 h1
      rw [Bool.and_eq_true] at hb
      exact ⟨e, he, hb.1, Nat.eq_of_beq_eq_true hb.2⟩
    · exact waits_of h.2 j hj o ho
theorem wpLate_first {i : Nat} {v : Value} (hi : ops[i]? = some oi) (hsel : ∀ (j : Nat) (o : Oper) cs b, ops[j]? = some o → o.op ≠ .select cs b) (hT : waitsB ops i T = true)
    (hQ : ∀ c a w, Q (.panic c) (a.put oi.dst v) w → Q (.panic c) a w) : ∀ (fuel : Nat) (listed : Array Bool) (a : Act) (w : World),
      (∀ j oj, ops[j]? = some oj → j ≠ i → listed.getD j true = false → (∀ e ∈ oj.after, Region.binds .any e = true → e.on ≠ i) → oi.apart ops oj = true) →
      i ∈ Region.ready .any ops listed → YieldsIf P ops Z oi v a → Z w → wpLate P ops Q Z T fuel (listed.setIfInBounds i true) (a.put oi.dst v) w → wpLate P ops Q Z T (fuel + 1) listed a w := by
  intro fuel
  induction fuel with
  | zero =>
    intro listed a w _ hr hy hZ H
    refine ⟨fun h => (by rw [h] at hr; cases hr), fun j hj => ?_⟩
    by_cases e : j = i
    · subst e
      exact hy.wpOp hi hZ ⟨fun _ => hZ, H⟩
    · have q := ready_mono hj e
      rw [H.1] at q
      cases q
  | succ fuel ih =>
    intro listed a w hfree hr hy hZ H
    refine ⟨fun h => (by rw [h] at hr; cases hr), fun j hj => ?_⟩
    by_cases e : j = i
    · subst e
      exact hy.wpOp hi hZ ⟨fun _ => hZ, H⟩
    · obtain ⟨hu, oj, hoj, hall⟩ := mem_ready.1 hj
      have hno : ∀ x ∈ oj.after, Region.binds .any x = true → x.on ≠ i := fun x hx hb q => by
        have h1 := hall x hx hb
        have h0 := (mem_ready.1 hr).1
        rw [q] at h1
        rcases Nat.lt_or_ge i listed.size with h' | h'
        · simp [h'] at h0 h1
          rw [h0] at h1
          cases h1
        · simp [Array.getElem?_eq_none h'] at h1
      have hjT : j ∉ T := fun q => by
        obtain ⟨x, hx, hb, q'⟩ := waits_of hT j q oj hoj
        exact hno x hx hb q'
      have h2 := wpOp_putIf hoj (hfree j oj hoj e hu hno) (fun cs b => hsel i oi cs b hi) (fun cs b => hsel j oj cs b hoj) hQ hy (H.2 j (ready_mono hj e))
      refine wpOp_mono (fun a' w' h3 => ⟨fun _ => h3.2.1 hjT, ih (listed.setIfInBounds j true) a' w' (fun k ok hk hki hun hn => hfree k ok hk hki ?_ hn) (ready_mono hr (Ne.symm e)) h3.1 (h3.2.1 hjT) ?_⟩) h2
      · by_cases q : j = k
        · subst q; exact hu
        · rw [getD_set_ne true q] at hun; exact hun
      · rw [Array.setIfInBounds_comm _ _ e]
        exact h3.2.2
/-- .. with what stands throughout alone. -/
theorem late_stand {id N : Nat} (K : Blks) (hm : P.follows .mixedOrders = true) (hN : ops.size = N) (M : MemS S w0 w L R) (H : ∀ w', MemS S w0 w' L R → wpLate P ops Q (fun w => Has w K) [] N (Array.replicate N false) a w') : (Code.region id ops true).wp P Q a w := by
  refine wp_region_any hm (wpAny_late (Z := fun w => Has w K) (T := []) _ _ _ _ ?_)
  rw [hN]
  exact H _ (M.keep (w' := { w with drawn := w.drawn + 1 }) ⟨rfl, rfl, rfl, Nat.le_refl _, fun _ _ => rfl⟩)
theorem late_take (F : Fr n a l) {i : Nat} {v : Value} {d fuel : Nat} {listed : Array Bool} (H : Has w L) (hi : ops[i]? = some oi) (hs : Region.noSelect ops = true) (hT : waitsB ops i T = true) (hf : Region.free .any ops listed i = true) (hr : (Region.ready .any ops listed).contains i = true)
    (hQ : ∀ c a (d : Nat) v w, Q (.panic c) (a.put (some d) v) w → Q (.panic c) a w) (hd : oi.dst = some d) (hn : d < n) (hg : wantOf ops.toList l oi = some true) (hrun : RunV P l L oi v)
    (K : ∀ a', Fr n a' (upd d v l) → wpLate P ops Q (fun w => Has w L) T fuel (listed.setIfInBounds i true) a' w) : wpLate P ops Q (fun w => Has w L) T (fuel + 1) listed a w := by
  refine wpLate_first hi (Region.noSelect_spec hs) hT (fun c a w h => by rw [hd] at h; exact hQ c a d v w h) fuel listed a w (Region.free_spec hi hf) (by simpa using hr) (.inl ⟨wanted_iff hg F.lk, fun w hw => hrun a.eval w F.agr hw⟩) H ?_
  rw [hd]
  exact K _ (F.put _ hn)
theorem late_one {i fuel : Nat} {listed : Array Bool} (hr : Region.ready .any ops listed = [i]) (hi : ops[i]? = some oi) (h : wpList P ops (onN (fun a' w' => (i ∉ T → Z w') ∧ wpLate P ops Q Z T fuel (listed.setIfInBounds i true) a' w') Q) [oi] a w) : wpLate P ops Q Z T (fuel + 1) listed a w :=
  ⟨fun h0 => (by rw [hr] at h0; cases h0), fun k hk => by
    rw [hr, List.mem_singleton] at hk
    subst hk
    exact op_row hi h⟩
theorem late_none {listed : Array Bool} {fuel : Nat} (hr : Region.ready .any ops listed = []) (h : Q .normal a w) : wpLate P ops Q Z T fuel listed a w := by
  cases fuel with
  | zero => exact ⟨hr, h⟩
  | succ k => exact ⟨fun _ => h, fun i hi => (by rw [hr] at hi; cases hi)⟩
theorem loadRi {o : Oper} {x : Operand} {t : TypeId} {g k m : Nat} {cs : Array Value} {e : TypeId} {fr : Nat × Nat} {d : TypeDesc} (ho : o.op = .load t x) (hx : evO l x = some (.pointer (some ⟨g, 0, none⟩))) (ht : P.underlying t = some d) (hd : d.isRow = true) (hi : (P.info? t).map (·.size) = some m) (hL : L[k]? = some (g, .cells cs e fr)) (hm : cs.size = m) : RunV P l L o (.agg cs) := fun ρ w A H => by
  have e1 : ρ x = .pointer (some ⟨g, 0, none⟩) := A x _ hx
  have := run_loadAt_mid (P := P) w g 0 t cs.toList d (fun j v hv => by rw [cell_of (H k _ hL), Nat.zero_add]; simpa using hv) ht hd (by rw [hi, ← hm]; simp)
  simp only [execOp, ho, e1, Sem.run_bind, this, Result.andThen_ok, Sem.run_pure]
end
section
end
end Go.Proofs.Ythgfjeljfiadmaa
namespace Go.Proofs.Ythgfjeljfiadmaa
open Go.RowKit
theorem en_wreq : Enters Try.prog 48 := fun args w => by simp [go_sem]
theorem en_req : Enters Try.prog 35 := fun args w => by simp [go_sem]
theorem en_reqs : Enters Try.prog 22 := fun args w => by simp [go_sem]
theorem en_mk : Enters Try.prog 11 := fun args w => by simp [go_sem]
theorem en_rmk : Enters Try.prog 12 := fun args w => by simp [go_sem]
theorem en_ktexts : Enters Try.prog 13 := fun args w => by simp [go_sem]
set_option maxRecDepth 100000 in
theorem wreq_any (D Z : List Nat) (hd : D.length = 16) (hD : ∀ i, D.getD i 0 < 256) (hz : Z.length = 36) (w0 : World) :
    Calls Try.prog 48 #[.agg (cn .u8 D), sB Z] w0 fun e w' => e = .returned (.tuple #[sB (D ++ Z), iN 0]) ∧ Below w0.heap.size w0 w' := by
  refine enter_fr Try.func48 rfl Try.ntmps48 (by simp) fun ac (FF : Fr 13 ac [(0, .agg (cn .u8 D)), (1, sB Z)]) => ?_
  have MM := MemS.start w0
  refine wp_seq (rg_c FF MM [(0, s_ 0 (.cells (cn .u8 D) 68)), (0, t_ (sB []))] 6 [] [0] (⟨(by kernel_rfl), fun bi => ⟨(by kernel_rfl), fun _ _ FF1 MM1 => then_n ?_⟩⟩))
  refine wp_seq ?_
  refine wp_seq (rg_c FF1 MM1 [(1, t_ (iN Z.length)), (0, w_ 3)] 6 [8] [] (⟨(vI (bs_size _)), (fun h => h hz), fun _ _ FF2 MM2 => then_n ?_⟩))
  refine wp_cond_false (FF2.ev 0 rfl) ?_
  refine wp_skip ?_
  refine then_n ?_
  refine wp_seq (rg_c FF2 MM2 [(1, l_ 0 (sB D)), (1, t_ (sB (D ++ Z)))] 6 [] [2] (⟨by decide, by decide, by decide, rfl, (str_all hd hD), (by simp only [bs_size]; omega), (vS2 (bs_app _ _)), fun _ _ FF3 MM3 => then_n ?_⟩))
  refine wp_ret ?_
  repeat first | refine then_ret ?_ | refine inb_ret ?_
  exact (ret_tup2 FF3 1 0 Try.results48 rfl rfl ⟨rfl, MM3.below⟩)
set_option maxRecDepth 100000 in
theorem req_any (g : Nat) (X : List Nat) (u : Nat) (hX : ∀ i, X.getD i 0 < 256) (hu : u < 4611686018427387904) (D : List Nat) (hd : D.length = 16) (hDl : ∀ i, D.getD i 0 < 256) (w0 : World) (hg : w0.heap[g]? = some (TB X u)) :
    Calls Try.prog 35 #[pT g, .agg (cn .u8 D)] w0 fun e w' => e = .returned (sB (D ++ takN 36 X)) ∧ Turn g (TB (X.drop 36) (u + 36)) w0 w' := by
  refine enter_fr Try.func35 rfl Try.ntmps35 (by simp) fun ac (FF : Fr 15 ac [(0, pT g), (1, .agg (cn .u8 D))]) => ?_
  have MM : MemS (fun k => k < w0.heap.size ∧ ∀ x ∈ (g, oC #[sB X, iN u] 56) :: ([] : Blks), x.1 ≠ k) w0 w0 ((g, oC #[sB X, iN u] 56) :: ([] : Blks)) [] := MemS.startN (one_has hg) ⟨fun y hy => (nomatch hy), trivial⟩
  refine wp_seq (rg_c FF MM [(0, s_ 0 (.cells (cn .u8 D) 68)), (0, t_ (sB []))] 5 [] [1] (⟨(by kernel_rfl), fun bi => ⟨(by kernel_rfl), fun _ _ FF1 MM1 => then_n ?_⟩⟩))
  refine wp_seq (late_stand (N := 9) [(bi, .cells (cn .u8 D) 68)] (by kernel_rfl) (by kernel_rfl) MM1 fun wq2 MM3 => ?_)
  refine late_take FF1 (i := 0) (oi := (opAt Try.f35 1 0)) (v := (.agg (cn .u8 D))) (d := 8) (atL_has (is := [0]) rfl MM3.hasL) (by kernel_rfl) (by kernel_rfl) (by kernel_rfl) (by kernel_rfl) (by kernel_rfl) (fun _ _ _ _ _ h => h) (by kernel_rfl) (by decide) (by kernel_rfl) (loadRi (x := (.tmp 3)) (k := 0) (m := 16) (by kernel_rfl) rfl Try.underlying68 rfl (by kernel_rfl) rfl ((cn_size _ _).trans hd)) fun _ FF4 => ?_
  refine late_take FF4 (i := 1) (oi := (opAt Try.f35 1 1)) (v := (pT g)) (d := 9) (atL_has (is := [0]) rfl MM3.hasL) (by kernel_rfl) (by kernel_rfl) (by kernel_rfl) (by kernel_rfl) (by kernel_rfl) (fun _ _ _ _ _ h => h) (by kernel_rfl) (by decide) (by kernel_rfl) (mvV (x := (.tmp 0)) (by kernel_rfl) rfl) fun _ FF5 => ?_
  refine late_one (i := 2) (oi := (opAt Try.f35 1 2)) (by kernel_rfl) (by kernel_rfl) ?_
  refine rp_c 1 FF5 MM3 [(0, c_ (sB (takN 36 X)) [(1, oC #[sB (X.drop 36), iN (u + 36)] 56)])] 9 [10] [3, 0] (⟨(callU_turn en_take (g := g) (ob := TB X u) rfl fun w hg => by have h0 := take_any g 36 X u hX (by omega) (by decide) w hg; exact h0), fun _ _ FF6 MM6 => ?_⟩)
  refine wpl_nil (onN_n ⟨fun _ => (atL_has (is := [0]) rfl MM6.hasL), ?_⟩)
  refine late_one (i := 3) (oi := (opAt Try.f35 1 3)) (by kernel_rfl) (by kernel_rfl) ?_
  refine rp_c 1 FF6 MM6 [(0, t_ (.tuple #[sB (D ++ (takN 36 X)), iN 0]))] 5 [11] [] (⟨(callP_of en_wreq (wreq_any D (takN 36 X) hd hDl (takN_len _ _)) _), fun _ _ FF7 MM7 => ?_⟩)
  refine wpl_nil (onN_n ⟨fun _ => (atL_has (is := [0]) rfl MM7.hasL), ?_⟩)
  refine late_take FF7 (i := 4) (oi := (opAt Try.f35 1 4)) (v := (.tuple #[sB (D ++ (takN 36 X)), iN 0])) (d := 7) (atL_has (is := [0]) rfl MM7.hasL) (by kernel_rfl) (by kernel_rfl) (by kernel_rfl) (by kernel_rfl) (by kernel_rfl) (fun _ _ _ _ _ h => h) (by kernel_rfl) (by decide) (by kernel_rfl) (mvV (x := (.tmp 11)) (by kernel_rfl) rfl) fun _ FF8 => ?_
  refine late_take FF8 (i := 5) (oi := (opAt Try.f35 1 5)) (v := (sB (D ++ (takN 36 X)))) (d := 12) (atL_has (is := [0]) rfl MM7.hasL) (by kernel_rfl) (by kernel_rfl) (by kernel_rfl) (by kernel_rfl) (by kernel_rfl) (fun _ _ _ _ _ h => h) (by kernel_rfl) (by decide) (by kernel_rfl) (extV (x := (.tmp 7)) (i := 0) (by kernel_rfl) rfl rfl) fun _ FF9 => ?_
  refine late_take FF9 (i := 6) (oi := (opAt Try.f35 1 6)) (v := (iN 0)) (d := 13) (atL_has (is := [0]) rfl MM7.hasL) (by kernel_rfl) (by kernel_rfl) (by kernel_rfl) (by kernel_rfl) (by kernel_rfl) (fun _ _ _ _ _ h => h) (by kernel_rfl) (by decide) (by kernel_rfl) (extV (x := (.tmp 7)) (i := 1) (by kernel_rfl) rfl rfl) fun _ FF10 => ?_
  refine late_one (i := 7) (oi := (opAt Try.f35 1 7)) (by kernel_rfl) (by kernel_rfl) ?_
  refine rp_c 1 FF10 MM7 [] 6 [13] [] (fun _ _ FF11 MM11 => ?_)
  refine wpl_nil (onN_n ⟨fun _ => (atL_has (is := [0]) rfl MM11.hasL), ?_⟩)
  refine late_one (i := 8) (oi := (opAt Try.f35 1 8)) (by kernel_rfl) (by kernel_rfl) ?_
  refine rp_c 1 FF11 MM11 [] 6 [] [] (fun _ _ FF12 MM12 => ?_)
  refine wpl_nil (onN_n ⟨fun _ => (atL_has (is := [0]) rfl MM12.hasL), ?_⟩)
  refine late_none (by kernel_rfl) (then_n ?_)
  refine wp_seq (rg_c FF12 MM12 [] 5 [] [] (fun _ _ FF13 MM13 => then_n ?_))
  refine wp_ret ?_
  repeat first | refine then_ret ?_ | refine inb_ret ?_
  exact (ret_fr FF13 0 Try.results35 rfl ⟨rfl, MM13.turn (O := []) (fun i x hx => by simp at hx) 1 rfl (fun x hx => (nomatch hx))⟩)
set_option maxRecDepth 100000 in
theorem reqs_any (g : Nat) (X : List Nat) (u : Nat) (hX : ∀ i, X.getD i 0 < 256) (hu : u < 4611686018427000000) (o t : Nat) (ho : o ≤ 64) (ht : t ≤ 64) (w0 : World) (hg : w0.heap[g]? = some (TB X u)) :
    Calls Try.prog 22 #[pT g, iN o, iN t] w0 fun e w' => ∃ v, e = .returned (.slice (pOf v) (o + 2 * t) (cOf v)) ∧ Turn g (TB (X.drop (52 * o + 88 * t)) (u + (52 * o + 88 * t))) w0 w' ∧ RowNew w0.heap.size w' (pOf v) (o + 2 * t) (fun k9 => sB (reqC o X k9)) := by
  refine enter_fr Try.func22 rfl Try.ntmps22 (by simp) fun ac (FF : Fr 41 ac [(0, pT g), (1, iN o), (2, iN t)]) => ?_
  have MM : MemS (fun k => k < w0.heap.size ∧ ∀ x ∈ (g, oC #[sB X, iN u] 56) :: ([] : Blks), x.1 ≠ k) w0 w0 ((g, oC #[sB X, iN u] 56) :: ([] : Blks)) [] := MemS.startN (one_has hg) ⟨fun y hy => (nomatch hy), trivial⟩
  have ho2 : o < 65 := by omega
  have ht2 : t < 65 := by omega
  refine wp_seq (rg_c FF MM [] 7 [] [] (fun _ _ FF1 MM1 => then_n ?_))
  refine wp_seq (rg_c FF1 MM1 [(3, t_ (iN (o + 2 * t))), (0, n_ (.slice none 0 (o + 2 * t)) (.cells (fc (o + 2 * t) (fun k9 => sB [])) 9))] 8 [] [] (⟨(by have := ht2; omega), (by have := ho2; have := ht2; omega), (vI (by omega)), (make0_ok (t := 36) (e := 9) (p := (.const (iN 0))) (q := (.tmp 12)) (bb := 16) (z := sB []) (by kernel_rfl) rfl rfl Try.underlying36 (by kernel_rfl) rfl (by omega) (by omega)), fun bl => fun _ _ FF2 MM2 => then_n ?_⟩))
  have MMr3 := MM2.rowRoom (cap := o + 2 * t) (k := 1) (MM2.newest (fun _ hx => hx)) (by simp only [maxLen]; omega) (by rw [fc_size, Nat.mul_one])
  refine wp_seq ?_
  refine wp_seq (rg_c FF2 MMr3 [] 16 [] [] (fun _ _ FF4 MM4 => then_n ?_))
  refine wp_for (fun a' w' => ∃ rv : Value, ∃ i : Nat, i ≤ o ∧ Fr 41 a' [(15, iN i), (14, iN o), (7, rv), (6, .slice none 0 0), (0, pT g), (1, iN o), (2, iN t)] ∧ MemS (fun k => k < w0.heap.size ∧ ∀ x ∈ (g, oC #[sB X, iN u] 56) :: ([] : Blks), x.1 ≠ k) w0 w' ((g, oC #[sB (X.drop (52 * i)), iN (u + 52 * i)] 56) :: ([] : Blks)) [(rv, 9, 1, i, (fv i (fun k9 => sB (reqC o X k9))))]) (fun a' _ => (o - cnt 15 a').toNat) ⟨.slice (some ⟨bl, 0, none⟩) 0 (o + 2 * t), 0, Nat.zero_le _, FF4.pick [0, 1, 2, 3, 4, 5, 6], MM4⟩ ?_
  rintro ac5 wd5 ⟨rv, i, hi, FF5, MM5⟩
  have hc := cnt_of (FF5.get 0 rfl)
  refine rg_c FF5 MM5 [] 17 [] [] (fun _ _ FF6 MM6 => ?_)
  by_cases hlt : i < o
  · skip
    refine then_n (.inl ⟨(FF6.ev 0 rfl).trans (dec_t hlt), ?_⟩)
    refine wp_region_list ?_
    refine rp_c 6 FF6 MM6 [(3, c_ (.agg (cn .u8 (takN 16 (X.drop (52 * i))))) [(0, oC #[sB (X.drop (52 * i + 16)), iN (u + 52 * i + 16)] 56)]), (0, c_ (sB (reqC o X i)) [(0, oC #[sB (X.drop (52 * (i + 1))), iN (u + 52 * (i + 1))] 56)]), (0, s_ 0 (oC #[sB (reqC o X i)] 9))] 18 [22] [16] (⟨(callU_turn en_tid (g := g) (ob := TB (X.drop (52 * i)) (u + 52 * i)) rfl fun w hg => by have h0 := tid_any g (X.drop (52 * i)) (u + 52 * i) (dropX_lt hX _) (by omega) w hg; rw [List.drop_drop] at h0; exact h0), (callU_turn en_req (g := g) (ob := TB (X.drop (52 * i + 16)) (u + 52 * i + 16)) rfl fun w hg => by have h0 := req_any g (X.drop (52 * i + 16)) (u + 52 * i + 16) (dropX_lt hX _) (by omega) (takN 16 (X.drop (52 * i))) (takN_len _ _) (takN_lt (dropX_lt hX _) 16) w hg; rw [List.drop_drop, reqC_one X hlt] at h0; exact h0), (by kernel_rfl), fun bq => fun _ _ FF7 MM7 => ?_⟩)
    refine st_app [15, 14, 7, 6, 0, 1, 2, 23] FF7 MM7 (d := 23) (s := 17) (x := 22) (Y := [sB (reqC o X i)]) (z := sB []) (bb := 16) rfl rfl rfl rfl (lies_lit (MM7.get 0 rfl)) (fun u hu => by rw [List.mem_singleton.1 hu]; rfl) (by decide) Try.underlying36 (by kernel_rfl) rfl (by decide) (by simp only [maxLen]; omega) (by omega) rfl rfl (by decide) fun ac9 wd9 rv8 FF9 MM9 => ?_
    have MMr10 : MemS _ _ _ _ [(rv8, 9, 1, (i + 1), (fv (i + 1) (fun k9 => sB (reqC o X k9))))] := MM9.eqR (by rw [show (fv (i + 1) (fun k9 => sB (reqC o X k9))) = ((fv i (fun k9 => sB (reqC o X k9))) ++ [sB (reqC o X i)]) from (fv_succ _ _).symm] <;> rfl)
    refine rp_c 1 FF9 MMr10 [] 16 [] [] (fun _ _ FF11 MM11 => ?_)
    refine wpl_nil ?_
    refine inb_n (then_n ?_)
    refine rg_c FF11 MM11 [] 16 [] [] (⟨by omega, fun _ _ FF12 MM12 => ?_⟩)
    have hd := cnt_of (FF12.get 0 rfl)
    refine then_n ⟨⟨rv8, i + 1, by omega, FF12.pick [0, 2, 1, 3, 4, 5, 6], (MM12.dropAt 0)⟩, ?_⟩
    rw [hc, hd]; omega
  · skip
    refine then_n (.inr ⟨(FF6.ev 0 rfl).trans (dec_f hlt), ?_⟩)
    obtain rfl : o = i := by omega
    refine then_n ?_
    refine wp_seq ?_
    refine wp_seq (rg_c FF6 MM6 [] 27 [] [16] (fun _ _ FF13 MM13 => then_n ?_))
    refine wp_for (fun a' w' => ∃ rv2 : Value, ∃ j : Nat, j ≤ t ∧ Fr 41 a' [(26, iN j), (25, iN t), (14, iN o), (7, rv2), (6, .slice none 0 0), (0, pT g), (1, iN o), (2, iN t)] ∧ MemS (fun k => k < w0.heap.size ∧ ∀ x ∈ (g, oC #[sB X, iN u] 56) :: ([] : Blks), x.1 ≠ k) w0 w' ((g, oC #[sB (X.drop (52 * o + 88 * j)), iN (u + (52 * o + 88 * j))] 56) :: ([] : Blks)) [(rv2, 9, 1, o + 2 * j, (fv (o + 2 * j) (fun k9 => sB (reqC o X k9))))]) (fun a' _ => (t - cnt 26 a').toNat) ⟨rv, 0, Nat.zero_le _, FF13.pick [0, 1, 3, 4, 5, 6, 7, 8], MM13⟩ ?_
    rintro ac14 wd14 ⟨rv2, j, hj, FF14, MM14⟩
    have hc := cnt_of (FF14.get 0 rfl)
    refine rg_c FF14 MM14 [] 28 [] [] (fun _ _ FF15 MM15 => ?_)
    by_cases hlt : j < t
    · skip
      refine then_n (.inl ⟨(FF15.ev 0 rfl).trans (dec_t hlt), ?_⟩)
      refine wp_seq (rg_c FF15 MM15 [(1, c_ (.agg (cn .u8 (takN 16 (X.drop (52 * o + 88 * j))))) [(0, oC #[sB (X.drop (52 * o + 88 * j + 16)), iN (u + (52 * o + 88 * j) + 16)] 56)]), (0, s_ 0 (.cells (cn .u8 (List.replicate 16 0)) 68)), (0, b_ 0)] 27 [] [] (⟨(callU_turn en_tid (g := g) (ob := TB (X.drop (52 * o + 88 * j)) (u + (52 * o + 88 * j))) rfl fun w hg => by have h0 := tid_any g (X.drop (52 * o + 88 * j)) (u + (52 * o + 88 * j)) (dropX_lt hX _) (by omega) w hg; rw [List.drop_drop] at h0; exact h0), (by kernel_rfl), fun bd => ⟨rfl, ((cn_size _ _).trans (List.length_replicate ..)), ((cn_size _ _).trans (takN_len _ _)), (cn_one _ _), rfl, fun _ _ FF16 MM16 => then_n ?_⟩⟩))
      refine late_stand (N := 10) [(bd, .cells (cn .u8 (takN 16 (X.drop (52 * o + 88 * j)))) 68)] (by kernel_rfl) (by kernel_rfl) MM16 fun wq17 MM18 => ?_
      refine late_take FF16 (i := 0) (oi := (opAt Try.f22 9 0)) (v := (rv2)) (d := 30) (atL_has (is := [0]) rfl MM18.hasL) (by kernel_rfl) (by kernel_rfl) (by kernel_rfl) (by kernel_rfl) (by kernel_rfl) (fun _ _ _ _ _ h => h) (by kernel_rfl) (by decide) (by kernel_rfl) (mvV (x := (.tmp 7)) (by kernel_rfl) rfl) fun _ FF19 => ?_
      refine late_take FF19 (i := 1) (oi := (opAt Try.f22 9 1)) (v := (pT g)) (d := 31) (atL_has (is := [0]) rfl MM18.hasL) (by kernel_rfl) (by kernel_rfl) (by kernel_rfl) (by kernel_rfl) (by kernel_rfl) (fun _ _ _ _ _ h => h) (by kernel_rfl) (by decide) (by kernel_rfl) (mvV (x := (.tmp 0)) (by kernel_rfl) rfl) fun _ FF20 => ?_
      refine late_take FF20 (i := 2) (oi := (opAt Try.f22 9 2)) (v := (.agg (cn .u8 (takN 16 (X.drop (52 * o + 88 * j)))))) (d := 32) (atL_has (is := [0]) rfl MM18.hasL) (by kernel_rfl) (by kernel_rfl) (by kernel_rfl) (by kernel_rfl) (by kernel_rfl) (fun _ _ _ _ _ h => h) (by kernel_rfl) (by decide) (by kernel_rfl) (loadRi (x := (.tmp 8)) (k := 0) (m := 16) (by kernel_rfl) rfl Try.underlying68 rfl (by kernel_rfl) rfl ((cn_size _ _).trans (takN_len _ _))) fun _ FF21 => ?_
      refine late_take FF21 (i := 4) (oi := (opAt Try.f22 9 4)) (v := (pT g)) (d := 34) (atL_has (is := [0]) rfl MM18.hasL) (by kernel_rfl) (by kernel_rfl) (by kernel_rfl) (by kernel_rfl) (by kernel_rfl) (fun _ _ _ _ _ h => h) (by kernel_rfl) (by decide) (by kernel_rfl) (mvV (x := (.tmp 0)) (by kernel_rfl) rfl) fun _ FF22 => ?_
      refine late_take FF22 (i := 5) (oi := (opAt Try.f22 9 5)) (v := (.agg (cn .u8 (takN 16 (X.drop (52 * o + 88 * j)))))) (d := 35) (atL_has (is := [0]) rfl MM18.hasL) (by kernel_rfl) (by kernel_rfl) (by kernel_rfl) (by kernel_rfl) (by kernel_rfl) (fun _ _ _ _ _ h => h) (by kernel_rfl) (by decide) (by kernel_rfl) (loadRi (x := (.tmp 8)) (k := 0) (m := 16) (by kernel_rfl) rfl Try.underlying68 rfl (by kernel_rfl) rfl ((cn_size _ _).trans (takN_len _ _))) fun _ FF23 => ?_
      refine late_one (i := 3) (oi := (opAt Try.f22 9 3)) (by kernel_rfl) (by kernel_rfl) ?_
      refine rp_c 1 FF23 MM18 [(0, c_ (sB (reqC o X (o + 2 * j))) [(1, oC #[sB (X.drop (52 * o + 88 * j + 52)), iN (u + (52 * o + 88 * j) + 52)] 56)])] 36 [] [32, 31] (⟨(callU_turn en_req (g := g) (ob := TB (X.drop (52 * o + 88 * j + 16)) (u + (52 * o + 88 * j) + 16)) rfl fun w hg => by have h0 := req_any g (X.drop (52 * o + 88 * j + 16)) (u + (52 * o + 88 * j) + 16) (dropX_lt hX _) (by omega) (takN 16 (X.drop (52 * o + 88 * j))) (takN_len _ _) (takN_lt (dropX_lt hX _) 16) w hg; rw [List.drop_drop, reqC_a] at h0; exact h0), fun _ _ FF24 MM24 => ?_⟩)
      refine wpl_nil (onN_n ⟨fun _ => (atL_has (is := [0]) rfl MM24.hasL), ?_⟩)
      refine late_one (i := 6) (oi := (opAt Try.f22 9 6)) (by kernel_rfl) (by kernel_rfl) ?_
      refine rp_c 1 FF24 MM24 [(0, c_ (sB (reqC o X (o + 2 * j + 1))) [(1, oC #[sB (X.drop (52 * o + 88 * (j + 1))), iN (u + (52 * o + 88 * (j + 1)))] 56)])] 34 [36] [] (⟨(callU_turn en_req (g := g) (ob := TB (X.drop (52 * o + 88 * j + 52)) (u + (52 * o + 88 * j) + 52)) rfl fun w hg => by have h0 := req_any g (X.drop (52 * o + 88 * j + 52)) (u + (52 * o + 88 * j) + 52) (dropX_lt hX _) (by omega) (takN 16 (X.drop (52 * o + 88 * j))) (takN_len _ _) (takN_lt (dropX_lt hX _) 16) w hg; rw [List.drop_drop, reqC_b] at h0; exact h0), fun _ _ FF25 MM25 => ?_⟩)
      refine wpl_nil (onN_n ⟨fun _ => (atL_has (is := [0]) rfl MM25.hasL), ?_⟩)
      refine late_one (i := 7) (oi := (opAt Try.f22 9 7)) (by kernel_rfl) (by kernel_rfl) ?_
      refine rp_c 1 FF25 MM25 [(0, s_ 0 (oC #[sB (reqC o X (o + 2 * j)), sB (reqC o X (o + 2 * j + 1))] 9))] 31 [37] [] (⟨(by kernel_rfl), fun bq => fun _ _ FF26 MM26 => ?_⟩)
      refine wpl_nil (onN_n ⟨fun _ => (atL_has (is := [1]) rfl MM26.hasL), ?_⟩)
      refine late_one (i := 8) (oi := (opAt Try.f22 9 8)) (by kernel_rfl) (by kernel_rfl) ?_
      refine st_app [8, 26, 25, 14, 7, 6, 0, 1, 2, 38] FF26 MM26 (d := 38) (s := 30) (x := 37) (Y := [sB (reqC o X (o + 2 * j)), sB (reqC o X (o + 2 * j + 1))]) (z := sB []) (bb := 16) rfl rfl rfl rfl (lies_lit (MM26.get 0 rfl)) (two_one _ _) (by decide) Try.underlying36 (by kernel_rfl) rfl (by decide) (by simp only [maxLen]; omega) (by omega) rfl rfl (by decide) fun ac28 wd28 rv27 FF28 MM28 => ?_
      have MMr29 : MemS _ _ _ _ [(rv27, 9, 1, (o + 2 * (j + 1)), (fv (o + 2 * (j + 1)) (fun k9 => sB (reqC o X k9))))] := MM28.eqR (by rw [show (fv (o + 2 * (j + 1)) (fun k9 => sB (reqC o X k9))) = ((fv (o + 2 * j) (fun k9 => sB (reqC o X k9))) ++ [sB (reqC o X (o + 2 * j)), sB (reqC o X (o + 2 * j + 1))]) from (fv_two _ _).symm] <;> rfl)
      refine wpl_nil (onN_n ⟨fun _ => (atL_has (is := [1]) rfl MMr29.hasL), ?_⟩)
      refine late_one (i := 9) (oi := (opAt Try.f22 9 9)) (by kernel_rfl) (by kernel_rfl) ?_
      refine rp_c 1 FF28 MMr29 [] 27 [] [] (fun _ _ FF30 MM30 => ?_)
      refine wpl_nil (onN_n ⟨fun _ => (atL_has (is := [1]) rfl MM30.hasL), ?_⟩)
      refine late_none (by kernel_rfl) ?_
      refine inb_n (then_n ?_)
      refine rg_c FF30 MM30 [] 27 [] [] (⟨by omega, fun _ _ FF31 MM31 => ?_⟩)
      have hd := cnt_of (FF31.get 0 rfl)
      refine then_n ⟨⟨rv27, j + 1, by omega, FF31.pick [0, 3, 4, 1, 5, 6, 7, 8], ((MM31.dropAt 1).dropAt 0)⟩, ?_⟩
      rw [hc, hd]; omega
    · skip
      refine then_n (.inr ⟨(FF15.ev 0 rfl).trans (dec_f hlt), ?_⟩)
      obtain rfl : t = j := by omega
      refine then_n ?_
      refine wp_seq (rg_c FF15 MM15 [] 27 [] [] (fun _ _ FF32 MM32 => then_n ?_))
      obtain ⟨rp, rc, rfl, _⟩ := MM32.rowLen
      refine wp_ret ?_
      repeat first | refine then_ret ?_ | refine inb_ret ?_
      exact (ret_fr FF32 0 Try.results22 rfl ⟨.slice rp (o + 2 * t) rc, rfl, MM32.turn (O := []) (fun i x hx => by simp at hx) 0 rfl (fun x hx => (nomatch hx)), MM32.rowNewF⟩)
end Go.Proofs.Ythgfjeljfiadmaa
namespace Go.Proofs.Ythgfjeljfiadmaa
open Go.RowKit
set_option maxRecDepth 100000 in
theorem mk_O (g gk : Nat) (a b r m : Nat) (hk : TOk a b r m) (X : List Nat) (u : Nat) (hX : ∀ i, X.getD i 0 < 256) (hu : u < 4611686018400000000) (k : Nat) (hk1 : 1 ≤ k) (hk2 : k ≤ 16) (O : Blks) (hK : KO O gk a b r m) (w0 : World) (H : Has w0 ((g, TB X u) :: O)) (hD : Distinct ((g, TB X u) :: O)) :
    Calls Try.prog 11 #[pT g, pT gk, iN k] w0 fun e w' => ∃ v, e = .returned (.tuple #[.agg #[iN ((cvK a b r m k X).2.1), iN ((cvK a b r m k X).2.2.1), .slice (pOf v) ((cvK a b r m k X).2.1 + 2 * (cvK a b r m k X).2.2.1) (cOf v)], iN ((cvK a b r m k X).1)]) ∧ Turn g (TB (X.drop ((cvK a b r m k X).2.2.2 + (52 * (cvK a b r m k X).2.1 + 88 * (cvK a b r m k X).2.2.1))) (u + ((cvK a b r m k X).2.2.2 + (52 * (cvK a b r m k X).2.1 + 88 * (cvK a b r m k X).2.2.1)))) w0 w' ∧ RowNew w0.heap.size w' (pOf v) ((cvK a b r m k X).2.1 + 2 * (cvK a b r m k X).2.2.1) (fun k9 => sB (reqC (cvK a b r m k X).2.1 (X.drop (cvK a b r m k X).2.2.2) k9)) := by
  have ⟨k1, k2, k3, k4, k5⟩ := hk
  refine enter_fr Try.func11 rfl Try.ntmps11 (by simp) fun ac (FF : Fr 40 ac [(0, pT g), (1, pT gk), (2, iN k)]) => ?_
  have MM : MemS (fun k => k < w0.heap.size ∧ ∀ x ∈ (g, oC #[sB X, iN u] 56) :: O, x.1 ≠ k) w0 w0 ((g, oC #[sB X, iN u] 56) :: O) [] := MemS.startN H hD
  obtain ⟨Y, hY0⟩ : ∃ Y, X.drop (uN a b r m k X).2.2 = Y := ⟨_, rfl⟩
  have hYb : ∀ i, Y.getD i 0 < 256 := by rw [← hY0]; exact dropX_lt hX _
  have hb1 : (uN a b r m k X).2.2 ≤ 48 := un_bd hk hk2
  have hb2 : (uN a b r m k Y).2.2 ≤ 48 := un_bd hk hk2
  have hd1 : (drN a b r m k X) ≤ 8 := dr_8 hk
  have hd2 : (drN a b r m k Y) ≤ 8 := dr_8 hk
  refine wp_seq (rg_c FF MM [] 8 [] [] (fun bc => fun _ _ FF1 MM1 => then_n ?_))
  refine wp_seq (wp_region_list ?_)
  refine rp_c 3 FF1 MM1 [] 15 [] [] (fun _ wd2 FF2 MM2 => ?_)
  refine st_callE [7, 6, 0, 1, 2, 15] FF2 (d := 15) (mk := fun _ => .tuple #[iN (drN a b r m k X), iN ((uN a b r m k X).2.1)]) (R' := fun _ w9 => Turn g (TB (Y) (u + (uN a b r m k X).2.2)) wd2 w9) en_kdraw rfl rfl (by have h0 := kdraw_any gk g a b r m hk X u hX (by omega) k hk1 hk2 wd2 (hK.at (Has.tl (Has.tl MM2.hasL))) (MM2.get 1 rfl); rw [hY0] at h0; exact h0.mono fun _ _ ⟨h1, h2⟩ => ⟨undef, h1, h2⟩) rfl (by kernel_rfl) (by decide) fun ac4 wd4 lv3 FF4 hr5 => ?_
  have MM6 : MemS (fun k => k < w0.heap.size ∧ ∀ x ∈ (g, oC #[sB X, iN u] 56) :: O, x.1 ≠ k) w0 wd4 ((bc, oC #[iN 0, iN 0, .slice none 0 0] 38) :: (g, oC #[sB Y, iN (u + (uN a b r m k X).2.2)] 56) :: O) [] := MM2.turnAt hr5 1 rfl
  refine rp_c 5 FF4 MM6 [] 9 [9] [] (fun _ _ FF7 MM7 => ?_)
  refine wpl_nil (then_n ?_)
  refine wp_seq ?_
  refine wp_seq (rg_c FF7 MM7 [] 10 [19] [] (fun _ _ FF8 MM8 => then_n ?_))
  by_cases hs19 : ((uN a b r m k X).2.1) ≠ 0
  · refine wp_cond_true ((FF8.ev 0 rfl).trans (dec_t hs19)) ?_
    refine wp_seq (rg_c FF8 MM8 [(0, t_ (aG #[iN 0, iN 0, .slice none 0 0])), (1, b_ 0)] 9 [9] [] (⟨(by kernel_rfl), rfl, rfl, rfl, (by kernel_rfl), rfl, fun _ _ FF9 MM9 => then_n ?_⟩))
    refine wp_ret ?_
    repeat first | refine then_ret ?_ | refine inb_ret ?_
    exact (ret_ct FF9 MM9 (k := 3) (i := 0) (j := 3) (m := 0) Try.results11 rfl rfl rfl Try.underlying38 rfl (by kernel_rfl) rfl (by rw [cvK_one hs19]; exact ⟨.slice none 0 0, rfl, turn_to (MM9.turn (Has.tl H) 1 rfl (fun _ hx => List.mem_cons_of_mem _ (List.mem_cons_of_mem _ (hx)))) (dropc0 hY0) (by simp only; omega), .inl rfl⟩))
  · refine wp_cond_false ((FF8.ev 0 rfl).trans (dec_f hs19)) ?_
    refine wp_skip ?_
    refine then_n ?_
    refine wp_seq (wp_region_list ?_)
    refine rp_c 3 FF8 MM8 [] 26 [] [19] (fun _ wd10 FF10 MM10 => ?_)
    refine st_callE [9, 8, 7, 6, 0, 1, 2, 26] FF10 (d := 26) (mk := fun _ => .tuple #[iN (drN a b r m k Y), iN ((uN a b r m k Y).2.1)]) (R' := fun _ w9 => Turn g (TB (Y.drop (uN a b r m k Y).2.2) ((u + (uN a b r m k X).2.2) + (uN a b r m k Y).2.2)) wd10 w9) en_kdraw rfl rfl (by have h0 := kdraw_any gk g a b r m hk Y (u + (uN a b r m k X).2.2) hYb (by omega) k hk1 hk2 wd10 (hK.at (Has.tl (Has.tl MM10.hasL))) (MM10.get 1 rfl); exact h0.mono fun _ _ ⟨h1, h2⟩ => ⟨undef, h1, h2⟩) rfl (by kernel_rfl) (by decide) fun ac12 wd12 lv11 FF12 hr13 => ?_
    have MM14 : MemS (fun k => k < w0.heap.size ∧ ∀ x ∈ (g, oC #[sB X, iN u] 56) :: O, x.1 ≠ k) w0 wd12 ((bc, oC #[iN 0, iN 0, .slice none 0 0] 38) :: (g, oC #[sB (Y.drop (uN a b r m k Y).2.2), iN ((u + (uN a b r m k X).2.2) + (uN a b r m k Y).2.2)] 56) :: O) [] := MM10.turnAt hr13 1 rfl
    refine rp_c 5 FF12 MM14 [] 11 [] [] (fun _ _ FF15 MM15 => ?_)
    refine wpl_nil (then_n ?_)
    refine wp_seq ?_
    refine wp_seq (rg_c FF15 MM15 [] 11 [30] [] (fun _ _ FF16 MM16 => then_n ?_))
    by_cases hs30 : ((uN a b r m k Y).2.1) ≠ 0
    · refine wp_cond_true ((FF16.ev 0 rfl).trans (dec_t hs30)) ?_
      refine wp_seq (rg_c FF16 MM16 [(0, t_ (aG #[iN 0, iN 0, .slice none 0 0])), (1, b_ 0)] 11 [] [] (⟨(by kernel_rfl), rfl, rfl, rfl, (by kernel_rfl), rfl, fun _ _ FF17 MM17 => then_n ?_⟩))
      refine wp_ret ?_
      repeat first | refine then_ret ?_ | refine inb_ret ?_
      exact (ret_ct FF17 MM17 (k := 3) (i := 0) (j := 4) (m := 0) Try.results11 rfl rfl rfl Try.underlying38 rfl (by kernel_rfl) rfl (by rw [cvK_two hY0 (Decidable.of_not_not hs19) hs30]; exact ⟨.slice none 0 0, rfl, turn_to (MM17.turn (Has.tl H) 1 rfl (fun _ hx => List.mem_cons_of_mem _ (List.mem_cons_of_mem _ (hx)))) (dropc1 hY0 _) (by simp only; omega), .inl rfl⟩))
    · refine wp_cond_false ((FF16.ev 0 rfl).trans (dec_f hs30)) ?_
      refine wp_skip ?_
      refine then_n ?_
      refine wp_seq (wp_region_list ?_)
      refine rp_c 5 FF16 MM16 [] 38 [] [30, 10, 8] (fun _ wd18 FF18 MM18 => ?_)
      refine st_callE [34, 33, 9, 7, 6, 0, 1, 2, 38] FF18 (d := 38) (mk := fun v => .slice (pOf v) (drN a b r m k X + 2 * (drN a b r m k Y)) (cOf v)) en_reqs rfl rfl (reqs_any g (Y.drop (uN a b r m k Y).2.2) ((u + (uN a b r m k X).2.2) + (uN a b r m k Y).2.2) (dropX_lt hYb _) (by omega) (drN a b r m k X) (drN a b r m k Y) (by omega) (by omega) wd18 (MM18.get 1 rfl)) rfl (by kernel_rfl) (by decide) fun ac21 wd21 lv20 FF21 hr22 => ?_
      have hRN := hr22.2
      have hRB := MM18.size
      have ht9 := hr22.1
      have MM23 : MemS (fun k => k < w0.heap.size ∧ ∀ x ∈ (g, oC #[sB X, iN u] 56) :: O, x.1 ≠ k) w0 wd21 ((bc, oC #[iN 0, iN 0, .slice none 0 0] 38) :: (g, oC #[sB ((Y.drop (uN a b r m k Y).2.2).drop (52 * (drN a b r m k X) + 88 * (drN a b r m k Y))), iN (((u + (uN a b r m k X).2.2) + (uN a b r m k Y).2.2) + (52 * (drN a b r m k X) + 88 * (drN a b r m k Y)))] 56) :: O) [] := MM18.turnAt ht9 1 rfl
      obtain ⟨O24, MM250, hR26, hs27⟩ := MemS.addRowT (K := [(bc, oC #[iN 0, iN 0, .slice none 0 0] 38), (g, oC #[sB ((Y.drop (uN a b r m k Y).2.2).drop (52 * (drN a b r m k X) + 88 * (drN a b r m k Y))), iN (((u + (uN a b r m k X).2.2) + (uN a b r m k Y).2.2) + (52 * (drN a b r m k X) + 88 * (drN a b r m k Y)))] 56)]) (O := O) MM18 MM23 rfl hr22.2
      have MM25 : MemS (fun k => k < w0.heap.size ∧ ∀ x ∈ (g, oC #[sB X, iN u] 56) :: O, x.1 ≠ k) w0 wd21 ((bc, oC #[iN 0, iN 0, .slice none 0 0] 38) :: (g, oC #[sB ((Y.drop (uN a b r m k Y).2.2).drop (52 * (drN a b r m k X) + 88 * (drN a b r m k Y))), iN (((u + (uN a b r m k X).2.2) + (uN a b r m k Y).2.2) + (52 * (drN a b r m k X) + 88 * (drN a b r m k Y)))] 56) :: O24) [] := MM250
      have hk28 := hK.mono hs27
      refine rp_c 3 FF21 MM25 [(0, t_ (aG #[iN (drN a b r m k X), iN (drN a b r m k Y), .slice (pOf lv20) (drN a b r m k X + 2 * (drN a b r m k Y)) (cOf lv20)])), (0, b_ 0)] 8 [9] [] (⟨(by kernel_rfl), rfl, rfl, rfl, (by kernel_rfl), rfl, fun _ _ FF29 MM29 => ?_⟩)
      refine wpl_nil (then_n ?_)
      refine wp_ret ?_
      repeat first | refine then_ret ?_ | refine inb_ret ?_
      exact (ret_ct FF29 MM29 (k := 3) (i := 0) (j := 2) (m := 0) Try.results11 rfl rfl rfl Try.underlying38 rfl (by kernel_rfl) rfl (by rw [cvK_ok hY0 (Decidable.of_not_not hs19) (Decidable.of_not_not hs30)]; exact ⟨lv20, rfl, turn_to (MM29.turn (Has.tl H) 1 rfl (fun _ hx => List.mem_cons_of_mem _ (List.mem_cons_of_mem _ (hs27 _ hx)))) (dropc2 hY0 _ _) (by simp only; omega), by rw [← List.drop_drop, hY0]; exact rowNew_keep (rowNew_base hRN hRB) (hR26.at (Has.tl (Has.tl MM29.hasL)))⟩))
end Go.Proofs.Ythgfjeljfiadmaa
namespace Go.Proofs.Ythgfjeljfiadmaa
open Go.RowKit
set_option maxRecDepth 100000 in
theorem mk_tloO (O : Blks) (hD : Distinct O) (gk : Nat) (g : Nat) (a b r m : Nat) (hk : TOk a b r m) (t : Int) (hz : t < 1) (hK : KO O gk a b r m) (w0 : World) (H : Has w0 O) :
    Calls Try.prog 11 #[pT g, pT gk, .int .i64 t] w0 fun e w' => e = .returned (.tuple #[.agg #[iN 0, iN 0, .slice none 0 0], iN 1]) ∧ Below w0.heap.size w0 w' := by
  refine enter_fr Try.func11 rfl Try.ntmps11 (by simp) fun ac (FF : Fr 40 ac [(0, pT g), (1, pT gk), (2, .int .i64 (t : Int))]) => ?_
  have MM : MemS (fun k => k < w0.heap.size ∧ ∀ x ∈ O, x.1 ≠ k) w0 w0 O [] := MemS.startN H hD
  refine wp_seq (rg_c FF MM [] 8 [] [] (fun bc => fun _ _ FF1 MM1 => then_n ?_))
  refine wp_seq (rg_c FF1 MM1 [(3, u_ 1 (.tuple #[iN 0, iN 1]))] 9 [9] [] (⟨⟨en_kdraw, fun w Hw => kdraw_tlo gk g a b r m hk t hz w (hK.at (Has.tl Hw))⟩, fun _ _ FF2 MM2 => then_n ?_⟩))
  refine wp_seq ?_
  refine wp_seq (rg_c FF2 MM2 [(1, w_ 2)] 10 [19] [] (⟨by decide, fun _ _ FF3 MM3 => then_n ?_⟩))
  refine wp_cond_true (FF3.ev 0 rfl) ?_
  refine wp_seq (rg_c FF3 MM3 [(0, t_ (aG #[iN 0, iN 0, .slice none 0 0])), (1, b_ 0)] 9 [9] [] (⟨(by kernel_rfl), rfl, rfl, rfl, (by kernel_rfl), rfl, fun _ _ FF4 MM4 => then_n ?_⟩))
  refine wp_ret ?_
  repeat first | refine then_ret ?_ | refine inb_ret ?_
  exact (ret_ct FF4 MM4 (k := 3) (i := 0) (j := 3) (m := 0) Try.results11 rfl rfl rfl Try.underlying38 rfl (by kernel_rfl) rfl ⟨rfl, MM4.belowN H (fun _ hx => List.mem_cons_of_mem _ (hx))⟩)
theorem mk_tlo (gk : Nat) (g : Nat) (a b r m : Nat) (hk : TOk a b r m) (t : Int) (hz : t < 1) (w : World) (hgk : w.heap[gk]? = some (KB a b r m)) : Calls Try.prog 11 #[pT g, pT gk, .int .i64 t] w fun e w' => e = .returned (.tuple #[.agg #[iN 0, iN 0, .slice none 0 0], iN 1]) ∧ Below w.heap.size w w' := by
  obtain ⟨O, h1, h2, h3⟩ := kone_O hgk
  exact mk_tloO O h2 gk g a b r m hk t hz h3 w h1
set_option maxRecDepth 100000 in
theorem mk_thiO (O : Blks) (hD : Distinct O) (gk : Nat) (g : Nat) (a b r m : Nat) (hk : TOk a b r m) (t : Int) (hz : t > 16) (hK : KO O gk a b r m) (w0 : World) (H : Has w0 O) :
    Calls Try.prog 11 #[pT g, pT gk, .int .i64 t] w0 fun e w' => e = .returned (.tuple #[.agg #[iN 0, iN 0, .slice none 0 0], iN 1]) ∧ Below w0.heap.size w0 w' := by
  refine enter_fr Try.func11 rfl Try.ntmps11 (by simp) fun ac (FF : Fr 40 ac [(0, pT g), (1, pT gk), (2, .int .i64 (t : Int))]) => ?_
  have MM : MemS (fun k => k < w0.heap.size ∧ ∀ x ∈ O, x.1 ≠ k) w0 w0 O [] := MemS.startN H hD
  refine wp_seq (rg_c FF MM [] 8 [] [] (fun bc => fun _ _ FF1 MM1 => then_n ?_))
  refine wp_seq (rg_c FF1 MM1 [(3, u_ 1 (.tuple #[iN 0, iN 1]))] 9 [9] [] (⟨⟨en_kdraw, fun w Hw => kdraw_thi gk g a b r m hk t hz w (hK.at (Has.tl Hw))⟩, fun _ _ FF2 MM2 => then_n ?_⟩))
  refine wp_seq ?_
  refine wp_seq (rg_c FF2 MM2 [(1, w_ 2)] 10 [19] [] (⟨by decide, fun _ _ FF3 MM3 => then_n ?_⟩))
  refine wp_cond_true (FF3.ev 0 rfl) ?_
  refine wp_seq (rg_c FF3 MM3 [(0, t_ (aG #[iN 0, iN 0, .slice none 0 0])), (1, b_ 0)] 9 [9] [] (⟨(by kernel_rfl), rfl, rfl, rfl, (by kernel_rfl), rfl, fun _ _ FF4 MM4 => then_n ?_⟩))
  refine wp_ret ?_
  repeat first | refine then_ret ?_ | refine inb_ret ?_
  exact (ret_ct FF4 MM4 (k := 3) (i := 0) (j := 3) (m := 0) Try.results11 rfl rfl rfl Try.underlying38 rfl (by kernel_rfl) rfl ⟨rfl, MM4.belowN H (fun _ hx => List.mem_cons_of_mem _ (hx))⟩)
theorem mk_thi (gk : Nat) (g : Nat) (a b r m : Nat) (hk : TOk a b r m) (t : Int) (hz : t > 16) (w : World) (hgk : w.heap[gk]? = some (KB a b r m)) : Calls Try.prog 11 #[pT g, pT gk, .int .i64 t] w fun e w' => e = .returned (.tuple #[.agg #[iN 0, iN 0, .slice none 0 0], iN 1]) ∧ Below w.heap.size w w' := by
  obtain ⟨O, h1, h2, h3⟩ := kone_O hgk
  exact mk_thiO O h2 gk g a b r m hk t hz h3 w h1
set_option maxRecDepth 100000 in
theorem mk_pnilO (O : Blks) (hD : Distinct O) (gk : Nat) (a b r m : Nat) (hk : TOk a b r m) (t : Int) (hK : KO O gk a b r m) (w0 : World) (H : Has w0 O) :
    Calls Try.prog 11 #[.pointer none, pT gk, .int .i64 t] w0 fun e w' => e = .returned (.tuple #[.agg #[iN 0, iN 0, .slice none 0 0], iN 1]) ∧ Below w0.heap.size w0 w' := by
  refine enter_fr Try.func11 rfl Try.ntmps11 (by simp) fun ac (FF : Fr 40 ac [(0, .pointer none), (1, pT gk), (2, .int .i64 (t : Int))]) => ?_
  have MM : MemS (fun k => k < w0.heap.size ∧ ∀ x ∈ O, x.1 ≠ k) w0 w0 O [] := MemS.startN H hD
  refine wp_seq (rg_c FF MM [] 8 [] [] (fun bc => fun _ _ FF1 MM1 => then_n ?_))
  refine wp_seq (rg_c FF1 MM1 [(3, u_ 1 (.tuple #[iN 0, iN 1]))] 9 [9] [] (⟨⟨en_kdraw, fun w Hw => kdraw_pnil gk a b r m hk t w (hK.at (Has.tl Hw))⟩, fun _ _ FF2 MM2 => then_n ?_⟩))
  refine wp_seq ?_
  refine wp_seq (rg_c FF2 MM2 [(1, w_ 2)] 10 [19] [] (⟨by decide, fun _ _ FF3 MM3 => then_n ?_⟩))
  refine wp_cond_true (FF3.ev 0 rfl) ?_
  refine wp_seq (rg_c FF3 MM3 [(0, t_ (aG #[iN 0, iN 0, .slice none 0 0])), (1, b_ 0)] 9 [9] [] (⟨(by kernel_rfl), rfl, rfl, rfl, (by kernel_rfl), rfl, fun _ _ FF4 MM4 => then_n ?_⟩))
  refine wp_ret ?_
  repeat first | refine then_ret ?_ | refine inb_ret ?_
  exact (ret_ct FF4 MM4 (k := 3) (i := 0) (j := 3) (m := 0) Try.results11 rfl rfl rfl Try.underlying38 rfl (by kernel_rfl) rfl ⟨rfl, MM4.belowN H (fun _ hx => List.mem_cons_of_mem _ (hx))⟩)
theorem mk_pnil (gk : Nat) (a b r m : Nat) (hk : TOk a b r m) (t : Int) (w : World) (hgk : w.heap[gk]? = some (KB a b r m)) : Calls Try.prog 11 #[.pointer none, pT gk, .int .i64 t] w fun e w' => e = .returned (.tuple #[.agg #[iN 0, iN 0, .slice none 0 0], iN 1]) ∧ Below w.heap.size w w' := by
  obtain ⟨O, h1, h2, h3⟩ := kone_O hgk
  exact mk_pnilO O h2 gk a b r m hk t h3 w h1
theorem mk_any (g gk : Nat) (a b r m : Nat) (hk : TOk a b r m) (X : List Nat) (u : Nat) (hX : ∀ i, X.getD i 0 < 256) (hu : u < 4611686018400000000) (z : Int) (w0 : World) (hgk : w0.heap[gk]? = some (KB a b r m)) (hg : w0.heap[g]? = some (TB X u)) :
    Calls Try.prog 11 #[pT g, pT gk, .int .i64 z] w0 fun e w' => ∃ v, e = .returned (.tuple #[.agg #[iN ((cvZ a b r m z X).2.1), iN ((cvZ a b r m z X).2.2.1), .slice (pOf v) ((cvZ a b r m z X).2.1 + 2 * (cvZ a b r m z X).2.2.1) (cOf v)], iN ((cvZ a b r m z X).1)]) ∧ Turn g (TB (X.drop ((cvZ a b r m z X).2.2.2 + (52 * (cvZ a b r m z X).2.1 + 88 * (cvZ a b r m z X).2.2.1))) (u + ((cvZ a b r m z X).2.2.2 + (52 * (cvZ a b r m z X).2.1 + 88 * (cvZ a b r m z X).2.2.1)))) w0 w' ∧ RowNew w0.heap.size w' (pOf v) ((cvZ a b r m z X).2.1 + 2 * (cvZ a b r m z X).2.2.1) (fun k9 => sB (reqC (cvZ a b r m z X).2.1 (X.drop (cvZ a b r m z X).2.2.2) k9)) := by
  by_cases hz : 1 ≤ z ∧ z ≤ 16
  · obtain ⟨k, rfl⟩ := Int.eq_ofNat_of_zero_le (a := z) (by omega)
    rw [cvZ_nat (by omega) (by omega)]
    have hne : gk ≠ g := fun e => by subst e; rw [hg] at hgk; simp at hgk
    refine mk_O g gk a b r m hk X u hX hu k (by omega) (by omega) [(gk, KB a b r m)] (by simp [KO]) w0 (fun i x hx => ?_) ⟨fun y hy => ?_, fun y hy => (nomatch hy), trivial⟩
    · match i with
      | 0 => simp at hx; subst hx; exact hg
      | 1 => simp at hx; subst hx; exact hgk
      | i + 2 => simp at hx
    · simp at hy; subst hy; exact fun e => hne (by first | exact e | exact e.symm)
  · rw [cvZ_bad (by omega)]
    have h : Calls Try.prog 11 #[pT g, pT gk, .int .i64 z] w0 fun e w' => e = .returned (.tuple #[.agg #[iN 0, iN 0, .slice none 0 0], iN 1]) ∧ Below w0.heap.size w0 w' := by
      by_cases h1 : z < 1
      · exact mk_tlo gk g a b r m hk z h1 w0 hgk
      · exact mk_thi gk g a b r m hk z (by omega) w0 hgk
    exact h.mono fun e w' ⟨h1, h2⟩ => ⟨.slice none 0 0, h1, Turn.of_below hg h2, .inl rfl⟩
end Go.Proofs.Ythgfjeljfiadmaa
namespace Go.Proofs.Ythgfjeljfiadmaa
open Go.RowKit
theorem rturn_to {g : Nat} {X : List Nat} {u u' : Nat} {w w' : World} (h : Turn g (RB X u) w w') (e2 : u = u') : Turn g (RB X u') w w' := by subst e2; exact h
set_option maxRecDepth 100000 in
theorem rmk_ok (g : Nat) (a b r m : Nat) (hk : TOk a b r m) (X : List Nat) (u : Nat) (hX : ∀ i, X.getD i 0 < 256) (hu : u < 4611686018400000000) (k : Nat) (hk1 : 1 ≤ k) (hk2 : k ≤ 16) (w0 : World) (hg : w0.heap[g]? = some (RB X u)) :
    Calls Try.prog 12 #[pT g, .agg #[iN a, iN b, iN r, iN m], iN k] w0 fun e w' => ∃ v, e = .returned (.tuple #[.agg #[iN ((cvK a b r m k (X.drop u)).2.1), iN ((cvK a b r m k (X.drop u)).2.2.1), .slice (pOf v) ((cvK a b r m k (X.drop u)).2.1 + 2 * (cvK a b r m k (X.drop u)).2.2.1) (cOf v)], iN ((cvK a b r m k (X.drop u)).1)]) ∧ Turn g (RB X (u + ((cvK a b r m k (X.drop u)).2.2.2 + (52 * (cvK a b r m k (X.drop u)).2.1 + 88 * (cvK a b r m k (X.drop u)).2.2.1)))) w0 w' ∧ RowNew w0.heap.size w' (pOf v) ((cvK a b r m k (X.drop u)).2.1 + 2 * (cvK a b r m k (X.drop u)).2.2.1) (fun k9 => sB (reqC (cvK a b r m k (X.drop u)).2.1 ((X.drop u).drop (cvK a b r m k (X.drop u)).2.2.2) k9)) := by
  have ⟨k1, k2, k3, k4, k5⟩ := hk
  refine enter_fr Try.func12 rfl Try.ntmps12 (by simp) fun ac (FF : Fr 91 ac [(0, pT g), (1, aG #[iN a, iN b, iN r, iN m]), (2, iN k)]) => ?_
  have MM : MemS (fun k => k < w0.heap.size ∧ ∀ x ∈ (g, oC #[sB X, iN u] 35) :: ([] : Blks), x.1 ≠ k) w0 w0 ((g, oC #[sB X, iN u] 35) :: ([] : Blks)) [] := MemS.startN (one_has hg) ⟨fun y hy => (nomatch hy), trivial⟩
  obtain ⟨Z, hZ⟩ : ∃ Z, X.drop u = Z := ⟨_, rfl⟩
  obtain ⟨Y, hY0⟩ : ∃ Y, Z.drop (uN a b r m k Z).2.2 = Y := ⟨_, rfl⟩
  obtain ⟨o, ho⟩ : ∃ o, drN a b r m k Z = o := ⟨_, rfl⟩
  obtain ⟨t, ht⟩ : ∃ t, drN a b r m k Y = t := ⟨_, rfl⟩
  obtain ⟨U, hU⟩ : ∃ U, u + (uN a b r m k Z).2.2 + (uN a b r m k Y).2.2 = U := ⟨_, rfl⟩
  have hb1 : (uN a b r m k Z).2.2 ≤ 48 := un_bd hk hk2
  have hb2 : (uN a b r m k Y).2.2 ≤ 48 := un_bd hk hk2
  have ho8 : o ≤ 8 := ho ▸ dr_8 hk
  have ht8 : t ≤ 8 := ht ▸ dr_8 hk
  have hV : X.drop U = Z.drop ((uN a b r m k Z).2.2 + (uN a b r m k Y).2.2) := by rw [← hU, ← hZ, List.drop_drop, Nat.add_assoc]
  refine wp_seq (rg_c FF MM [] 8 [] [1] (fun bt => fun bc => fun _ _ FF1 MM1 => then_n ?_))
  refine wp_seq ?_
  refine wp_seq (rg_c FF1 MM1 [(1, t_ (.bool true))] 8 [21] [] (⟨(callP_of en_tries (tries_yes k (by omega) (by omega)) _), fun _ _ FF2 MM2 => then_n ?_⟩))
  refine wp_cond_false (FF2.ev 0 rfl) ?_
  refine wp_skip ?_
  refine then_n ?_
  refine wp_seq (rg_c FF2 MM2 [(0, b_ 1), (2, c_ (.tuple #[iN o, iN ((uN a b r m k Z).2.1)]) [(2, oC #[sB X, iN (u + (uN a b r m k Z).2.2)] 35)])] 9 [9] [] (⟨rfl, rfl, (callU_turn en_qdraw (g := g) (ob := RB X u) rfl fun w hg => by have h0 := qdraw_any g a b r m hk X u hX (by omega) k hk1 hk2 w hg; rw [hZ, ho] at h0; exact h0), fun _ _ FF3 MM3 => then_n ?_⟩))
  refine wp_seq ?_
  refine wp_seq (rg_c FF3 MM3 [] 10 [31] [] (fun _ _ FF4 MM4 => then_n ?_))
  by_cases hs31 : ((uN a b r m k Z).2.1) ≠ 0
  · refine wp_cond_true ((FF4.ev 0 rfl).trans (dec_t hs31)) ?_
    refine wp_seq (rg_c FF4 MM4 [(0, t_ (aG #[iN 0, iN 0, .slice none 0 0])), (1, b_ 0)] 9 [9] [] (⟨(by kernel_rfl), rfl, rfl, rfl, (by kernel_rfl), rfl, fun _ _ FF5 MM5 => then_n ?_⟩))
    refine wp_ret ?_
    repeat first | refine then_ret ?_ | refine inb_ret ?_
    exact (ret_ct FF5 MM5 (k := 3) (i := 0) (j := 3) (m := 0) Try.results12 rfl rfl rfl Try.underlying41 rfl (by kernel_rfl) rfl (by rw [hZ, cvK_one hs31]; exact ⟨.slice none 0 0, rfl, rturn_to (MM5.turn (O := []) (fun i x hx => by simp at hx) 2 rfl (fun x hx => (nomatch hx))) (by simp only; omega), .inl rfl⟩))
  · refine wp_cond_false ((FF4.ev 0 rfl).trans (dec_f hs31)) ?_
    refine wp_skip ?_
    refine then_n ?_
    refine wp_seq (rg_c FF4 MM4 [(0, b_ 1), (2, c_ (.tuple #[iN t, iN ((uN a b r m k Y).2.1)]) [(2, oC #[sB X, iN U] 35)])] 11 [] [] (⟨rfl, rfl, (callU_turn en_qdraw (g := g) (ob := RB X (u + (uN a b r m k Z).2.2)) rfl fun w hg => by have h0 := qdraw_any g a b r m hk X (u + (uN a b r m k Z).2.2) hX (by omega) k hk1 hk2 w hg; rw [← List.drop_drop, hZ, hY0, ht, hU] at h0; exact h0), fun _ _ FF6 MM6 => then_n ?_⟩))
    refine wp_seq ?_
    refine wp_seq (rg_c FF6 MM6 [] 11 [42] [] (fun _ _ FF7 MM7 => then_n ?_))
    by_cases hs42 : ((uN a b r m k Y).2.1) ≠ 0
    · refine wp_cond_true ((FF7.ev 0 rfl).trans (dec_t hs42)) ?_
      refine wp_seq (rg_c FF7 MM7 [(0, t_ (aG #[iN 0, iN 0, .slice none 0 0])), (1, b_ 0)] 11 [] [] (⟨(by kernel_rfl), rfl, rfl, rfl, (by kernel_rfl), rfl, fun _ _ FF8 MM8 => then_n ?_⟩))
      refine wp_ret ?_
      repeat first | refine then_ret ?_ | refine inb_ret ?_
      exact (ret_ct FF8 MM8 (k := 3) (i := 0) (j := 4) (m := 0) Try.results12 rfl rfl rfl Try.underlying41 rfl (by kernel_rfl) rfl (by rw [hZ, cvK_two hY0 (Decidable.of_not_not hs31) hs42]; exact ⟨.slice none 0 0, rfl, rturn_to (MM8.turn (O := []) (fun i x hx => by simp at hx) 2 rfl (fun x hx => (nomatch hx))) (by simp only; omega), .inl rfl⟩))
    · refine wp_cond_false ((FF7.ev 0 rfl).trans (dec_f hs42)) ?_
      refine wp_skip ?_
      refine then_n ?_
      refine wp_seq (rg_c FF7 MM7 [(2, t_ (aG #[iN o, iN t, .slice none 0 0])), (1, b_ 0)] 12 [] [] (⟨(by kernel_rfl), fun bv => ⟨rfl, rfl, rfl, (by kernel_rfl), rfl, fun _ _ FF9 MM9 => then_n ?_⟩⟩))
      have MMn10 := MM9.rowNil 9 1
      refine wp_seq ?_
      refine wp_seq (rg_c FF9 MMn10 [] 13 [] [] (fun _ _ FF11 MM11 => then_n ?_))
      refine wp_for2 (fun a' w' => ∃ rv : Value, ∃ i : Nat, i ≤ o ∧ Fr 91 a' [(12, iN i), (11, pT bv), (9, iN ((uN a b r m k Y).2.1)), (10, iN t), (8, iN o), (7, iN 0), (6, pT bc), (4, pT bt), (0, pT g), (2, iN k)] ∧ MemS (fun k => k < w0.heap.size ∧ ∀ x ∈ (g, oC #[sB X, iN u] 35) :: ([] : Blks), x.1 ≠ k) w0 w' ((bv, oC #[iN o, iN t, rv] 41) :: (bc, oC #[iN 0, iN 0, .slice none 0 0] 41) :: (bt, oC #[iN a, iN b, iN r, iN m] 25) :: (g, oC #[sB X, iN (U + 52 * i)] 35) :: ([] : Blks)) [(rv, 9, 1, i, (fv i (fun k9 => sB (reqC o (X.drop U) k9))))]) (fun a' _ => (o - cnt 12 a').toNat) ⟨(.slice none 0 0), 0, Nat.zero_le _, FF11.pick [0, 1, 2, 3, 4, 5, 6, 7, 8, 9], MM11⟩ ?_
      rintro ac12 wd12 ⟨rv, i, hi, FF12, MM12⟩
      have hc := cnt_of (FF12.get 0 rfl)
      refine rg_c FF12 MM12 [] 13 [50] [] (fun _ _ FF13 MM13 => ?_)
      by_cases hlt : i < o
      · skip
        refine then_n (.inl ⟨(FF13.ev 0 rfl).trans (dec_t hlt), ?_⟩)
        refine wp_seq (rg_c FF13 MM13 [(1, c_ (.agg (cn .u8 (takN 16 ((X.drop U).drop (52 * i))))) [(3, oC #[sB X, iN (U + 52 * i + 16)] 35)]), (0, s_ 0 (.cells (cn .u8 (List.replicate 16 0)) 61)), (0, b_ 0)] 14 [] [] (⟨(callU_turn en_rid_ (g := g) (ob := RB X (U + 52 * i)) rfl fun w hg => by have h0 := rid__any g X (U + 52 * i) hX (by omega) w hg; rw [← List.drop_drop] at h0; exact h0), (by kernel_rfl), fun bd => ⟨rfl, ((cn_size _ _).trans (List.length_replicate ..)), ((cn_size _ _).trans (takN_len _ _)), (cn_one _ _), rfl, fun _ _ FF14 MM14 => then_n ?_⟩⟩))
        refine wp_seq (rg_c FF14 MM14 [(1, c_ (sB (takN 36 ((X.drop U).drop (52 * i + 16)))) [(4, oC #[sB X, iN (U + 52 * (i + 1))] 35)])] 15 [] [] (⟨(callU_turn en_rtake (g := g) (ob := RB X (U + 52 * i + 16)) rfl fun w hg => by have h0 := rtake_any g 36 X (U + 52 * i + 16) hX (by omega) (by decide) w hg; rw [Nat.add_assoc, ← List.drop_drop] at h0; exact h0), fun _ _ FF15 MM15 => then_n ?_⟩))
        refine rg_drawL FF15 MM15 [.inl (.pointer (some ⟨bv, 2, none⟩)), .inl (rv), .inl (.slice (some ⟨bd, 0, none⟩) 16 16), .inl (sB (takN 16 ((X.drop U).drop (52 * i)))), .inl (sB (takN 36 ((X.drop U).drop (52 * i + 16)))), .inl (sB (reqC o (X.drop U) i)), .inr (oC #[sB (reqC o (X.drop U) i)] 9, fun b => .slice (some ⟨b, 0, none⟩) 1 1)] [] [o_, l_ 1 (rv), o_, l_ 0 (sB (takN 16 ((X.drop U).drop (52 * i)))), o_, t_ (sB (reqC o (X.drop U) i)), o_] [63, 58, 14, 13, 12, 11, 9, 10, 8, 7, 6, 4, 0, 2] (fun nb => [bv = bv, (#[iN o, iN t, rv] : Array Value)[2]? = some (rv), 0 ≤ 16, 16 ≤ 16, 0 < 16, bd = bd, StrAt (cn .u8 (takN 16 ((X.drop U).drop (52 * i)))) 0 16 (bs (takN 16 ((X.drop U).drop (52 * i)))), (bs (takN 16 ((X.drop U).drop (52 * i)))).size + (bs (takN 36 ((X.drop U).drop (52 * i + 16)))).size ≤ 9223372036854775807, Value.string (bs (takN 16 ((X.drop U).drop (52 * i))) ++ bs (takN 36 ((X.drop U).drop (52 * i + 16)))) = sB (reqC o (X.drop U) i)]) (by kernel_rfl) (by kernel_rfl) (by kernel_rfl) (fun _ => by kernel_rfl) (trivial) (fun nb => ⟨rfl, rfl, by decide, by decide, by decide, rfl, (str_all (takN_len _ _) (takN_lt (dropX_lt (dropX_lt hX _) _) 16)), (by simp only [bs_size, takN_len]; omega), (vS2 ((bs_app _ _).trans (congrArg bs (reqC_one (X.drop U) hlt)))), trivial⟩) fun nb ac16 wd16 (FF16 : Fr 91 ac16 [(63, .slice (some ⟨(nb 6), 0, none⟩) 1 1), (58, rv), (14, sB (takN 36 ((X.drop U).drop (52 * i + 16)))), (13, pT bd), (12, iN i), (11, pT bv), (9, iN ((uN a b r m k Y).2.1)), (10, iN t), (8, iN o), (7, iN 0), (6, pT bc), (4, pT bt), (0, pT g), (2, iN k)]) (MM16 : MemS (fun k => k < w0.heap.size ∧ ∀ x ∈ (g, oC #[sB X, iN u] 35) :: ([] : Blks), x.1 ≠ k) w0 wd16 ((bd, .cells (cn .u8 (takN 16 ((X.drop U).drop (52 * i)))) 61) :: (bv, oC #[iN o, iN t, rv] 41) :: (bc, oC #[iN 0, iN 0, .slice none 0 0] 41) :: (bt, oC #[iN a, iN b, iN r, iN m] 25) :: (g, oC #[sB X, iN (U + 52 * (i + 1))] 35) :: ([] : Blks)) [(rv, 9, 1, i, (fv i (fun k9 => sB (reqC o (X.drop U) k9))))]) hfx17 => ?_
        have hb_bq : wd16.heap[nb 6]? = some (oC #[sB (reqC o (X.drop U) i)] 9) := hfx17.1.2
        clear hfx17
        generalize nb 6 = bq at *
        refine st_app [14, 13, 12, 11, 9, 10, 8, 7, 6, 4, 0, 2, 64] FF16 MM16 (d := 64) (s := 58) (x := 63) (Y := [sB (reqC o (X.drop U) i)]) (z := sB []) (bb := 16) rfl rfl rfl rfl (lies_lit hb_bq) (fun u hu => by rw [List.mem_singleton.1 hu]; rfl) (by decide) Try.underlying36 (by kernel_rfl) rfl (by decide) (by simp only [maxLen]; omega) (by omega) rfl rfl (by decide) fun ac20 wd20 rv19 FF20 MM20 => ?_
        have MMr21 : MemS _ _ _ _ [(rv19, 9, 1, (i + 1), (fv (i + 1) (fun k9 => sB (reqC o (X.drop U) k9))))] := MM20.eqR (by rw [show (fv (i + 1) (fun k9 => sB (reqC o (X.drop U) k9))) = ((fv i (fun k9 => sB (reqC o (X.drop U) k9))) ++ [sB (reqC o (X.drop U) i)]) from (fv_succ _ _).symm] <;> rfl)
        obtain ⟨pa, ca, rfl, _⟩ := MMr21.rowLen
        refine rp_c 2 FF20 MMr21 [(1, s_ 1 (oC #[iN o, iN t, .slice pa (i + 1) ca] 41))] 15 [] [] (⟨rfl, (by simp), (.inl rfl), rfl, fun _ _ FF22 MM22 => ?_⟩)
        refine wpl_nil ?_
        refine inb_n (then_n ?_)
        refine rg_c FF22 MM22 [] 15 [] [] (⟨by omega, fun _ _ FF23 MM23 => ?_⟩)
        have hd := cnt_of (FF23.get 0 rfl)
        refine then_n ⟨⟨.slice pa (i + 1) ca, i + 1, by omega, FF23.pick [0, 3, 4, 5, 6, 7, 8, 9, 10, 11], (MM23.dropAt 0)⟩, ?_⟩
        rw [hc, hd]; omega
      · skip
        refine then_n (.inr ⟨(FF13.ev 0 rfl).trans (dec_f hlt), ?_⟩)
        obtain rfl : o = i := by omega
        refine then_n ?_
        refine wp_seq ?_
        refine wp_seq (rg_c FF13 MM13 [] 16 [] [] (fun _ _ FF24 MM24 => then_n ?_))
        refine wp_for2 (fun a' w' => ∃ rv2 : Value, ∃ j : Nat, j ≤ t ∧ Fr 91 a' [(15, iN j), (11, pT bv), (9, iN ((uN a b r m k Y).2.1)), (10, iN t), (8, iN o), (7, iN 0), (6, pT bc), (4, pT bt), (0, pT g), (2, iN k)] ∧ MemS (fun k => k < w0.heap.size ∧ ∀ x ∈ (g, oC #[sB X, iN u] 35) :: ([] : Blks), x.1 ≠ k) w0 w' ((bv, oC #[iN o, iN t, rv2] 41) :: (bc, oC #[iN 0, iN 0, .slice none 0 0] 41) :: (bt, oC #[iN a, iN b, iN r, iN m] 25) :: (g, oC #[sB X, iN (U + (52 * o + 88 * j))] 35) :: ([] : Blks)) [(rv2, 9, 1, o + 2 * j, (fv (o + 2 * j) (fun k9 => sB (reqC o (X.drop U) k9))))]) (fun a' _ => (t - cnt 15 a').toNat) ⟨rv, 0, Nat.zero_le _, FF24.pick [0, 2, 3, 4, 5, 6, 7, 8, 9, 10], MM24⟩ ?_
        rintro ac25 wd25 ⟨rv2, j, hj, FF25, MM25⟩
        have hc := cnt_of (FF25.get 0 rfl)
        refine rg_c FF25 MM25 [] 16 [68] [] (fun _ _ FF26 MM26 => ?_)
        by_cases hlt : j < t
        · skip
          refine then_n (.inl ⟨(FF26.ev 0 rfl).trans (dec_t hlt), ?_⟩)
          refine wp_seq (rg_c FF26 MM26 [(1, c_ (.agg (cn .u8 (takN 16 ((X.drop U).drop (52 * o + 88 * j))))) [(3, oC #[sB X, iN (U + (52 * o + 88 * j) + 16)] 35)]), (0, s_ 0 (.cells (cn .u8 (List.replicate 16 0)) 61)), (0, b_ 0)] 17 [] [] (⟨(callU_turn en_rid_ (g := g) (ob := RB X (U + (52 * o + 88 * j))) rfl fun w hg => by have h0 := rid__any g X (U + (52 * o + 88 * j)) hX (by omega) w hg; rw [← List.drop_drop] at h0; exact h0), (by kernel_rfl), fun be => ⟨rfl, ((cn_size _ _).trans (List.length_replicate ..)), ((cn_size _ _).trans (takN_len _ _)), (cn_one _ _), rfl, fun _ _ FF27 MM27 => then_n ?_⟩⟩))
          refine wp_seq (rg_c FF27 MM27 [(1, c_ (sB (takN 36 ((X.drop U).drop (52 * o + 88 * j + 16)))) [(4, oC #[sB X, iN (U + (52 * o + 88 * j) + 52)] 35)])] 18 [] [] (⟨(callU_turn en_rtake (g := g) (ob := RB X (U + (52 * o + 88 * j) + 16)) rfl fun w hg => by have h0 := rtake_any g 36 X (U + (52 * o + 88 * j) + 16) hX (by omega) (by decide) w hg; rw [Nat.add_assoc, ← List.drop_drop] at h0; exact h0), fun _ _ FF28 MM28 => then_n ?_⟩))
          refine wp_seq (rg_c FF28 MM28 [(1, c_ (sB (takN 36 ((X.drop U).drop (52 * o + 88 * j + 52)))) [(4, oC #[sB X, iN (U + (52 * o + 88 * (j + 1)))] 35)])] 19 [] [] (⟨(callU_turn en_rtake (g := g) (ob := RB X (U + (52 * o + 88 * j) + 52)) rfl fun w hg => by have h0 := rtake_any g 36 X (U + (52 * o + 88 * j) + 52) hX (by omega) (by decide) w hg; rw [Nat.add_assoc, ← List.drop_drop] at h0; exact h0), fun _ _ FF29 MM29 => then_n ?_⟩))
          refine rg_drawL FF29 MM29 [.inl (.pointer (some ⟨bv, 2, none⟩)), .inl (rv2), .inl (.slice (some ⟨be, 0, none⟩) 16 16), .inl (sB (takN 16 ((X.drop U).drop (52 * o + 88 * j)))), .inl (sB (takN 36 ((X.drop U).drop (52 * o + 88 * j + 16)))), .inl (sB (reqC o (X.drop U) (o + 2 * j))), .inl (.slice (some ⟨be, 0, none⟩) 16 16), .inl (sB (takN 16 ((X.drop U).drop (52 * o + 88 * j)))), .inl (sB (takN 36 ((X.drop U).drop (52 * o + 88 * j + 52)))), .inl (sB (reqC o (X.drop U) (o + 2 * j + 1))), .inr (oC #[sB (reqC o (X.drop U) (o + 2 * j)), sB (reqC o (X.drop U) (o + 2 * j + 1))] 9, fun b => .slice (some ⟨b, 0, none⟩) 2 2)] [] [o_, l_ 1 (rv2), o_, l_ 0 (sB (takN 16 ((X.drop U).drop (52 * o + 88 * j)))), o_, t_ (sB (reqC o (X.drop U) (o + 2 * j))), o_, l_ 0 (sB (takN 16 ((X.drop U).drop (52 * o + 88 * j)))), o_, t_ (sB (reqC o (X.drop U) (o + 2 * j + 1))), o_] [87, 78, 18, 17, 16, 15, 11, 9, 10, 8, 7, 6, 4, 0, 2] (fun nb => [bv = bv, (#[iN o, iN t, rv2] : Array Value)[2]? = some (rv2), 0 ≤ 16, 16 ≤ 16, 0 < 16, be = be, StrAt (cn .u8 (takN 16 ((X.drop U).drop (52 * o + 88 * j)))) 0 16 (bs (takN 16 ((X.drop U).drop (52 * o + 88 * j)))), (bs (takN 16 ((X.drop U).drop (52 * o + 88 * j)))).size + (bs (takN 36 ((X.drop U).drop (52 * o + 88 * j + 16)))).size ≤ 9223372036854775807, Value.string (bs (takN 16 ((X.drop U).drop (52 * o + 88 * j))) ++ bs (takN 36 ((X.drop U).drop (52 * o + 88 * j + 16)))) = sB (reqC o (X.drop U) (o + 2 * j)), 0 ≤ 16, 16 ≤ 16, 0 < 16, be = be, StrAt (cn .u8 (takN 16 ((X.drop U).drop (52 * o + 88 * j)))) 0 16 (bs (takN 16 ((X.drop U).drop (52 * o + 88 * j)))), (bs (takN 16 ((X.drop U).drop (52 * o + 88 * j)))).size + (bs (takN 36 ((X.drop U).drop (52 * o + 88 * j + 52)))).size ≤ 9223372036854775807, Value.string (bs (takN 16 ((X.drop U).drop (52 * o + 88 * j))) ++ bs (takN 36 ((X.drop U).drop (52 * o + 88 * j + 52)))) = sB (reqC o (X.drop U) (o + 2 * j + 1))]) (by kernel_rfl) (by kernel_rfl) (by kernel_rfl) (fun _ => by kernel_rfl) (trivial) (fun nb => ⟨rfl, rfl, by decide, by decide, by decide, rfl, (str_all (takN_len _ _) (takN_lt (dropX_lt (dropX_lt hX _) _) 16)), (by simp only [bs_size, takN_len]; omega), (vS2 ((bs_app _ _).trans (congrArg bs (reqC_a o j (X.drop U))))), by decide, by decide, by decide, rfl, (str_all (takN_len _ _) (takN_lt (dropX_lt (dropX_lt hX _) _) 16)), (by simp only [bs_size, takN_len]; omega), (vS2 ((bs_app _ _).trans (congrArg bs (reqC_b o j (X.drop U))))), trivial⟩) fun nb ac30 wd30 (FF30 : Fr 91 ac30 [(87, .slice (some ⟨(nb 10), 0, none⟩) 2 2), (78, rv2), (18, sB (takN 36 ((X.drop U).drop (52 * o + 88 * j + 52)))), (17, sB (takN 36 ((X.drop U).drop (52 * o + 88 * j + 16)))), (16, pT be), (15, iN j), (11, pT bv), (9, iN ((uN a b r m k Y).2.1)), (10, iN t), (8, iN o), (7, iN 0), (6, pT bc), (4, pT bt), (0, pT g), (2, iN k)]) (MM30 : MemS (fun k => k < w0.heap.size ∧ ∀ x ∈ (g, oC #[sB X, iN u] 35) :: ([] : Blks), x.1 ≠ k) w0 wd30 ((be, .cells (cn .u8 (takN 16 ((X.drop U).drop (52 * o + 88 * j)))) 61) :: (bv, oC #[iN o, iN t, rv2] 41) :: (bc, oC #[iN 0, iN 0, .slice none 0 0] 41) :: (bt, oC #[iN a, iN b, iN r, iN m] 25) :: (g, oC #[sB X, iN (U + (52 * o + 88 * (j + 1)))] 35) :: ([] : Blks)) [(rv2, 9, 1, o + 2 * j, (fv (o + 2 * j) (fun k9 => sB (reqC o (X.drop U) k9))))]) hfx31 => ?_
          have hb_bq : wd30.heap[nb 10]? = some (oC #[sB (reqC o (X.drop U) (o + 2 * j)), sB (reqC o (X.drop U) (o + 2 * j + 1))] 9) := hfx31.1.2
          clear hfx31
          generalize nb 10 = bq at *
          refine st_app [18, 17, 16, 15, 11, 9, 10, 8, 7, 6, 4, 0, 2, 88] FF30 MM30 (d := 88) (s := 78) (x := 87) (Y := [sB (reqC o (X.drop U) (o + 2 * j)), sB (reqC o (X.drop U) (o + 2 * j + 1))]) (z := sB []) (bb := 16) rfl rfl rfl rfl (lies_lit hb_bq) (two_one _ _) (by decide) Try.underlying36 (by kernel_rfl) rfl (by decide) (by simp only [maxLen]; omega) (by omega) rfl rfl (by decide) fun ac34 wd34 rv33 FF34 MM34 => ?_
          have MMr35 : MemS _ _ _ _ [(rv33, 9, 1, (o + 2 * (j + 1)), (fv (o + 2 * (j + 1)) (fun k9 => sB (reqC o (X.drop U) k9))))] := MM34.eqR (by rw [show (fv (o + 2 * (j + 1)) (fun k9 => sB (reqC o (X.drop U) k9))) = ((fv (o + 2 * j) (fun k9 => sB (reqC o (X.drop U) k9))) ++ [sB (reqC o (X.drop U) (o + 2 * j)), sB (reqC o (X.drop U) (o + 2 * j + 1))]) from (fv_two _ _).symm] <;> rfl)
          obtain ⟨pa, ca, rfl, _⟩ := MMr35.rowLen
          refine rp_c 2 FF34 MMr35 [(1, s_ 1 (oC #[iN o, iN t, .slice pa (o + 2 * (j + 1)) ca] 41))] 19 [] [] (⟨rfl, (by simp), (.inl rfl), rfl, fun _ _ FF36 MM36 => ?_⟩)
          refine wpl_nil ?_
          refine inb_n (then_n ?_)
          refine rg_c FF36 MM36 [] 19 [] [] (⟨by omega, fun _ _ FF37 MM37 => ?_⟩)
          have hd := cnt_of (FF37.get 0 rfl)
          refine then_n ⟨⟨.slice pa (o + 2 * (j + 1)) ca, j + 1, by omega, FF37.pick [0, 4, 5, 6, 7, 8, 9, 10, 11, 12], (MM37.dropAt 0)⟩, ?_⟩
          rw [hc, hd]; omega
        · skip
          refine then_n (.inr ⟨(FF26.ev 0 rfl).trans (dec_f hlt), ?_⟩)
          obtain rfl : t = j := by omega
          obtain ⟨rp, rc, rfl, _⟩ := MM26.rowLen
          refine then_n ?_
          refine wp_seq (rg_c FF26 MM26 [(0, b_ 0), (0, b_ 1)] 16 [] [] (⟨rfl, rfl, rfl, rfl, rfl, (by kernel_rfl), rfl, fun _ _ FF38 MM38 => then_n ?_⟩))
          refine wp_ret ?_
          repeat first | refine then_ret ?_ | refine inb_ret ?_
          exact (ret_ct FF38 MM38 (k := 3) (i := 1) (j := 6) (m := 0) Try.results12 rfl rfl rfl Try.underlying41 rfl (by kernel_rfl) rfl (by rw [hZ, cvK_ok hY0 (Decidable.of_not_not hs31) (Decidable.of_not_not hs42), ho, ht]; exact ⟨.slice rp (o + 2 * t) rc, rfl, rturn_to (MM38.turn (O := []) (fun i x hx => by simp at hx) 3 rfl (fun x hx => (nomatch hx))) (by simp only; omega), by show RowNew _ _ _ _ (fun k9 => sB (reqC o (Z.drop ((uN a b r m k Z).2.2 + (uN a b r m k Y).2.2)) k9)); rw [← hV]; exact MM38.rowNewF⟩))
end Go.Proofs.Ythgfjeljfiadmaa
namespace Go.Proofs.Ythgfjeljfiadmaa
open Go.RowKit
theorem en_lw_wakes : Enters Try.prog 7 := fun args w => by simp [go_sem]
set_option maxRecDepth 100000 in
theorem rmk_lo (g a b r m : Nat) (z : Int) (hz : z < 1) (w0 : World) :
    Calls Try.prog 12 #[pT g, .agg #[iN a, iN b, iN r, iN m], .int .i64 z] w0 fun e w' => e = .returned (.tuple #[.agg #[iN 0, iN 0, .slice none 0 0], iN 1]) ∧ Below w0.heap.size w0 w' := by
  refine enter_fr Try.func12 rfl Try.ntmps12 (by simp) fun ac (FF : Fr 91 ac [(0, pT g), (1, aG #[iN a, iN b, iN r, iN m]), (2, .int .i64 (z : Int))]) => ?_
  have MM := MemS.start w0
  refine wp_seq (rg_c FF MM [] 8 [] [1] (fun bt => fun bc => fun _ _ FF1 MM1 => then_n ?_))
  refine wp_seq ?_
  refine wp_seq (rg_c FF1 MM1 [(1, t_ (.bool false))] 8 [21] [] (⟨(callP_of en_tries (tries_lo z hz) _), fun _ _ FF2 MM2 => then_n ?_⟩))
  refine wp_cond_true (FF2.ev 0 rfl) ?_
  refine wp_seq (rg_c FF2 MM2 [(0, t_ (aG #[iN 0, iN 0, .slice none 0 0])), (0, b_ 0)] 8 [] [] (⟨(by kernel_rfl), rfl, rfl, rfl, (by kernel_rfl), rfl, fun _ _ FF3 MM3 => then_n ?_⟩))
  refine wp_ret ?_
  repeat first | refine then_ret ?_ | refine inb_ret ?_
  exact (ret_ct FF3 MM3 (k := 3) (i := 0) (j := 1) (m := 0) Try.results12 rfl rfl rfl Try.underlying41 rfl (by kernel_rfl) rfl ⟨rfl, MM3.below⟩)
set_option maxRecDepth 100000 in
theorem rmk_hi (g a b r m : Nat) (z : Int) (hz : z > 16) (w0 : World) :
    Calls Try.prog 12 #[pT g, .agg #[iN a, iN b, iN r, iN m], .int .i64 z] w0 fun e w' => e = .returned (.tuple #[.agg #[iN 0, iN 0, .slice none 0 0], iN 1]) ∧ Below w0.heap.size w0 w' := by
  refine enter_fr Try.func12 rfl Try.ntmps12 (by simp) fun ac (FF : Fr 91 ac [(0, pT g), (1, aG #[iN a, iN b, iN r, iN m]), (2, .int .i64 (z : Int))]) => ?_
  have MM := MemS.start w0
  refine wp_seq (rg_c FF MM [] 8 [] [1] (fun bt => fun bc => fun _ _ FF1 MM1 => then_n ?_))
  refine wp_seq ?_
  refine wp_seq (rg_c FF1 MM1 [(1, t_ (.bool false))] 8 [21] [] (⟨(callP_of en_tries (tries_hi z hz) _), fun _ _ FF2 MM2 => then_n ?_⟩))
  refine wp_cond_true (FF2.ev 0 rfl) ?_
  refine wp_seq (rg_c FF2 MM2 [(0, t_ (aG #[iN 0, iN 0, .slice none 0 0])), (0, b_ 0)] 8 [] [] (⟨(by kernel_rfl), rfl, rfl, rfl, (by kernel_rfl), rfl, fun _ _ FF3 MM3 => then_n ?_⟩))
  refine wp_ret ?_
  repeat first | refine then_ret ?_ | refine inb_ret ?_
  exact (ret_ct FF3 MM3 (k := 3) (i := 0) (j := 1) (m := 0) Try.results12 rfl rfl rfl Try.underlying41 rfl (by kernel_rfl) rfl ⟨rfl, MM3.below⟩)
theorem rmk_any (g : Nat) (a b r m : Nat) (hk : TOk a b r m) (X : List Nat) (u : Nat) (hX : ∀ i, X.getD i 0 < 256) (hu : u < 4611686018400000000) (z : Int) (w0 : World) (hg : w0.heap[g]? = some (RB X u)) :
    Calls Try.prog 12 #[pT g, .agg #[iN a, iN b, iN r, iN m], .int .i64 z] w0 fun e w' => ∃ v, e = .returned (.tuple #[.agg #[iN ((cvZ a b r m z (X.drop u)).2.1), iN ((cvZ a b r m z (X.drop u)).2.2.1), .slice (pOf v) ((cvZ a b r m z (X.drop u)).2.1 + 2 * (cvZ a b r m z (X.drop u)).2.2.1) (cOf v)], iN ((cvZ a b r m z (X.drop u)).1)]) ∧ Turn g (RB X (u + ((cvZ a b r m z (X.drop u)).2.2.2 + (52 * (cvZ a b r m z (X.drop u)).2.1 + 88 * (cvZ a b r m z (X.drop u)).2.2.1)))) w0 w' ∧ RowNew w0.heap.size w' (pOf v) ((cvZ a b r m z (X.drop u)).2.1 + 2 * (cvZ a b r m z (X.drop u)).2.2.1) (fun k9 => sB (reqC (cvZ a b r m z (X.drop u)).2.1 ((X.drop u).drop (cvZ a b r m z (X.drop u)).2.2.2) k9)) := by
  by_cases hz : 1 ≤ z ∧ z ≤ 16
  · obtain ⟨k, rfl⟩ := Int.eq_ofNat_of_zero_le (a := z) (by omega)
    rw [cvZ_nat (by omega) (by omega)]
    exact rmk_ok g a b r m hk X u hX hu k (by omega) (by omega) w0 hg
  · rw [cvZ_bad (by omega)]
    have h : Calls Try.prog 12 #[pT g, .agg #[iN a, iN b, iN r, iN m], .int .i64 z] w0 fun e w' => e = .returned (.tuple #[.agg #[iN 0, iN 0, .slice none 0 0], iN 1]) ∧ Below w0.heap.size w0 w' := by
      by_cases h1 : z < 1
      · exact rmk_lo g a b r m z h1 w0
      · exact rmk_hi g a b r m z (by omega) w0
    exact h.mono fun e w' ⟨h1, h2⟩ => ⟨.slice none 0 0, h1, Turn.of_below hg h2, .inl rfl⟩
theorem en_lFew : Enters Try.prog 8 := fun args w => by simp [go_sem]
set_option maxRecDepth 100000 in
theorem few_any (X : List Nat) (hl : X.length = 4) (hX : ∀ i, X.getD i 0 < 256) (a b r m : Nat) (hb : 1 + X.getD 0 0 % 15 = b) (hr : X.getD 1 0 % 5 = r) (ha : b + 1 + X.getD 2 0 % (16 - b) = a) (hm : r + X.getD 3 0 % (9 - 2 * r) = m) (w0 : World) :
    Calls Try.prog 8 #[.agg (cn .u8 X)] w0 fun e w' => e = .returned (.agg #[iN a, iN b, iN r, iN m]) ∧ Below w0.heap.size w0 w' := by
  refine enter_fr Try.func8 rfl Try.ntmps8 (by simp) fun ac (FF : Fr 35 ac [(0, .agg (cn .u8 X))]) => ?_
  have MM := MemS.start w0
  have hX2 := hX 2
  have hX3 := hX 3
  have ha2 := Nat.mod_lt (X.getD 2 0) (show 0 < 16 - b by omega)
  have hm2 := Nat.mod_lt (X.getD 3 0) (show 0 < 9 - 2 * r by omega)
  refine wp_seq (rg_c FF MM [(0, s_ 0 (.cells (cn .u8 X) 22))] 3 [] [0] (⟨(by kernel_rfl), fun bn => fun bq => fun _ _ FF1 MM1 => then_n ?_⟩))
  refine wp_seq (rg_c FF1 MM1 [(0, w_ 1), (0, l_ 1 (iB (X.getD 0 0))), (0, w_ 1), (1, t_ (iN b))] 4 [] [] (⟨by decide, rfl, (cn_get _ _ _ (by rw [hl]; decide)), (by have := hX 0; omega), by decide, (by have := hX 0; omega), (vI hb), fun _ _ FF2 MM2 => then_n ?_⟩))
  refine wp_seq (rg_c FF2 MM2 [(0, w_ 1), (0, l_ 1 (iB (X.getD 1 0))), (0, w_ 1), (0, t_ (iN r))] 5 [] [] (⟨by decide, rfl, (cn_get _ _ _ (by rw [hl]; decide)), (by have := hX 1; omega), by decide, (vI hr), fun _ _ FF3 MM3 => then_n ?_⟩))
  refine wp_seq (rg_dc 21 FF3 MM3 [(2, w_ 1), (0, l_ 1 (iB (X.getD 2 0))), (0, w_ 1), (3, t_ (iN a)), (3, w_ 1), (0, l_ 1 (iB (X.getD 3 0))), (0, w_ 1), (4, t_ (iN m)), (0, t_ (aG #[iN a, iN b, iN r, iN m]))] [(0, b_ 0)] 3 [] [] (⟨by omega, by decide, rfl, (cn_get _ _ _ (by rw [hl]; decide)), (by have := hX 2; omega), by omega, by omega, (by have := hX 2; omega), (by have := hX 2; omega), (vI ha), by decide, rfl, (cn_get _ _ _ (by rw [hl]; decide)), (by have := hX 3; omega), by omega, by omega, by omega, (by have := hX 3; omega), (by have := hX 3; omega), (vI hm), (by kernel_rfl), rfl, rfl, rfl, (by kernel_rfl), rfl, fun _ _ FF4 MM4 => then_n ?_⟩))
  refine wp_ret ?_
  repeat first | refine then_ret ?_ | refine inb_ret ?_
  exact (retc FF4 MM4 (k := 4) (i := 0) (j := 0) Try.results8 rfl rfl Try.underlying25 rfl (by kernel_rfl) rfl ⟨rfl, MM4.below⟩)
theorem few_ex (X : List Nat) (hl : X.length = 4) (hX : ∀ i, X.getD i 0 < 256) : ∃ a b r m : Nat, TOk a b r m ∧ ∀ w, Calls Try.prog 8 #[.agg (cn .u8 X)] w fun e w' => e = .returned (.agg #[iN a, iN b, iN r, iN m]) ∧ Below w.heap.size w w' := by
  obtain ⟨b, hb⟩ : ∃ b, 1 + X.getD 0 0 % 15 = b := ⟨_, rfl⟩
  obtain ⟨r, hr⟩ : ∃ r, X.getD 1 0 % 5 = r := ⟨_, rfl⟩
  obtain ⟨a, ha⟩ : ∃ a, b + 1 + X.getD 2 0 % (16 - b) = a := ⟨_, rfl⟩
  obtain ⟨m, hm⟩ : ∃ m, r + X.getD 3 0 % (9 - 2 * r) = m := ⟨_, rfl⟩
  have ha2 := Nat.mod_lt (X.getD 2 0) (show 0 < 16 - b by omega)
  have hm2 := Nat.mod_lt (X.getD 3 0) (show 0 < 9 - 2 * r by omega)
  exact ⟨a, b, r, m, ⟨by omega, by omega, by omega, by omega, by omega⟩, few_any X hl hX a b r m hb hr ha hm⟩
theorem few0 (w : World) : Calls Try.prog 8 #[.agg (cn .u8 [0, 0, 0, 1])] w fun e w' => e = .returned (.agg #[iN 2, iN 1, iN 0, iN 1]) ∧ Below w.heap.size w w' := few_any [0, 0, 0, 1] rfl (lit_lt (by kernel_rfl)) 2 1 0 1 rfl rfl rfl rfl w
set_option maxRecDepth 100000 in
theorem wakes_any (O : Blks) (hD : Distinct O)  (w0 : World) (H : Has w0 O) :
    Calls Try.prog 7 #[] w0 fun e w' => e = .returned (.bool true) ∧ Below w0.heap.size w0 w' := by
  refine enter_fr Try.func7 rfl Try.ntmps7 (by simp) fun ac (FF : Fr 95 ac []) => ?_
  have MM : MemS (fun k => k < w0.heap.size ∧ ∀ x ∈ O, x.1 ≠ k) w0 w0 O [] := MemS.startN H hD
  have hk0 : TOk 2 1 0 1 := by unfold TOk; decide
  refine wp_seq (rg_c FF MM [] 1 [] [] (fun _ _ FF1 MM1 => then_n ?_))
  refine wp_seq (wp_region_list ?_)
  refine rp_c 2 FF1 MM1 [(0, t_ (.agg (cn .u8 ([0, 0, 0, 1])))), (0, t_ (aG #[iN 2, iN 1, iN 0, iN 1]))] 1 [9] [] (⟨(Eq.trans (show _ = some (cn .u8 ([0, 0, 0, 1])) by kernel_rfl) (congrArg some (Value.agg.inj rfl))), (callP_of en_lFew few0 _), fun _ _ FF2 MM2 => ?_⟩)
  refine st_callE [0, 10] FF2 (d := 10) (mk := fun v => .tuple #[v, iN 0]) en_lawOf rfl rfl (kof_yes 2 1 0 1 hk0 _) rfl (by kernel_rfl) (by decide) fun ac4 wd4 lv3 FF4 hr5 => ?_
  obtain ⟨gk, rfl, hB_gk, hf_gk, hb_gk⟩ := hr5
  have MM6 := MM2.keep hB_gk
  have MM7 : MemS (fun k => k < w0.heap.size ∧ ∀ x ∈ O, x.1 ≠ k) w0 wd4 ((gk, oC #[iN 2, iN 1, iN 0, iN 1] 65) :: O) [] := MM2.addFresh MM6 hb_gk hf_gk
  refine rp_c 5 FF4 MM7 [] 3 [] [] (fun _ _ FF8 MM8 => ?_)
  refine wpl_nil (then_n ?_)
  refine wp_seq (wp_region_list ?_)
  refine st_callE [2, 1, 0, 14] FF8 (d := 14) (mk := fun v => v) en_tnew rfl rfl (tnew_any ([0, 0, 97, 98]) _) rfl (by kernel_rfl) (by decide) fun ac10 wd10 lv9 FF10 hr11 => ?_
  obtain ⟨gt, rfl, hB_gt, hf_gt, hb_gt⟩ := hr11
  have MM12 := MM8.keep hB_gt
  have MM13 : MemS (fun k => k < w0.heap.size ∧ ∀ x ∈ O, x.1 ≠ k) w0 wd10 ((gt, oC #[sB ([0, 0, 97, 98]), iN 0] 56) :: (gk, oC #[iN 2, iN 1, iN 0, iN 1] 65) :: O) [] := MM8.addFresh MM12 hb_gt hf_gt
  refine rp_c 1 FF10 MM13 [] 16 [] [] (fun _ wd14 FF14 MM14 => ?_)
  refine st_callE [2, 1, 0, 16] FF14 (d := 16) (mk := fun v => .tuple #[.agg #[iN 1, iN 1, .slice (pOf v) (3) (cOf v)], iN 0]) en_mk rfl rfl (by have h0 := mk_any gt gk 2 1 0 1 hk0 ([0, 0, 97, 98]) 0 (lit_lt (by kernel_rfl)) (by decide) ((1 : Nat) : Int) wd14 (MM14.get 1 rfl) (MM14.get 0 rfl); rw [show cvZ 2 1 0 1 ((1 : Nat) : Int) [0, 0, 97, 98] = (0, 1, 1, 2) by decide +kernel] at h0; exact h0) rfl (by kernel_rfl) (by decide) fun ac17 wd17 lv16 FF17 hr18 => ?_
  have ht9 := hr18.1
  have MM19 : MemS (fun k => k < w0.heap.size ∧ ∀ x ∈ O, x.1 ≠ k) w0 wd17 ((gt, oC #[sB [], iN 142] 56) :: (gk, oC #[iN 2, iN 1, iN 0, iN 1] 65) :: O) [] := MM14.turnAt ht9 0 rfl
  obtain ⟨O20, MM210, hR22, hs23⟩ := MemS.addRowT (K := [(gt, oC #[sB [], iN 142] 56), (gk, oC #[iN 2, iN 1, iN 0, iN 1] 65)]) (O := O) MM14 MM19 rfl hr18.2
  have MM21 : MemS (fun k => k < w0.heap.size ∧ ∀ x ∈ O, x.1 ≠ k) w0 wd17 ((gt, oC #[sB [], iN 142] 56) :: (gk, oC #[iN 2, iN 1, iN 0, iN 1] 65) :: O20) [] := MM210
  have hR24 : RowO O20 (pOf lv16) 3 (fun k9 => sB (reqC 1 ([97, 98]) k9)) := hR22
  refine rp_c 6 FF17 MM21 [(4, b_ 0)] 5 [] [] (fun bc => ⟨rfl, rfl, rfl, (by kernel_rfl), rfl, fun _ _ FF25 MM25 => ?_⟩)
  refine wpl_nil (then_n ?_)
  refine wp_seq (rg_c FF25 MM25 [(1, u_ 1 (.tuple #[aG #[iN 0, iN 0, .slice none 0 0], iN 1])), (4, b_ 0)] 5 [6] [] (⟨⟨en_mk, fun w Hw => mk_pnil gk 2 1 0 1 hk0 ((1 : Nat) : Int) w (Hw 2 _ rfl)⟩, fun bd => ⟨rfl, rfl, rfl, (by kernel_rfl), rfl, fun _ _ FF26 MM26 => then_n ?_⟩⟩))
  refine wp_seq (rg_dc 72 FF26 MM26 ((1, w_ 2) :: (2, w_ 2) :: (3, l_ 1 (iN 1)) :: (0, w_ 2) :: (3, l_ 1 (iN 1)) :: (0, w_ 2) :: (3, l_ 1 (.slice (pOf lv16) 3 (cOf lv16))) :: (1, w_ 2) :: (3, l_ 1 (.slice (pOf lv16) 3 (cOf lv16))) :: (0, f_ (.pointer (some ⟨gOf (pOf lv16), oOf (pOf lv16) + 0, none⟩))) :: (0, f_ (sB (reqC 1 ([97, 98]) 0))) :: (0, t_ (iN 52)) :: (0, w_ 2) :: (3, l_ 1 (.slice (pOf lv16) 3 (cOf lv16))) :: (0, f_ (.pointer (some ⟨gOf (pOf lv16), oOf (pOf lv16) + 1, none⟩))) :: (0, f_ (sB (reqC 1 ([97, 98]) 1))) :: (0, t_ (iN 52)) :: (0, w_ 2) :: (3, l_ 1 (.slice (pOf lv16) 3 (cOf lv16))) :: (0, f_ (.pointer (some ⟨gOf (pOf lv16), oOf (pOf lv16) + 2, none⟩))) :: (0, f_ (sB (reqC 1 ([97, 98]) 2))) :: (0, t_ (iN 52)) :: (0, w_ 2) :: (3, l_ 1 (.slice (pOf lv16) 3 (cOf lv16))) :: (0, f_ (.pointer (some ⟨gOf (pOf lv16), oOf (pOf lv16) + 1, none⟩))) :: (0, f_ (sB (reqC 1 ([97, 98]) 1))) :: (0, t_ (sB ((reqC 1 [97, 98] 1).take 16))) :: (1, l_ 1 (.slice (pOf lv16) 3 (cOf lv16))) :: (0, f_ (.pointer (some ⟨gOf (pOf lv16), oOf (pOf lv16) + 2, none⟩))) :: (0, f_ (sB (reqC 1 ([97, 98]) 2))) :: (0, t_ (sB ((reqC 1 [97, 98] 2).take 16))) :: (0, w_ 2) :: (3, l_ 1 (.slice (pOf lv16) 3 (cOf lv16))) :: (0, f_ (.pointer (some ⟨gOf (pOf lv16), oOf (pOf lv16) + 0, none⟩))) :: (0, f_ (sB (reqC 1 ([97, 98]) 0))) :: (0, t_ (sB ((reqC 1 [97, 98] 0).take 2))) :: (0, w_ 2) :: (3, w_ 2) :: []) [] 2 [3] [] (⟨by decide, by decide, rfl, rfl, by decide, rfl, rfl, by decide, rfl, rfl, by decide, rfl, rfl, (rowX_addr (x := (.tmp 48)) (y := (.const (iN 0))) (k := 1) (i := 0) (by kernel_rfl) rfl rfl Try.underlying36 (by kernel_rfl) hR24 (by omega) (by decide)), (rowX_load (x := (.tmp 49)) (j := 0) (by kernel_rfl) rfl Try.underlying9 rfl hR24 (fun _ hx => List.mem_cons_of_mem _ (List.mem_cons_of_mem _ (List.mem_cons_of_mem _ (List.mem_cons_of_mem _ (hx))))) (by omega) rfl), (vI ((bs_size _).trans rfl)), rfl, rfl, rfl, (rowX_addr (x := (.tmp 56)) (y := (.const (iN 1))) (k := 1) (i := 1) (by kernel_rfl) rfl rfl Try.underlying36 (by kernel_rfl) hR24 (by omega) (by decide)), (rowX_load (x := (.tmp 57)) (j := 1) (by kernel_rfl) rfl Try.underlying9 rfl hR24 (fun _ hx => List.mem_cons_of_mem _ (List.mem_cons_of_mem _ (List.mem_cons_of_mem _ (List.mem_cons_of_mem _ (hx))))) (by omega) rfl), (vI ((bs_size _).trans rfl)), rfl, rfl, rfl, (rowX_addr (x := (.tmp 64)) (y := (.const (iN 2))) (k := 1) (i := 2) (by kernel_rfl) rfl rfl Try.underlying36 (by kernel_rfl) hR24 (by omega) (by decide)), (rowX_load (x := (.tmp 65)) (j := 2) (by kernel_rfl) rfl Try.underlying9 rfl hR24 (fun _ hx => List.mem_cons_of_mem _ (List.mem_cons_of_mem _ (List.mem_cons_of_mem _ (List.mem_cons_of_mem _ (hx))))) (by omega) rfl), (vI ((bs_size _).trans rfl)), rfl, rfl, rfl, (rowX_addr (x := (.tmp 72)) (y := (.const (iN 1))) (k := 1) (i := 1) (by kernel_rfl) rfl rfl Try.underlying36 (by kernel_rfl) hR24 (by omega) (by decide)), (rowX_load (x := (.tmp 73)) (j := 1) (by kernel_rfl) rfl Try.underlying9 rfl hR24 (fun _ hx => List.mem_cons_of_mem _ (List.mem_cons_of_mem _ (List.mem_cons_of_mem _ (List.mem_cons_of_mem _ (hx))))) (by omega) rfl), (Nat.zero_le _), (by rw [bs_size, show (reqC 1 ([97, 98]) 1).length = 52 from (reqC_len 1 ([97, 98]) 1)]; omega), (vS2 (bs_extract _ _ _)), rfl, rfl, (rowX_addr (x := (.tmp 77)) (y := (.const (iN 2))) (k := 1) (i := 2) (by kernel_rfl) rfl rfl Try.underlying36 (by kernel_rfl) hR24 (by omega) (by decide)), (rowX_load (x := (.tmp 78)) (j := 2) (by kernel_rfl) rfl Try.underlying9 rfl hR24 (fun _ hx => List.mem_cons_of_mem _ (List.mem_cons_of_mem _ (List.mem_cons_of_mem _ (List.mem_cons_of_mem _ (hx))))) (by omega) rfl), (Nat.zero_le _), (by rw [bs_size, show (reqC 1 ([97, 98]) 2).length = 52 from (reqC_len 1 ([97, 98]) 2)]; omega), (vS2 (bs_extract _ _ _)), (by decide +kernel), rfl, rfl, (rowX_addr (x := (.tmp 85)) (y := (.const (iN 0))) (k := 1) (i := 0) (by kernel_rfl) rfl rfl Try.underlying36 (by kernel_rfl) hR24 (by omega) (by decide)), (rowX_load (x := (.tmp 86)) (j := 0) (by kernel_rfl) rfl Try.underlying9 rfl hR24 (fun _ hx => List.mem_cons_of_mem _ (List.mem_cons_of_mem _ (List.mem_cons_of_mem _ (List.mem_cons_of_mem _ (hx))))) (by omega) rfl), (Nat.zero_le _), (by rw [bs_size, show (reqC 1 ([97, 98]) 0).length = 52 from (reqC_len 1 ([97, 98]) 0)]; omega), (vS2 (bs_extract _ _ _)), (by decide +kernel), by decide, fun _ _ FF27 MM27 => then_n ?_⟩))
  refine wp_ret ?_
  repeat first | refine then_ret ?_ | refine inb_ret ?_
  exact (ret_fr FF27 0 Try.results7 rfl ⟨rfl, MM27.belowN H (fun _ hx => List.mem_cons_of_mem _ (List.mem_cons_of_mem _ (List.mem_cons_of_mem _ (List.mem_cons_of_mem _ (hs23 _ hx)))))⟩)
theorem wakes_w (w : World) : Calls Try.prog 7 #[] w fun e w' => e = .returned (.bool true) ∧ Below w.heap.size w w' := wakes_any [] trivial w (fun i x hx => by simp at hx)
end Go.Proofs.Ythgfjeljfiadmaa
namespace Go.Proofs.Ythgfjeljfiadmaa
open Go.RowKit
set_option maxRecDepth 100000 in
theorem ktexts_O (O : Blks) (hD : Distinct O) (p : Option Addr) (n c : Nat) (q : Option Addr) (d : Nat) (s r : Nat → List Nat) (hn : n ≤ 1000000) (hE : ∀ i, i < n → s i = r i) (hF : RowO O p n (fun k9 => sB (s k9))) (hG : RowO O q n (fun k9 => sB (r k9))) (w0 : World) (H : Has w0 O) :
    Calls Try.prog 13 #[.slice p n c, .slice q n d] w0 fun e w' => e = .returned (.bool true) ∧ Below w0.heap.size w0 w' := by
  refine enter_fr Try.func13 rfl Try.ntmps13 (by simp) fun ac (FF : Fr 26 ac [(0, .slice p n c), (1, .slice q n d)]) => ?_
  have MM : MemS (fun k => k < w0.heap.size ∧ ∀ x ∈ O, x.1 ≠ k) w0 w0 O [] := MemS.startN H hD
  refine wp_seq (rg_c FF MM [] 5 [] [] (fun _ _ FF1 MM1 => then_n ?_))
  refine wp_seq ?_
  refine wp_seq (rg_c FF1 MM1 [(4, w_ 3)] 5 [10] [] (⟨(fun h => h rfl), fun _ _ FF2 MM2 => then_n ?_⟩))
  refine wp_cond_false (FF2.ev 0 rfl) ?_
  refine wp_skip ?_
  refine then_n ?_
  refine wp_seq ?_
  refine wp_seq (rg_c FF2 MM2 [] 6 [] [] (fun _ _ FF3 MM3 => then_n ?_))
  refine wp_for2 (fun a' w' => ∃ i : Nat, i ≤ n ∧ Fr 26 a' [(5, iN i), (0, .slice p n c), (1, .slice q n d)] ∧ MemS (fun k => k < w0.heap.size ∧ ∀ x ∈ O, x.1 ≠ k) w0 w' O []) (fun a' _ => (n - cnt 5 a').toNat) ⟨0, Nat.zero_le _, FF3.pick [0, 2, 3], MM3⟩ ?_
  rintro ac4 wd4 ⟨i, hi, FF4, MM4⟩
  have hc := cnt_of (FF4.get 0 rfl)
  refine rg_c FF4 MM4 [] 6 [14] [] (fun _ _ FF5 MM5 => ?_)
  by_cases hlt : i < n
  · skip
    refine then_n (.inl ⟨(FF5.ev 0 rfl).trans (dec_t hlt), ?_⟩)
    refine wp_seq (rg_dc 9 FF5 MM5 [(2, f_ (.pointer (some ⟨gOf p, oOf p + i, none⟩))), (0, f_ (sB (s i))), (2, f_ (.pointer (some ⟨gOf q, oOf q + i, none⟩))), (0, f_ (sB (r i))), (0, w_ 3)] [] 6 [25] [] (⟨(rowX_addr (x := (.tmp 17)) (y := (.tmp 18)) (k := 1) (i := i) (by kernel_rfl) rfl rfl Try.underlying36 (by kernel_rfl) hF (by omega) (by omega)), (rowX_load (x := (.tmp 19)) (j := i) (by kernel_rfl) rfl Try.underlying9 rfl hF (fun _ hx => hx) (by omega) rfl), (rowX_addr (x := (.tmp 21)) (y := (.tmp 22)) (k := 1) (i := i) (by kernel_rfl) rfl rfl Try.underlying36 (by kernel_rfl) hG (by omega) (by omega)), (rowX_load (x := (.tmp 23)) (j := i) (by kernel_rfl) rfl Try.underlying9 rfl hG (fun _ hx => hx) (by omega) rfl), (fun h => h (congrArg bs (hE i hlt))), fun _ _ FF6 MM6 => then_n ?_⟩))
    refine wp_cond_false (FF6.ev 0 rfl) ?_
    refine wp_skip ?_
    refine inb_n (then_n ?_)
    refine rg_c FF6 MM6 [] 6 [] [] (⟨by omega, fun _ _ FF7 MM7 => ?_⟩)
    have hd := cnt_of (FF7.get 0 rfl)
    refine then_n ⟨⟨i + 1, by omega, FF7.pick [0, 1, 2], MM7⟩, ?_⟩
    rw [hc, hd]; omega
  · skip
    refine then_n (.inr ⟨(FF5.ev 0 rfl).trans (dec_f hlt), ?_⟩)
    refine then_n ?_
    refine wp_seq (rg_c FF5 MM5 [] 6 [] [] (fun _ _ FF8 MM8 => then_n ?_))
    refine wp_ret ?_
    repeat first | refine then_ret ?_ | refine inb_ret ?_
    exact (ret_fr FF8 0 Try.results13 rfl ⟨rfl, MM8.belowN H (fun _ hx => hx)⟩)
theorem ktexts_w (p : Option Addr) (n c : Nat) (q : Option Addr) (d : Nat) (s r : Nat → List Nat) (hn : n ≤ 1000000) (hE : ∀ i, i < n → s i = r i) (w : World) (hF : RowIn w p n (fun k9 => sB (s k9))) (hG : RowIn w q n (fun k9 => sB (r k9))) :
    Calls Try.prog 13 #[.slice p n c, .slice q n d] w fun e w' => e = .returned (.bool true) ∧ Below w.heap.size w w' := by
  obtain ⟨O, h1, h2, h3, h4⟩ := row_O2 hF hG
  exact ktexts_O O h2 p n c q d s r hn hE h3 h4 w h1
end Go.Proofs.Ythgfjeljfiadmaa
namespace Go.Proofs.Ythgfjeljfiadmaa
open Go.RowKit
set_option maxRecDepth 100000 in
theorem tells_any (O : Blks) (hD : Distinct O) (X : List Nat) (hl : X.length = 4) (hX : ∀ i, X.getD i 0 < 256) (Y : List Nat) (hY : ∀ i, Y.getD i 0 < 256) (z : Int) (w0 : World) (H : Has w0 O) :
    Calls Try.prog 3 #[.agg (cn .u8 X), sB Y, .int .i64 z] w0 fun e w' => e = .returned (.bool true) ∧ Below w0.heap.size w0 w' := by
  refine enter_fr Try.func3 rfl Try.ntmps3 (by simp) fun ac (FF : Fr 84 ac [(0, .agg (cn .u8 X)), (1, sB Y), (2, .int .i64 (z : Int))]) => ?_
  have MM : MemS (fun k => k < w0.heap.size ∧ ∀ x ∈ O, x.1 ≠ k) w0 w0 O [] := MemS.startN H hD
  obtain ⟨a, b, r, m, hk, hF⟩ := few_ex X hl hX
  have ⟨k1, k2, k3, k4, k5⟩ := hk
  refine wp_seq (rg_c FF MM [(0, s_ 0 (.cells (cn .u8 X) 22))] 7 [] [0] (⟨(by kernel_rfl), fun bn => fun _ _ FF1 MM1 => then_n ?_⟩))
  refine wp_seq ?_
  by_cases h1 : Y.length > 2000
  · skip
    refine wp_seq (rg_c FF1 MM1 [(1, t_ (iN Y.length)), (0, w_ 2)] 7 [18] [] (⟨(vI (bs_size _)), h1, fun _ _ FF2 MM2 => then_n ?_⟩))
    refine wp_cond_true (FF2.ev 0 rfl) ?_
    refine wp_seq (rg_c FF2 MM2 [(0, t_ (.bool true))] 7 [] [] (⟨(callP_of en_lw_wakes wakes_w _), fun _ _ FF3 MM3 => then_n ?_⟩))
    refine wp_ret ?_
    repeat first | refine then_ret ?_ | refine inb_ret ?_
    exact (ret_fr FF3 0 Try.results3 rfl ⟨rfl, MM3.belowN H (fun _ hx => List.mem_cons_of_mem _ (hx))⟩)
  · skip
    refine wp_seq (rg_c FF1 MM1 [(1, t_ (iN Y.length)), (0, w_ 3)] 7 [18] [] (⟨(vI (bs_size _)), h1, fun _ _ FF4 MM4 => then_n ?_⟩))
    refine wp_cond_false (FF4.ev 0 rfl) ?_
    refine wp_skip ?_
    refine then_n ?_
    refine wp_seq (rg_c FF4 MM4 [(0, b_ 0), (0, t_ (aG #[iN a, iN b, iN r, iN m])), (1, b_ 0)] 8 [] [3] (⟨rfl, ((cn_size _ _).trans hl), (callP_of en_lFew hF _), fun bq => ⟨rfl, rfl, rfl, (by kernel_rfl), rfl, fun _ _ FF5 MM5 => then_n ?_⟩⟩))
    refine wp_seq (wp_region_list ?_)
    refine rp_c 1 FF5 MM5 [(0, b_ 0)] 24 [] [] (⟨rfl, rfl, fun _ _ FF6 MM6 => ?_⟩)
    refine st_callE [7, 6, 1, 2, 24] FF6 (d := 24) (mk := fun v => .tuple #[v, iN 0]) en_lawOf rfl rfl (kof_yes a b r m hk _) rfl (by kernel_rfl) (by decide) fun ac8 wd8 lv7 FF8 hr9 => ?_
    obtain ⟨gk, rfl, hB_gk, hf_gk, hb_gk⟩ := hr9
    have MM10 := MM6.keep hB_gk
    have MM11 : MemS (fun k => k < w0.heap.size ∧ ∀ x ∈ O, x.1 ≠ k) w0 wd8 ((gk, oC #[iN a, iN b, iN r, iN m] 65) :: (bq, oC #[iN a, iN b, iN r, iN m] 25) :: (bn, .cells (cn .u8 X) 22) :: O) [] := MM6.addFresh MM10 hb_gk hf_gk
    refine rp_c 5 FF8 MM11 [] 9 [9] [] (fun _ _ FF12 MM12 => ?_)
    refine wpl_nil (then_n ?_)
    refine wp_seq ?_
    refine wp_seq (rg_c FF12 MM12 [(1, w_ 3)] 9 [28] [] (⟨by decide, fun _ _ FF13 MM13 => then_n ?_⟩))
    refine wp_cond_false (FF13.ev 0 rfl) ?_
    refine wp_skip ?_
    refine then_n ?_
    obtain ⟨c, hc⟩ : ∃ c, cvZ a b r m z Y = c := ⟨_, rfl⟩
    have hcb := cvZ_bd (z := z) (X := Y) hk
    rw [hc] at hcb
    obtain ⟨hb1, hb2, hb3, hb4⟩ := hcb
    refine wp_seq (wp_region_list ?_)
    refine rp_c 1 FF13 MM13 [] 9 [29] [] (fun _ _ FF14 MM14 => ?_)
    refine st_callE [8, 7, 6, 1, 2, 30] FF14 (d := 30) (mk := fun v => v) en_tnew rfl rfl (tnew_any Y _) rfl (by kernel_rfl) (by decide) fun ac16 wd16 lv15 FF16 hr17 => ?_
    obtain ⟨gt, rfl, hB_gt, hf_gt, hb_gt⟩ := hr17
    have MM18 := MM14.keep hB_gt
    have MM19 : MemS (fun k => k < w0.heap.size ∧ ∀ x ∈ O, x.1 ≠ k) w0 wd16 ((gt, oC #[sB Y, iN 0] 56) :: (gk, oC #[iN a, iN b, iN r, iN m] 65) :: (bq, oC #[iN a, iN b, iN r, iN m] 25) :: (bn, .cells (cn .u8 X) 22) :: O) [] := MM14.addFresh MM18 hb_gt hf_gt
    refine rp_c 5 FF16 MM19 [(1, t_ (aG #[sB Y, iN 0]))] 12 [] [] (⟨(by kernel_rfl), fun gr => fun _ _ FF20 MM20 => ?_⟩)
    refine wpl_nil (then_n ?_)
    refine wp_seq (wp_region_list ?_)
    refine rp_c 3 FF20 MM20 [] 38 [] [8] (fun _ wd21 FF21 MM21 => ?_)
    refine st_callE [11, 10, 7, 6, 1, 2, 38] FF21 (d := 38) (mk := fun v => .tuple #[.agg #[iN c.2.1, iN c.2.2.1, .slice (pOf v) (c.2.1 + 2 * c.2.2.1) (cOf v)], iN c.1]) en_mk rfl rfl (by have h0 := mk_any gt gk a b r m hk Y 0 hY (by decide) z wd21 (MM21.get 2 rfl) (MM21.get 1 rfl); rw [hc] at h0; exact h0) rfl (by kernel_rfl) (by decide) fun ac24 wd24 lv23 FF24 hr25 => ?_
    have ht9 := hr25.1
    have MM26 : MemS (fun k => k < w0.heap.size ∧ ∀ x ∈ O, x.1 ≠ k) w0 wd24 ((gr, oC #[sB Y, iN 0] 35) :: (gt, oC #[sB (Y.drop (c.2.2.2 + (52 * c.2.1 + 88 * c.2.2.1))), iN (0 + (c.2.2.2 + (52 * c.2.1 + 88 * c.2.2.1)))] 56) :: (gk, oC #[iN a, iN b, iN r, iN m] 65) :: (bq, oC #[iN a, iN b, iN r, iN m] 25) :: (bn, .cells (cn .u8 X) 22) :: O) [] := MM21.turnAt ht9 1 rfl
    obtain ⟨O27, MM280, hR29, hs30⟩ := MemS.addRowT (K := [(gr, oC #[sB Y, iN 0] 35), (gt, oC #[sB (Y.drop (c.2.2.2 + (52 * c.2.1 + 88 * c.2.2.1))), iN (0 + (c.2.2.2 + (52 * c.2.1 + 88 * c.2.2.1)))] 56), (gk, oC #[iN a, iN b, iN r, iN m] 65), (bq, oC #[iN a, iN b, iN r, iN m] 25), (bn, .cells (cn .u8 X) 22)]) (O := O) MM21 MM26 rfl hr25.2
    have MM28 : MemS (fun k => k < w0.heap.size ∧ ∀ x ∈ O, x.1 ≠ k) w0 wd24 ((gr, oC #[sB Y, iN 0] 35) :: (gt, oC #[sB (Y.drop (c.2.2.2 + (52 * c.2.1 + 88 * c.2.2.1))), iN (0 + (c.2.2.2 + (52 * c.2.1 + 88 * c.2.2.1)))] 56) :: (gk, oC #[iN a, iN b, iN r, iN m] 65) :: (bq, oC #[iN a, iN b, iN r, iN m] 25) :: (bn, .cells (cn .u8 X) 22) :: O27) [] := MM280
    have hR31 : RowO O27 (pOf lv23) (c.2.1 + 2 * c.2.2.1) (fun k9 => sB (reqC c.2.1 (Y.drop c.2.2.2) k9)) := hR29
    refine rp_c 6 FF24 MM28 [(4, b_ 0)] 14 [] [] (fun bc => ⟨rfl, rfl, rfl, (by kernel_rfl), rfl, fun _ _ FF32 MM32 => ?_⟩)
    refine wpl_nil (then_n ?_)
    refine wp_seq (wp_region_list ?_)
    refine rp_c 3 FF32 MM32 [(1, b_ 4)] 45 [] [] (⟨rfl, rfl, fun _ wd33 FF33 MM33 => ?_⟩)
    refine st_callE [13, 12, 11, 10, 7, 6, 1, 2, 45] FF33 (d := 45) (mk := fun v => .tuple #[.agg #[iN c.2.1, iN c.2.2.1, .slice (pOf v) (c.2.1 + 2 * c.2.2.1) (cOf v)], iN c.1]) en_rmk rfl rfl (by have h0 := rmk_any gr a b r m hk Y 0 hY (by decide) z wd33 (MM33.get 1 rfl); rw [List.drop_zero, hc] at h0; exact h0) rfl (by kernel_rfl) (by decide) fun ac36 wd36 lv35 FF36 hr37 => ?_
    have ht9 := hr37.1
    have MM38 : MemS (fun k => k < w0.heap.size ∧ ∀ x ∈ O, x.1 ≠ k) w0 wd36 ((bc, oC #[iN c.2.1, iN c.2.2.1, .slice (pOf lv23) (c.2.1 + 2 * c.2.2.1) (cOf lv23)] 38) :: (gr, oC #[sB Y, iN (0 + (c.2.2.2 + (52 * c.2.1 + 88 * c.2.2.1)))] 35) :: (gt, oC #[sB (Y.drop (c.2.2.2 + (52 * c.2.1 + 88 * c.2.2.1))), iN (0 + (c.2.2.2 + (52 * c.2.1 + 88 * c.2.2.1)))] 56) :: (gk, oC #[iN a, iN b, iN r, iN m] 65) :: (bq, oC #[iN a, iN b, iN r, iN m] 25) :: (bn, .cells (cn .u8 X) 22) :: O27) [] := MM33.turnAt ht9 1 rfl
    obtain ⟨O39, MM400, hR41, hs42⟩ := MemS.addRowT (K := [(bc, oC #[iN c.2.1, iN c.2.2.1, .slice (pOf lv23) (c.2.1 + 2 * c.2.2.1) (cOf lv23)] 38), (gr, oC #[sB Y, iN (0 + (c.2.2.2 + (52 * c.2.1 + 88 * c.2.2.1)))] 35), (gt, oC #[sB (Y.drop (c.2.2.2 + (52 * c.2.1 + 88 * c.2.2.1))), iN (0 + (c.2.2.2 + (52 * c.2.1 + 88 * c.2.2.1)))] 56), (gk, oC #[iN a, iN b, iN r, iN m] 65), (bq, oC #[iN a, iN b, iN r, iN m] 25), (bn, .cells (cn .u8 X) 22)]) (O := O27) MM33 MM38 rfl hr37.2
    have MM40 : MemS (fun k => k < w0.heap.size ∧ ∀ x ∈ O, x.1 ≠ k) w0 wd36 ((bc, oC #[iN c.2.1, iN c.2.2.1, .slice (pOf lv23) (c.2.1 + 2 * c.2.2.1) (cOf lv23)] 38) :: (gr, oC #[sB Y, iN (0 + (c.2.2.2 + (52 * c.2.1 + 88 * c.2.2.1)))] 35) :: (gt, oC #[sB (Y.drop (c.2.2.2 + (52 * c.2.1 + 88 * c.2.2.1))), iN (0 + (c.2.2.2 + (52 * c.2.1 + 88 * c.2.2.1)))] 56) :: (gk, oC #[iN a, iN b, iN r, iN m] 65) :: (bq, oC #[iN a, iN b, iN r, iN m] 25) :: (bn, .cells (cn .u8 X) 22) :: O39) [] := MM400
    have hk43 := hR31.mono hs42
    have hz44 : ∀ x ∈ O, x ∈ O39 := fun x hx => hs42 x (hs30 x hx)
    have hR45 : RowO O39 (pOf lv35) (c.2.1 + 2 * c.2.2.1) (fun k9 => sB (reqC c.2.1 (Y.drop c.2.2.2) k9)) := hR41
    refine rp_c 6 FF36 MM40 [(4, b_ 0)] 16 [] [] (fun bd => ⟨rfl, rfl, rfl, (by kernel_rfl), rfl, fun _ _ FF46 MM46 => ?_⟩)
    refine wpl_nil (then_n ?_)
    refine wp_seq (rg_dc 37 FF46 MM46 [(1, l_ 1 (iN c.2.1)), (1, l_ 0 (iN c.2.1)), (0, w_ 2), (2, l_ 1 (iN c.2.2.1)), (1, l_ 0 (iN c.2.2.1)), (0, w_ 2), (3, l_ 1 (.slice (pOf lv23) (c.2.1 + 2 * c.2.2.1) (cOf lv23))), (1, l_ 0 (.slice (pOf lv35) (c.2.1 + 2 * c.2.2.1) (cOf lv35))), (0, u_ 1 (.bool true)), (4, w_ 2), (3, u_ 1 (iN (0 + (c.2.2.2 + (52 * c.2.1 + 88 * c.2.2.1))))), (3, l_ 2 (iN (0 + (c.2.2.2 + (52 * c.2.1 + 88 * c.2.2.1))))), (0, w_ 2), (2, t_ (.bool true))] [] 13 [14] [] (⟨rfl, rfl, rfl, rfl, rfl, rfl, rfl, rfl, rfl, rfl, rfl, rfl, rfl, rfl, ⟨en_ktexts, fun w Hw => ktexts_w (pOf lv23) (c.2.1 + 2 * c.2.2.1) (cOf lv23) (pOf lv35) (cOf lv35) (fun k9 => reqC c.2.1 (Y.drop c.2.2.2) k9) (fun k9 => reqC c.2.1 (Y.drop c.2.2.2) k9) (by omega) (fun _ _ => rfl) w (hk43.at (Has.tl (Has.tl (Has.tl (Has.tl (Has.tl (Has.tl (Has.tl Hw)))))))) (hR45.at (Has.tl (Has.tl (Has.tl (Has.tl (Has.tl (Has.tl (Has.tl Hw))))))))⟩, rfl, ⟨en_tused, fun w Hw => tused_any gt (Y.drop (c.2.2.2 + (52 * c.2.1 + 88 * c.2.2.1))) (0 + (c.2.2.2 + (52 * c.2.1 + 88 * c.2.2.1))) w (Hw 3 _ rfl)⟩, rfl, rfl, rfl, (callP_of en_lw_wakes wakes_w _), fun _ _ FF47 MM47 => then_n ?_⟩))
    refine wp_ret ?_
    repeat first | refine then_ret ?_ | refine inb_ret ?_
    exact (ret_fr FF47 0 Try.results3 rfl ⟨rfl, MM47.belowN H (fun _ hx => List.mem_cons_of_mem _ (List.mem_cons_of_mem _ (List.mem_cons_of_mem _ (List.mem_cons_of_mem _ (List.mem_cons_of_mem _ (List.mem_cons_of_mem _ (List.mem_cons_of_mem _ (hz44 _ hx))))))))⟩)
end Go.Proofs.Ythgfjeljfiadmaa
