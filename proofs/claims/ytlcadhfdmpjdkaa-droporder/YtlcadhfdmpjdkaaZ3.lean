/- Several texts in one: Calls that turn several blocks; rows that a walk owns, read for a while. Maps: what one holds, as a list; made, asked, written, counted. 'for k, v := range m': the entries come out in whatever order, each once. What strings.Builder's own text does: a pointer held against nil and against itself, turned to a bare pointer and back; a row's bytes as a string. Requests that meet: numbers. The library: strings.Clone; rows of texts; requests. Package drop: the groups. Package drop: Match. Package drop: Count. The laws of meeting requests: what they share. The laws of meeting requests: the call that wakes. Requests told again, and in another order. -/
import Derived.Test.YtlcadhfdmpjdkaaZ2
import Derived.OrdersHeld
import Derived.DeepKeys5
import Derived.Maps.RangeRun
import Derived.Laws.Externs
import Derived.Laws.Small
namespace Go.Proofs.Ytlcadhfdmpjdkaa
open Go.RowKit
section
variable {P : Program} {ops : Array Oper} {rest : List Oper} {op o : Oper} {a : Act} {w0 w w' : World} {Q : Exit → Act → World → Prop} {n m : Nat} {l : Slots} {L O : Blks} {S : Nat → Prop} {R : List Row}
/-- These blocks hold what is told; no other one has turned. -/
structure TurnB (N : Blks) (w w' : World) : Prop where
  os : w'.os = w.os
  tape : w'.tape = w.tape
  output : w'.output = w.output
  size : w.heap.size ≤ w'.heap.size
  block : ∀ k, k < w.heap.size → (∀ x ∈ N, x.1 ≠ k) → w'.heap[k]? = w.heap[k]?
  now : ∀ x ∈ N, w'.heap[x.1]? = some x.2
theorem TurnB.of_below {N : Blks} (h : Below w.heap.size w w') (hN : Has w N) : TurnB N w w' := ⟨h.os, h.tape, h.output, h.size, fun k hk _ => h.block k hk, fun x hx => by
  have := Has.mem hN hx
  exact (h.block x.1 (lt_of_block this)).trans this⟩
theorem TurnB.below (h : TurnB [] w w') : Below w.heap.size w w' := ⟨h.os, h.tape, h.output, h.size, fun k hk => h.block k hk fun _ hx => (nomatch hx)⟩
/-- What a row was while it lies among the blocks. -/
def Froz (base : Nat) (O' O : Blks) (v : Value) (e : TypeId) (k n : Nat) (X : List Value) : Prop :=
  (v = .slice none 0 0 ∧ n = 0 ∧ X = [] ∧ O' = O) ∨ ∃ (g cap : Nat) (cur : Array Value), v = .slice (some ⟨g, 0, none⟩) n cap ∧ base ≤ g ∧ n ≤ cap ∧ cap ≤ maxLen ∧ cur.size = cap * k ∧ cur.toList.take (n * k) = X ∧ X.length = n * k ∧ O' = (g, .cells cur e) :: O
theorem Froz.mono {base k n : Nat} {O' : Blks} {v : Value} {e : TypeId} {X : List Value} (h : Froz base O' O v e k n X) : ∀ x ∈ O, x ∈ O' := by
  rcases h with ⟨_, _, _, rfl⟩ | ⟨g, cap, cur, _, _, _, _, _, _, _, rfl⟩
  · exact fun _ h => h
  · exact fun _ h => List.mem_cons_of_mem _ h
end
section
variable {P : Program} {ops : Array Oper} {oi : Oper} {a : Act} {w0 w w' : World} {Q : Exit → Act → World → Prop} {n : Nat} {l : Slots} {L : Blks} {S : Nat → Prop} {R : List Row} {T : List Nat} {Z : World → Prop}
def wpLate (P : Program) (ops : Array Oper) (Q : Exit → Act → World → Prop) (Z : World → Prop) (T : List Nat) : Nat → Array Bool → Act → World → Prop
  | 0, listed, a, w => Region.ready .any ops listed = [] ∧ Q .normal a w
  | fuel + 1, listed, a, w => (Region.ready .any ops listed = [] → Q .normal a w) ∧
    ∀ i ∈ Region.ready .any ops listed, wpOp P ops Q i (fun a' w' => (i ∉ T → Z w') ∧ wpLate P ops Q Z T fuel (listed.setIfInBounds i true) a' w') a w
theorem wpAny_late : ∀ (fuel : Nat) (listed : Array Bool) (a : Act) (w : World), wpLate P ops Q Z T fuel listed a w → wpAny P .any ops Q fuel listed a w
  | 0, _, _, _, h => h
  | fuel + 1, _, _, _, h => ⟨h.1, fun i hi => wpOp_mono (fun a' w' h' => wpAny_late fuel _ a' w' h'.2) (h.2 i hi)⟩
/-- Each late operation waits for that one. -/
def waitsB (ops : Array Oper) (i : Nat) : List Nat → Bool
  | [] => true
  | j :: r => (match ops[j]? with | some o => o.after.any fun e => Region.binds .any e && Nat.beq e.on i | none => true) && waitsB ops i r
theorem waits_of {i : Nat} : ∀ {T : List Nat}, waitsB ops i T = true → ∀ j ∈ T, ∀ o, ops[j]? = some o → ∃ e ∈ o.after, Region.binds .any e = true ∧ e.on = i
  | [], _, _, hj, _, _ => (nomatch hj)
  | k :: r, h, j, hj, o, ho => by
    rw [waitsB, Bool.and_eq_true] at h
    rcases List.mem_cons.1 hj with rfl | hj
    · have h1 := h.1
      rw [ho] at h1
      obtain ⟨e, he, hb⟩ := Array.any_eq_true'.1 h1
      rw [Bool.and_eq_true] at hb
      exact ⟨e, he, hb.1, Nat.eq_of_beq_eq_true hb.2⟩
    · exact waits_of h.2 j hj o ho
theorem wpLate_first {i : Nat} {v : Value} (hi : ops[i]? = some oi) (hsel : ∀ (j : Nat) (o : Oper) cs b, ops[j]? = some o → o.op ≠ .select cs b) (hT : waitsB ops i T = true)
    (hQ : ∀ c a w, Q (.panic c) (a.put oi.dst v) w → Q (.panic c) a w) : ∀ (fuel : Nat) (listed : Array Bool) (a : Act) (w : World),
      (∀ j oj, ops[j]? = some oj → j ≠ i → listed.getD j true = false → (∀ e ∈ oj.after, Region.binds .any e = true → e.on ≠ i) → oi.apart ops oj = true) →
      i ∈ Region.ready .any ops listed → YieldsIf P ops Z oi v a → Z w → wpLate P ops Q Z T fuel (listed.setIfInBounds i true) (a.put oi.dst v) w → wpLate P ops Q Z T (fuel + 1) listed a w := by
  intro fuel
  induction fuel with
  | zero =>
    intro listed a w _ hr hy hZ H
    refine ⟨fun h => (by rw [h] at hr; cases hr), fun j hj => ?_⟩
    by_cases e : j = i
    · subst e
      exact hy.wpOp hi hZ ⟨fun _ => hZ, H⟩
    · have q := ready_mono hj e
      rw [H.1] at q
      cases q
  | succ fuel ih =>
    intro listed a w hfree hr hy hZ H
    refine ⟨fun h => (by rw [h] at hr; cases hr), fun j hj => ?_⟩
    by_cases e : j = i
    · subst e
      exact hy.wpOp hi hZ ⟨fun _ => hZ, H⟩
    · obtain ⟨hu, oj, hoj, hall⟩ := mem_ready.1 hj
      have hno : ∀ x ∈ oj.after, Region.binds .any x = true → x.on ≠ i := fun x hx hb q => by
        have h1 := hall x hx hb
        have h0 := (mem_ready.1 hr).1
        rw [q] at h1
        rcases Nat.lt_or_ge i listed.size with h' | h'
        · simp [h'] at h0 h1
          rw [h0] at h1
          cases h1
        · simp [Array.getElem?_eq_none h'] at h1
      have hjT : j ∉ T := fun q => by
        obtain ⟨x, hx, hb, q'⟩ := waits_of hT j q oj hoj
        exact hno x hx hb q'
      have h2 := wpOp_putIf hoj (hfree j oj hoj e hu hno) (fun cs b => hsel i oi cs b hi) (fun cs b => hsel j oj cs b hoj) hQ hy (H.2 j (ready_mono hj e))
      refine wpOp_mono (fun a' w' h3 => ⟨fun _ => h3.2.1 hjT, ih (listed.setIfInBounds j true) a' w' (fun k ok hk hki hun hn => hfree k ok hk hki ?_ hn) (ready_mono hr (Ne.symm e)) h3.1 (h3.2.1 hjT) ?_⟩) h2
      · by_cases q : j = k
        · subst q; exact hu
        · rw [getD_set_ne true q] at hun; exact hun
      · rw [Array.setIfInBounds_comm _ _ e]
        exact h3.2.2
/-- .. with what stands throughout alone. -/
theorem late_stand {id N : Nat} (K : Blks) (hm : P.follows .mixedOrders = true) (hN : ops.size = N) (M : MemS S w0 w L R) (H : ∀ w', MemS S w0 w' L R → wpLate P ops Q (fun w => Has w K) [] N (Array.replicate N false) a w') : (Code.region id ops true).wp P Q a w := by
  refine wp_region_any hm (wpAny_late (Z := fun w => Has w K) (T := []) _ _ _ _ ?_)
  rw [hN]
  exact H _ (M.keep (w' := { w with drawn := w.drawn + 1 }) ⟨rfl, rfl, rfl, Nat.le_refl _, fun _ _ => rfl⟩)
theorem late_take (F : Fr n a l) {i : Nat} {v : Value} {d fuel : Nat} {listed : Array Bool} (H : Has w L) (hi : ops[i]? = some oi) (hs : Region.noSelect ops = true) (hT : waitsB ops i T = true) (hf : Region.free .any ops listed i = true) (hr : (Region.ready .any ops listed).contains i = true)
    (hQ : ∀ c a (d : Nat) v w, Q (.panic c) (a.put (some d) v) w → Q (.panic c) a w) (hd : oi.dst = some d) (hn : d < n) (hg : wantOf ops.toList l oi = some true) (hrun : RunV P l L oi v)
    (K : ∀ a', Fr n a' (upd d v l) → wpLate P ops Q (fun w => Has w L) T fuel (listed.setIfInBounds i true) a' w) : wpLate P ops Q (fun w => Has w L) T (fuel + 1) listed a w := by
  refine wpLate_first hi (Region.noSelect_spec hs) hT (fun c a w h => by rw [hd] at h; exact hQ c a d v w h) fuel listed a w (Region.free_spec hi hf) (by simpa using hr) (.inl ⟨wanted_iff hg F.lk, fun w hw => hrun a.eval w F.agr hw⟩) H ?_
  rw [hd]
  exact K _ (F.put _ hn)
theorem late_one {i fuel : Nat} {listed : Array Bool} (hr : Region.ready .any ops listed = [i]) (hi : ops[i]? = some oi) (h : wpList P ops (onN (fun a' w' => (i ∉ T → Z w') ∧ wpLate P ops Q Z T fuel (listed.setIfInBounds i true) a' w') Q) [oi] a w) : wpLate P ops Q Z T (fuel + 1) listed a w :=
  ⟨fun h0 => (by rw [hr] at h0; cases h0), fun k hk => by
    rw [hr, List.mem_singleton] at hk
    subst hk
    exact op_row hi h⟩
theorem late_none {listed : Array Bool} {fuel : Nat} (hr : Region.ready .any ops listed = []) (h : Q .normal a w) : wpLate P ops Q Z T fuel listed a w := by
  cases fuel with
  | zero => exact ⟨hr, h⟩
  | succ k => exact ⟨fun _ => h, fun i hi => (by rw [hr] at hi; cases hi)⟩
theorem loadVi {o : Oper} {x : Operand} {t : TypeId} {g i k : Nat} {cs : Array Value} {e : TypeId} {fr : Nat × Nat} {v : Value} {d : TypeDesc} (ho : o.op = .load t x) (hx : evO l x = some (.pointer (some ⟨g, i, none⟩))) (ht : P.underlying t = some d) (hd : d.isRow = false) (hL : L[k]? = some (g, .cells cs e fr)) (hc : cs[i]? = some v) : RunV P l L o v :=
  loadV ho hx ht hd (List.mem_of_getElem? hL) hc
end
section
end
end Go.Proofs.Ytlcadhfdmpjdkaa
namespace Go.Proofs.Ytlcadhfdmpjdkaa
open Go.RowKit
section
variable {K V : Type}
/-- A map's entries: the one at place i was born i-th. -/
def ents (kf : K → Value) (vf : V → Value) : Nat → List (K × V) → List MapEntry
  | _, [] => []
  | i, p :: r => ⟨kf p.1, vf p.2, i⟩ :: ents kf vf (i + 1) r
def mapO (kf : K → Value) (vf : V → Value) (l : List (K × V)) : Obj := .map (ents kf vf 0 l).toArray l.length
def mget [DecidableEq K] (x : K) : List (K × V) → Option V
  | [] => none
  | p :: r => if p.1 = x then some p.2 else mget x r
def mput [DecidableEq K] (x : K) (v : V) : List (K × V) → List (K × V)
  | [] => [(x, v)]
  | p :: r => if p.1 = x then (x, v) :: r else p :: mput x v r
def Uniq (l : List (K × V)) : Prop := l.Pairwise fun p q => p.1 ≠ q.1
variable {kf : K → Value} {vf : V → Value}
theorem ents_get : ∀ (l : List (K × V)) (i j : Nat), (ents kf vf i l)[j]? = (l[j]?).map fun p => ⟨kf p.1, vf p.2, i + j⟩
  | [], _, _ => by simp [ents]
  | p :: r, i, 0 => by simp [ents]
  | p :: r, i, j + 1 => by
    simp only [ents, List.getElem?_cons_succ]
    rw [ents_get r (i + 1) j, Nat.add_right_comm, Nat.add_assoc]
theorem ents_app : ∀ (l : List (K × V)) (i : Nat) (p : K × V), ents kf vf i (l ++ [p]) = ents kf vf i l ++ [⟨kf p.1, vf p.2, i + l.length⟩]
  | [], i, p => by simp [ents]
  | q :: r, i, p => by
    simp only [List.cons_append, ents]
    rw [ents_app r (i + 1) p, List.length_cons, Nat.add_right_comm, Nat.add_assoc]
theorem ents_set (x : K) (v : V) : ∀ (l : List (K × V)) (i j : Nat), j < l.length → ents kf vf i (l.set j (x, v)) = (ents kf vf i l).set j ⟨kf x, vf v, i + j⟩
  | [], _, _, h => by simp at h
  | q :: r, i, 0, _ => by simp [ents]
  | q :: r, i, j + 1, h => by
    simp only [List.set_cons_succ, ents]
    rw [ents_set x v r (i + 1) j (by simpa using h), Nat.add_right_comm, Nat.add_assoc]
theorem makeMap_ok {P : Program} {t : TypeId} {sl : Slots} {L : Blks} {o : Oper} (ho : o.op = .makeMap t none) : RunN P sl L o (mkOf (.map none)) (mapO kf vf []) := fun ρ w A _ => by
  simp [execOp, ho, run_makeMap, mkOf, mapO, ents]
variable [DecidableEq K]
theorem mput_new {x : K} (v : V) : ∀ {l : List (K × V)}, mget x l = none → mput x v l = l ++ [(x, v)]
  | [], _ => rfl
  | p :: r, h => by
    rw [mget] at h
    split at h
    · cases h
    · rename_i e
      rw [mput, if_neg e, mput_new v h, List.cons_append]
theorem mget_mem {x : K} {v : V} : ∀ {l : List (K × V)}, mget x l = some v → (x, v) ∈ l
  | [], h => by cases h
  | p :: r, h => by
    rw [mget] at h
    split at h
    · rename_i e
      rw [← e, ← Option.some.inj h]
      exact List.mem_cons_self ..
    · exact List.mem_cons_of_mem _ (mget_mem h)
theorem mget_none {x : K} : ∀ {l : List (K × V)}, (∀ p ∈ l, p.1 ≠ x) → mget x l = none
  | [], _ => rfl
  | p :: r, h => by rw [mget, if_neg (h p (List.mem_cons_self ..)), mget_none fun q hq => h q (List.mem_cons_of_mem _ hq)]
/-- Where keys are unlike the one at place j is found, and turned there. -/
theorem mget_at {x : K} {v : V} : ∀ {l : List (K × V)} {j : Nat}, Uniq l → l[j]? = some (x, v) → mget x l = some v ∧ ∀ u, mput x u l = l.set j (x, u)
  | [], _, _, h => by simp at h
  | p :: r, 0, _, h => by
    simp only [List.getElem?_cons_zero, Option.some.injEq] at h
    subst h
    exact ⟨by rw [mget, if_pos rfl], fun u => by rw [mput, if_pos rfl, List.set_cons_zero]⟩
  | p :: r, j + 1, hu, h => by
    obtain ⟨h1, h2⟩ := List.pairwise_cons.1 hu
    simp only [List.getElem?_cons_succ] at h
    have hne : p.1 ≠ x := h1 (x, v) (List.mem_of_getElem? h)
    obtain ⟨a, b⟩ := mget_at h2 h
    exact ⟨by rw [mget, if_neg hne, a], fun u => by rw [mput, if_neg hne, b, List.set_cons_succ]⟩
theorem mem_mput {x : K} {v : V} {p : K × V} : ∀ {l : List (K × V)}, p ∈ mput x v l → p = (x, v) ∨ p ∈ l
  | [], h => by simpa [mput] using h
  | q :: r, h => by
    unfold mput at h
    split at h
    · rcases List.mem_cons.1 h with h | h
      · exact .inl h
      · exact .inr (List.mem_cons_of_mem _ h)
    · rcases List.mem_cons.1 h with h | h
      · exact .inr (h ▸ List.mem_cons_self ..)
      · exact (mem_mput h).imp_right (List.mem_cons_of_mem _)
theorem Uniq.put {l : List (K × V)} (h : Uniq l) (x : K) (v : V) : Uniq (mput x v l) := by
  induction l with
  | nil => simp [mput, Uniq]
  | cons p r ih =>
    obtain ⟨h1, h2⟩ := List.pairwise_cons.1 h
    unfold mput
    split
    · rename_i e
      exact List.pairwise_cons.2 ⟨fun q hq => by rw [← e]; exact h1 q hq, h2⟩
    · rename_i e
      refine List.pairwise_cons.2 ⟨fun q hq => ?_, ih h2⟩
      rcases mem_mput hq with rfl | hq
      · exact e
      · exact h1 q hq
/-- Keys that may be: what the program takes for one is one. -/
structure MKey (P : Program) (k : TypeId) (kf : K → Value) (Ok : K → Prop) : Prop where
  law : WideMaps.KeyLaw P k
  lit : ∀ x, Ok x → ∃ l, keyOf P k (kf x) = some l
  inj : ∀ x y, Ok x → Ok y → kf x = kf y → x = y
variable {P : Program} {k t e : TypeId} {Ok : K → Prop} {l : List (K × V)} {x : K}
theorem find_ents (H : MKey P k kf Ok) (hl : ∀ p ∈ l, Ok p.1) (hu : Uniq l) (hx : Ok x) (w : World) :
    (mget x l = none ∧ (Instr.findKey k (kf x) (ents kf vf 0 l)).run P w = .ok none w) ∨ ∃ v j, mget x l = some v ∧ l[j]? = some (x, v) ∧ (∀ u, mput x u l = l.set j (x, u)) ∧ (Instr.findKey k (kf x) (ents kf vf 0 l)).run P w = .ok (some (j, vf v)) w := by
  obtain ⟨lx, hlx⟩ := H.lit x hx
  rcases H.law.find w hlx (ents kf vf 0 l) (fun m hm => by
    obtain ⟨j, hj⟩ := List.mem_iff_getElem?.1 hm
    rw [ents_get] at hj
    obtain ⟨p, hp, rfl⟩ := Option.map_eq_some_iff.1 hj
    exact H.lit p.1 (hl p (List.mem_of_getElem? hp))) with ⟨h1, h2⟩ | ⟨j, m, h1, h2, h3⟩
  · refine .inl ⟨mget_none fun p hp hpx => ?_, h1⟩
    obtain ⟨j, hj⟩ := List.mem_iff_getElem?.1 hp
    exact h2 ⟨kf p.1, vf p.2, 0 + j⟩ (List.mem_of_getElem? ((ents_get l 0 j).trans (by rw [hj]; rfl))) (by rw [hpx])
  · rw [ents_get] at h2
    obtain ⟨p, hp, rfl⟩ := Option.map_eq_some_iff.1 h2
    obtain rfl := H.inj p.1 x (hl p (List.mem_of_getElem? hp)) hx h3
    have := mget_at hu hp
    exact .inr ⟨p.2, j, this.1, hp, this.2, h1⟩
variable {sl : Slots} {L : Blks} {o : Oper} {m y : Operand} {b i : Nat}
/-- 'v, ok := m[k]' of a key that is there. -/
theorem mapYes_ok {c : Bool} {v : V} (ho : o.op = .lookup t m y c) (hm : evO sl m = some (.map (some b))) (hy : evO sl y = some (kf x)) (ht : P.underlying t = some (.map k e)) (H : MKey P k kf Ok) (hl : ∀ p ∈ l, Ok p.1) (hu : Uniq l) (hx : Ok x)
    (hL : L[i]? = some (b, mapO kf vf l)) (h : mget x l = some v) : RunV P sl L o (if c then .tuple #[vf v, .bool true] else vf v) := fun ρ w A Hw => by
  obtain ⟨lx, hlx⟩ := H.lit x hx
  have h1 := A m _ hm
  have h2 := A y _ hy
  have hb : w.heap[b]? = some (.map (ents kf vf 0 l).toArray l.length) := Hw i _ hL
  rcases find_ents (vf := vf) H hl hu hx w with ⟨q, _⟩ | ⟨u, j, q, _, _, hf⟩
  · rw [h] at q; cases q
  · rw [h] at q
    obtain rfl := Option.some.inj q
    simp [execOp, ho, h1, h2, Instr.lookup, run_underlying ht, MapKept.run_getObj_map hb, H.law.check w _ hlx, hf, Result.andThen]
theorem zero_run {P : Program} {e : TypeId} {z : Value} (hi : (P.info? e).map (·.zero) = some (some z)) (w : World) : (zeroValue e).run P w = .ok z w := by
  obtain ⟨i, h1, h2⟩ := Option.map_eq_some_iff.1 hi
  simp [zeroValue, run_typeInfo w h1, h2]
/-- .. of one that is not. -/
theorem mapNo_ok {c : Bool} {z : Value} (ho : o.op = .lookup t m y c) (hm : evO sl m = some (.map (some b))) (hy : evO sl y = some (kf x)) (ht : P.underlying t = some (.map k e)) (H : MKey P k kf Ok) (hl : ∀ p ∈ l, Ok p.1) (hu : Uniq l) (hx : Ok x)
    (hL : L[i]? = some (b, mapO kf vf l)) (hi : (P.info? e).map (·.zero) = some (some z)) (h : mget x l = none) : RunV P sl L o (if c then .tuple #[z, .bool false] else z) := fun ρ w A Hw => by
  obtain ⟨lx, hlx⟩ := H.lit x hx
  have h1 := A m _ hm
  have h2 := A y _ hy
  have hb : w.heap[b]? = some (.map (ents kf vf 0 l).toArray l.length) := Hw i _ hL
  rcases find_ents (vf := vf) H hl hu hx w with ⟨_, hf⟩ | ⟨u, j, q, _, _, hf⟩
  · simp [execOp, ho, h1, h2, Instr.lookup, run_underlying ht, MapKept.run_getObj_map hb, H.law.check w _ hlx, hf, zero_run hi, Result.andThen]
  · rw [h] at q; cases q
theorem post_block {ob ob' : Obj} {w : World} {v : Nat → Value} (hL : L[i]? = some (b, ob)) (hb : w.heap[b]? = some ob) : Post w (ChangeMaps.setBlock w b ob') L ⟨v, none, [(i, ob')]⟩ 0 := by
  refine ⟨rfl, rfl, rfl, by simp [ChangeMaps.setBlock], fun j _ hn => ?_, fun o h => (nomatch h), fun _ => rfl, fun u hu z hz => ?_⟩
  · have : b ≠ j := hn (i, ob') (by simp) _ hL
    simp only [ChangeMaps.setBlock]
    exact Array.getElem?_setIfInBounds_ne this
  · obtain rfl : u = (i, ob') := by simpa using hu
    simp only at hz
    rw [hL] at hz
    obtain rfl := Option.some.inj hz
    simp only [ChangeMaps.setBlock]
    rw [Array.getElem?_setIfInBounds, if_pos rfl, if_pos (lt_of_block hb)]
/-- 'm[k] = v'. -/
theorem mapPut_ok {v : V} {z : Operand} (ho : o.op = .mapUpdate t m y z) (hm : evO sl m = some (.map (some b))) (hy : evO sl y = some (kf x)) (hz : evO sl z = some (vf v)) (ht : P.underlying t = some (.map k e)) (H : MKey P k kf Ok) (hl : ∀ p ∈ l, Ok p.1) (hu : Uniq l) (hx : Ok x)
    (hL : L[i]? = some (b, mapO kf vf l)) : RunU P sl L o undef [(i, mapO kf vf (mput x v l))] := fun ρ w A Hw => by
  obtain ⟨lx, hlx⟩ := H.lit x hx
  have h1 := A m _ hm
  have h2 := A y _ hy
  have h3 := A z _ hz
  have hb : w.heap[b]? = some (.map (ents kf vf 0 l).toArray l.length) := Hw i _ hL
  refine ⟨ChangeMaps.setBlock w b (mapO kf vf (mput x v l)), .inr ⟨rfl, ?_⟩, post_block hL hb⟩
  rcases find_ents (vf := vf) H hl hu hx w with ⟨q, hf⟩ | ⟨u, j, q, hj, hp, hf⟩
  · rw [mput_new v q]
    simp [execOp, ho, h1, h2, h3, Instr.mapUpdate, run_underlying ht, MapKept.run_getObj_map hb, H.law.check w _ hlx, hf, MapKept.run_setObj_map _ hb, Result.andThen, ChangeMaps.setBlock, mapO, ents_app]
  · have hjl : j < l.length := (List.getElem?_eq_some_iff.1 hj).1
    have hje : (ents kf vf 0 l)[j]? = some ⟨kf x, vf u, 0 + j⟩ := (ents_get l 0 j).trans (by rw [hj]; rfl)
    have hm' : (ents kf vf 0 l).modify j (fun e' => { e' with key := kf x, val := vf v }) = ents kf vf 0 (mput x v l) := by
      rw [ChangeMaps.modify_eq_set _ _ _ _ hje, hp, ents_set x v l 0 j hjl]
    simp [execOp, ho, h1, h2, h3, Instr.mapUpdate, run_underlying ht, MapKept.run_getObj_map hb, H.law.check w _ hlx, hf, hje, H.law.stays w hlx, MapKept.run_setObj_map _ hb, Result.andThen, ChangeMaps.setBlock, mapO, hm']
    rw [hp, List.length_set]
end
section
variable {P : Program} {d k e f n m : Nat}
theorem mapM_all {α β : Type} {g : α → Option β} : ∀ {l : List α}, (∀ x ∈ l, ∃ y, g x = some y) → ∃ ys, l.mapM g = some ys
  | [], _ => ⟨[], rfl⟩
  | x :: r, h => by
    obtain ⟨y, hy⟩ := h x (List.mem_cons_self ..)
    obtain ⟨ys, hys⟩ := mapM_all fun z hz => h z (List.mem_cons_of_mem _ hz)
    exact ⟨y :: ys, by simp [List.mapM_cons, hy, hys]⟩
def BytesK (n : Nat) (X : List Nat) : Prop := X.length = n ∧ ∀ i, X.getD i 0 < 256
theorem lits_u8 (he : P.underlying e = some (.int .u8)) {x : Nat} (hx : x < 256) : P.keyLits (d + 1) e [.int .u8 (x : Nat)] = some [.int .u8 (x : Nat)] := by
  unfold Program.keyLits
  rw [he]
  refine if_pos ⟨rfl, ?_⟩
  rw [Lit.wf, Bool.and_eq_true, decide_eq_true_eq, decide_eq_true_eq]
  exact ⟨by show (0 : Int) ≤ x; omega, by show (x : Int) ≤ 255; omega⟩
theorem lits_bytes {X : List Nat} (ht : P.underlying k = some (.array n e)) (he : P.underlying e = some (.int .u8)) (h1 : P.cellsOf e = 1) (hn : P.cellsOf k = n) (hX : BytesK n X) : ∃ l, P.keyLits (d + 2) k (cn .u8 X).toList = some l := by
  have hl : (cn .u8 X).toList.length = n := by rw [Array.length_toList, cn_size]; exact hX.1
  obtain ⟨ys, hys⟩ := mapM_all (g := fun i => P.keyLits (d + 1) e (((cn .u8 X).toList.drop (i * 1)).take 1)) (l := List.range n) fun i hi => by
    have hi' : i < X.length := by have := List.mem_range.1 hi; have := hX.1; omega
    have e1 : ((cn .u8 X).toList.drop (i * 1)).take 1 = [.int .u8 (X.getD i 0 : Nat)] := by
      rw [Nat.mul_one]
      refine List.ext_getElem? fun j => ?_
      rw [List.getElem?_take]
      split
      · obtain rfl : j = 0 := by omega
        rw [List.getElem?_drop, Nat.add_zero, Array.getElem?_toList, cn_get _ _ _ hi']
        rfl
      · rw [List.getElem?_eq_none (by simp only [List.length_cons, List.length_nil]; omega)]
    exact ⟨_, by rw [e1]; exact lits_u8 he (hX.2 i)⟩
  refine ⟨ys.flatten, ?_⟩
  unfold Program.keyLits
  rw [ht]
  dsimp only
  rw [if_pos (by rw [hl, hn]), h1, hys]
  rfl
theorem bytes_key (hl : laidOutB P = true) (hs : P.types.size + 2 ≤ 10000) (hd : P.types.size = d + 1) (hr : k < P.types.size) (hk : P.keyType k = true) (ht : P.underlying k = some (.array n e)) (he : P.underlying e = some (.int .u8)) (h1 : P.cellsOf e = 1) (hn : P.cellsOf k = n) :
    MKey P k (fun X => .agg (cn .u8 X)) (BytesK n) where
  law := deep_law_gate hl hs hr hk (by rw [ht])
  lit X hX := by
    obtain ⟨l, h⟩ := lits_bytes (d := d) ht he h1 hn hX
    exact ⟨_, by simp only [keyOf, ht, hk, Value.formed, Value.cells, cn_size, hX.1, hn, hd, h, BEq.rfl, Bool.and_self, if_true, Option.map_some]; rfl⟩
  inj X Y hX hY h := by
    refine List.ext_getElem (hX.1.trans hY.1.symm) fun i h1 h2 => ?_
    have e1 := cn_get .u8 X i h1
    rw [Value.agg.inj h, cn_get .u8 Y i h2] at e1
    have e2 := Int.ofNat.inj (Value.int.inj (Option.some.inj e1)).2
    rw [List.getD_eq_getElem?_getD, List.getD_eq_getElem?_getD, List.getElem?_eq_getElem h1, List.getElem?_eq_getElem h2] at e2
    exact e2.symm
end
end Go.Proofs.Ytlcadhfdmpjdkaa
namespace Go.Proofs.Ytlcadhfdmpjdkaa
open Go.RowKit
section
variable {P : Program} {a : Act} {w : World} {Q : Exit → Act → World → Prop}
/-- 'for' with a step, a test and a body alone. -/
theorem wp_forw {id id' t : Nat} {c body : Code} (I : Act → World → Prop) (μ : Act → World → Nat) (h0 : I a w)
    (H : ∀ a w, I a w → c.wp P (Exit.then (fun a1 w1 => (a1.eval (.tmp t) = .bool true ∧ body.wp P (Exit.inBlock id' (Exit.then (fun a' w' => I a' w' ∧ μ a' w' < μ a w) (Exit.inBlock id Q))) a1 w1) ∨
      (a1.eval (.tmp t) = .bool false ∧ Q .normal a1 w1)) (Exit.inBlock id Q)) a w) :
    (Code.block id (.loop (.seq c (.seq (.cond (.tmp t) .skip (.exit id)) (.block id' body))))).wp P Q a w := by
  refine wp_block (wp_loop I μ h0 fun a w hI => wp_seq (wp_mono (H a w hI) fun e a1 w1 h => ?_))
  cases e with
  | normal =>
    rcases h with ⟨ht, hb⟩ | ⟨hf, hq⟩
    · exact wp_seq (wp_cond_true ht (wp_skip (wp_block hb)))
    · exact wp_seq (wp_cond_false hf (wp_exit ((inb_exit _ _ _ _).2 hq)))
  | exit i => exact h
  | goto i => exact h
  | ret => exact h
  | panic c => exact h
  | outgrown => exact h
end
section
variable {K V : Type} {kf : K → Value} {vf : V → Value} {l : List (K × V)} {seen : List Nat}
/-- An iterator over the map in block b, of n entries: those at the places seen have come out. -/
def iterO (b n : Nat) (seen : List Nat) : Obj := .mapIter (some b) n seen.toArray n
theorem iterSeen_of {w : World} {r b n : Nat} (h : w.heap[r]? = some (iterO b n seen)) : w.iterSeen r = seen.toArray := by
  unfold World.iterSeen
  rw [h]
  rfl
theorem left_mem {e : MapEntry} : e ∈ (Go.leftOf (ents kf vf 0 l).toArray seen.toArray).toList ↔ ∃ p x v, l[p]? = some (x, v) ∧ p ∉ seen ∧ e = ⟨kf x, vf v, p⟩ := by
  simp only [Go.leftOf, Array.mem_toList_iff, Array.mem_filter, List.mem_toArray]
  constructor
  · rintro ⟨h1, h2⟩
    obtain ⟨p, hp⟩ := List.mem_iff_getElem?.1 h1
    rw [ents_get] at hp
    obtain ⟨⟨x, v⟩, hx, rfl⟩ := Option.map_eq_some_iff.1 hp
    refine ⟨p, x, v, hx, fun h => ?_, by rw [Nat.zero_add]⟩
    simp [h] at h2
  · rintro ⟨p, x, v, hx, hs, rfl⟩
    refine ⟨List.mem_of_getElem? (i := p) (by rw [ents_get, hx, Nat.zero_add]; rfl), ?_⟩
    simp [hs]
theorem ents_born_lt : ∀ e ∈ (ents kf vf 0 l).toArray.toList, e.born < l.length := fun e he => by
  obtain ⟨p, hp⟩ := List.mem_iff_getElem?.1 he
  rw [ents_get] at hp
  obtain ⟨x, hx, rfl⟩ := Option.map_eq_some_iff.1 hp
  simp only [Nat.zero_add]
  exact (List.getElem?_eq_some_iff.1 hx).1
theorem ents_nodup : ∀ (l : List (K × V)) (i : Nat), ((ents kf vf i l).map (·.born)).Nodup ∧ ∀ b ∈ (ents kf vf i l).map (·.born), i ≤ b
  | [], i => ⟨.nil, fun _ h => (nomatch h)⟩
  | p :: r, i => by
    obtain ⟨h1, h2⟩ := ents_nodup r (i + 1)
    refine ⟨List.nodup_cons.2 ⟨fun h => by have : i + 1 ≤ i := h2 _ h; omega, h1⟩, fun b hb => ?_⟩
    rcases List.mem_cons.1 hb with rfl | hb
    · exact Nat.le_refl _
    · have := h2 b hb; omega
/-- How many are left falls. -/
theorem left_less {p : Nat} {x : K} {v : V} (hp : l[p]? = some (x, v)) (hs : p ∉ seen) : (Go.leftOf (ents kf vf 0 l).toArray (seen ++ [p]).toArray).size < (Go.leftOf (ents kf vf 0 l).toArray seen.toArray).size := by
  have := left_shrinks (ents kf vf 0 l).toArray seen.toArray ⟨kf x, vf v, p⟩ (left_mem.2 ⟨p, x, v, hp, hs, rfl⟩)
  rwa [List.push_toArray] at this
variable {P : Program} {sl : Slots} {L : Blks} {o : Oper} {b r i j : Nat}
/-- 'range m'. -/
theorem range_ok {t k e : TypeId} {m : Operand} (ho : o.op = .range t m) (hm : evO sl m = some (.map (some b))) (ht : P.underlying t = some (.map k e)) (hL : L[i]? = some (b, mapO kf vf l)) :
    RunN P sl L o (mkOf (.pointer none)) (iterO b l.length []) := fun ρ w A Hw => by
  have h1 := A m _ hm
  have hb : w.heap[b]? = some (.map (ents kf vf 0 l).toArray l.length) := Hw i _ hL
  have h2 := run_range_map (P := P) w t k e b _ _ ht hb
  simp only [execOp, ho, h1, Sem.run_bind, h2, Result.andThen_ok, Sem.run_pure]
  rfl
/-- The entry that has come out. -/
theorem entry_ok {m : Operand} {p : Nat} {x : K} {v : V} (ho : o.op = .entry m) (hm : evO sl m = some (.pointer (some ⟨r, 0, none⟩))) (hL : L[i]? = some (b, mapO kf vf l)) (hI : L[j]? = some (r, iterO b l.length (seen ++ [p]))) (hp : l[p]? = some (x, v)) :
    RunV P sl L o (.tuple #[kf x, vf v]) := fun ρ w A Hw => by
  have h1 := A m _ hm
  have hb : w.heap[b]? = some (.map (ents kf vf 0 l).toArray l.length) := Hw i _ hL
  have hr : w.heap[r]? = some (.mapIter (some b) l.length (seen.toArray.push p) l.length) := by rw [List.push_toArray]; exact Hw j _ hI
  have h2 := run_entry_at (P := P) w r b l.length seen.toArray (ents kf vf 0 l).toArray l.length ⟨kf x, vf v, p⟩ hr hb (List.mem_of_getElem? (i := p) (by rw [ents_get, hp, Nat.zero_add]; rfl)) (ents_nodup l 0).1
  simp only [execOp, ho, h1, Sem.run_bind, h2, Result.andThen_ok, Sem.run_pure]
variable {ops : Array Oper} {rest : List Oper} {op : Oper} {a : Act} {w0 w : World} {Q : Exit → Act → World → Prop} {n : Nat} {S : Nat → Prop} {R : List Row}
/-- A step: nothing is left, or one that is left comes out. -/
theorem st_next (out : List Nat) (F : Fr n a sl) (M : MemS S w0 w L R) {d : Nat} {m : Operand} (ho : op.op = .next m false) (hm : evO sl m = some (.pointer (some ⟨r, 0, none⟩))) (hL : L[i]? = some (b, mapO kf vf l)) (hI : L[j]? = some (r, iterO b l.length seen)) (hd : op.dst = some d) (hg : op.guard = none) (hn : d < n)
    (K1 : (∀ p, p < l.length → p ∈ seen) → ∀ a', Fr n a' (keepS out (upd d (.tuple #[.bool false]) sl)) → wpList P ops Q rest a' w)
    (K2 : ∀ p x v a' w', l[p]? = some (x, v) → p ∉ seen → Fr n a' (keepS out (upd d (.tuple #[.bool true, kf x, vf v]) sl)) → MemS S w0 w' (setAll [(j, iterO b l.length (seen ++ [p]))] L) R → wpList P ops Q rest a' w') : wpList P ops Q (op :: rest) a w := by
  have h1 := F.agr m _ hm
  have hb : w.heap[b]? = some (.map (ents kf vf 0 l).toArray l.length) := M.has i _ hL
  have hr : w.heap[r]? = some (.mapIter (some b) l.length seen.toArray l.length) := M.has j _ hI
  rcases run_next_at (P := P) w op.type r b l.length l.length seen.toArray (ents kf vf 0 l).toArray l.length hr hb ents_born_lt (Nat.le_refl _) with ⟨h0, hrun⟩ | ⟨e, he, w1, hal, hrun⟩
  · refine wpList_run (v := .tuple #[.bool false]) (w' := w) hg (by simp only [execOp, ho, h1, Sem.run_bind, hrun, Result.andThen_ok, Sem.run_pure]) (K1 (fun p hp => ?_) _ (by rw [hd]; exact (F.put _ hn).keepS out))
    have h2 := all_seen _ _ h0 ⟨kf l[p].1, vf l[p].2, p⟩ (List.mem_of_getElem? (i := p) (by rw [ents_get, List.getElem?_eq_getElem hp, Nat.zero_add]; rfl))
    simpa using h2
  · obtain ⟨p, x, v, hp, hs, rfl⟩ := left_mem.1 he
    refine wpList_run (v := .tuple #[.bool true, kf x, vf v]) (w' := ChangeMaps.setBlock w1 r (iterO b l.length (seen ++ [p]))) hg (by simp only [execOp, ho, h1, Sem.run_bind, hrun, Result.andThen_ok, Sem.run_pure, List.push_toArray]; rfl) (K2 p x v _ _ hp hs (by rw [hd]; exact (F.put _ hn).keepS out) ?_)
    have hp1 : Post w (ChangeMaps.setBlock w1 r (iterO b l.length (seen ++ [p]))) L ⟨fun _ => undef, none, [(j, iterO b l.length (seen ++ [p]))]⟩ 0 := by
      rcases hal with rfl | rfl
      · exact post_block hI hr
      · have h3 := post_block (v := fun _ => undef) (ob' := iterO b l.length (seen ++ [p])) hI (w := w.drew) hr
        exact ⟨h3.os, h3.tape, h3.output, h3.size, h3.block, h3.fresh, h3.zero, h3.turned⟩
    have M' := M.post hp1
    rw [newL_eq] at M'
    simpa using M'
end
end Go.Proofs.Ytlcadhfdmpjdkaa
namespace Go.Proofs.Ytlcadhfdmpjdkaa
open Go.RowKit
section
variable {P : Program} {l : Slots} {L : Blks} {o : Oper} {x y : Operand}
/-- A string over a row's head: the bytes are copied, the row is frozen so far. -/
theorem usRow_ok {t u e : TypeId} {g i : Nat} {cs : Array Value} {X : List Nat} (ho : o.op = .call ⟨.builtin .unsafeString, #[x, y], #[t, u]⟩) (hx : evO l x = some (.pointer (some ⟨g, 0, none⟩))) (hy : evO l y = some (.int .i64 (X.length : Nat)))
    (ht : P.underlying t = some (.pointer e)) (hc : P.cellsOf e = 1) (hL : L[i]? = some (g, .cells cs e)) (h0 : 0 < X.length) (hX : ∀ i, X.getD i 0 < 256) (hn : X.length ≤ cs.size) (h63 : X.length ≤ 9223372036854775807) (hcs : ∀ j, j < X.length → cs[j]? = some (.int .u8 (X.getD j 0 : Nat))) :
    RunU P l L o (.string (bs X)) [(i, .cells cs e (0, X.length))] := fun ρ w A H => by
  have h1 := A x _ hx
  have h1' := A y _ hy
  have hb := H i _ hL
  have hbl : (bs X).data.toList.length = X.length := by rw [Array.length_toList]; exact bs_size X
  have hr := Lib.run_unsafeString_row (P := P) w t u o.type e ht hc g cs.size (by simp [World.shape?, hb]) (bs X).data.toList (by intro h; rw [h] at hbl; simp at hbl; omega) (by rw [hbl]; exact hn) (by rw [hbl]; exact h63) (fun j z hz => by
    have hj : j < X.length := by rw [← hbl]; exact (List.getElem?_eq_some_iff.1 hz).1
    have e1 : (⟨g, 0, none⟩ : Addr).add j = ⟨g, j, none⟩ := by unfold Addr.add; split <;> simp_all
    rw [e1, Lib.cell_of_heap hb, hcs j hj]
    have e2 := byte_bs hX j
    simp only [nl] at e2
    have e3 : z.toNat = X.getD j 0 := by
      rw [← e2]
      simp [hz]
    rw [e3])
  rw [hbl] at hr
  refine ⟨w.freeze ⟨g, 0, none⟩ X.length, .inl ?_, ?_⟩
  · simp only [execOp, ho, resolve, invoke, builtin, h1, h1', hr, Sem.run_bind, Sem.run_pure, Result.andThen_ok, List.map_toArray, List.map_cons, List.map_nil]
  · have hne : X.length ≠ 0 := by omega
    unfold World.freeze
    rw [if_neg hne]
    refine ⟨rfl, rfl, rfl, by simp, fun k hk hu => ?_, fun o h => (nomatch h), fun _ => rfl, fun u hu z hz => ?_⟩
    · simp only [Array.getElem?_modify]
      rw [if_neg]
      intro e
      exact hu _ (List.mem_singleton.2 rfl) _ hL e
    · obtain rfl := List.mem_singleton.1 hu
      simp only at hz
      obtain rfl := Option.some.inj (hL.symm.trans hz)
      simp [Array.getElem?_modify, hb]
end
end Go.Proofs.Ytlcadhfdmpjdkaa
namespace Go.Proofs.Ytlcadhfdmpjdkaa
open Go.RowKit
theorem MemS.fresh {w0 w : World} {L : Blks} {R : List Row} (M : MemS (fun k => k < w0.heap.size) w0 w L R) (i : Nat) {b : Nat} {ob : Obj} (h : L[i]? = some (b, ob)) : w0.heap.size ≤ b := Nat.le_of_not_lt (M.base i _ h)
def partsR (X : List Nat) : List Nat × List Nat × Bool := if X.length = 52 then (X.take 16, X.drop 16, true) else (List.replicate 16 0, [], false)
theorem partsR_ok {X : List Nat} (h : X.length = 52) : partsR X = (X.take 16, X.drop 16, true) := if_pos h
theorem partsR_no {X : List Nat} (h : X.length ≠ 52) : partsR X = (List.replicate 16 0, [], false) := if_neg h
theorem partsR_len (X : List Nat) : (partsR X).1.length = 16 := by
  unfold partsR
  split
  · simp only [List.length_take]; omega
  · rfl
theorem parts_cells {X : List Nat} (h : X.length = 52) : setFrom (cn .u8 (List.replicate 16 0)) 0 (bcells (X.take 16)) = cn .u8 (X.take 16) := setFrom_new8 (by rw [List.length_take, List.length_replicate, h]; rfl)
/-- Two requests that bear one name. -/
abbrev SM (s : Nat → List Nat) (i j : Nat) : Prop := (s i).length = 52 ∧ (s j).length = 52 ∧ (s i).take 16 = (s j).take 16
theorem SM.symm {s : Nat → List Nat} {i j : Nat} (h : SM s i j) : SM s j i := ⟨h.2.1, h.1, h.2.2.symm⟩
theorem SM.trans {s : Nat → List Nat} {i j k : Nat} (h : SM s i j) (g : SM s j k) : SM s i k := ⟨h.1, g.2.1, h.2.2.trans g.2.2⟩
/-- How many of the first m bear request i's name. -/
def cntS (s : Nat → List Nat) (i : Nat) : Nat → Nat
  | 0 => 0
  | m + 1 => cntS s i m + if SM s i m then 1 else 0
/-- How many others do; the box of the last of these. -/
def oN (s : Nat → List Nat) (i : Nat) : Nat → Nat
  | 0 => 0
  | m + 1 => oN s i m + if m ≠ i ∧ SM s i m then 1 else 0
def oB (s : Nat → List Nat) (i : Nat) : Nat → List Nat
  | 0 => []
  | m + 1 => if m ≠ i ∧ SM s i m then (s m).drop 16 else oB s i m
/-- What request i of n is told. -/
def mAt (s : Nat → List Nat) (n i : Nat) : List Nat := if oN s i n = 1 then oB s i n else List.replicate 36 0
theorem mAt_one {s : Nat → List Nat} {n i : Nat} (h : oN s i n = 1) : mAt s n i = oB s i n := if_pos h
theorem mAt_no {s : Nat → List Nat} {n i : Nat} (h : oN s i n ≠ 1) : mAt s n i = List.replicate 36 0 := if_neg h
theorem cnt_le (s : Nat → List Nat) (i : Nat) : ∀ m, cntS s i m ≤ m
  | 0 => Nat.le_refl _
  | m + 1 => by
    have := cnt_le s i m
    rw [cntS]
    split <;> omega
theorem cnt_none {s : Nat → List Nat} {i : Nat} : ∀ {m : Nat}, cntS s i m = 0 → ∀ j, j < m → ¬ SM s i j
  | 0, _, _, hj => absurd hj (Nat.not_lt_zero _)
  | m + 1, h, j, hj => by
    rw [cntS] at h
    split at h
    · omega
    · rename_i h1
      rcases Nat.lt_or_ge j m with h2 | h2
      · exact cnt_none (by omega) j h2
      · obtain rfl : m = j := by omega
        exact h1
theorem cnt_some {s : Nat → List Nat} {i : Nat} : ∀ {m : Nat}, cntS s i m ≠ 0 → ∃ j, j < m ∧ SM s i j
  | 0, h => absurd rfl h
  | m + 1, h => by
    rw [cntS] at h
    split at h
    · rename_i h1
      exact ⟨m, by omega, h1⟩
    · obtain ⟨j, h1, h2⟩ := cnt_some (m := m) (by omega)
      exact ⟨j, by omega, h2⟩
theorem cnt_cong {s : Nat → List Nat} {i k : Nat} (h : SM s i k) : ∀ m, cntS s i m = cntS s k m
  | 0 => rfl
  | m + 1 => by
    rw [cntS, cntS, cnt_cong h m]
    by_cases h1 : SM s k m
    · rw [if_pos h1, if_pos (h.trans h1)]
    · rw [if_neg h1, if_neg fun h2 => h1 (h.symm.trans h2)]
theorem cnt_bad {s : Nat → List Nat} {i : Nat} (h : (s i).length ≠ 52) : ∀ m, cntS s i m = 0 ∧ oN s i m = 0
  | 0 => ⟨rfl, rfl⟩
  | m + 1 => by
    obtain ⟨h1, h2⟩ := cnt_bad h m
    rw [cntS, oN, h1, h2, if_neg fun g => h g.1, if_neg fun g => h g.2.1]
    exact ⟨rfl, rfl⟩
theorem cnt_oN {s : Nat → List Nat} {i : Nat} (h : (s i).length = 52) : ∀ m, cntS s i m = oN s i m + if i < m then 1 else 0
  | 0 => rfl
  | m + 1 => by
    rw [cntS, oN, cnt_oN h m]
    by_cases h1 : m = i
    · subst h1
      rw [if_neg (Nat.lt_irrefl _), if_pos ⟨h, h, rfl⟩, if_neg fun g => g.1 rfl, if_pos (Nat.lt_succ_self _)]
    · by_cases h2 : SM s i m
      · rw [if_pos h2, if_pos (show m ≠ i ∧ SM s i m from ⟨h1, h2⟩)]
        split <;> split <;> omega
      · rw [if_neg h2, if_neg (show ¬ (m ≠ i ∧ SM s i m) from fun g => h2 g.2)]
        split <;> split <;> omega
theorem cnt_two {s : Nat → List Nat} {i n : Nat} (hi : i < n) : cntS s i n = 2 ↔ oN s i n = 1 := by
  by_cases h : (s i).length = 52
  · rw [cnt_oN h n, if_pos hi]; omega
  · rw [(cnt_bad h n).1, (cnt_bad h n).2]; omega
theorem oN_none {s : Nat → List Nat} {i : Nat} : ∀ {m : Nat}, oN s i m = 0 → ∀ j, j < m → j ≠ i → ¬ SM s i j
  | 0, _, _, hj, _ => absurd hj (Nat.not_lt_zero _)
  | m + 1, h, j, hj, hne => by
    rw [oN] at h
    split at h
    · omega
    · rename_i h1
      rcases Nat.lt_or_ge j m with h2 | h2
      · exact oN_none (by omega) j h2 hne
      · obtain rfl : m = j := by omega
        exact fun h3 => h1 ⟨hne, h3⟩
theorem oN_some {s : Nat → List Nat} {i : Nat} : ∀ {m : Nat}, oN s i m ≠ 0 → ∃ j, j < m ∧ j ≠ i ∧ SM s i j ∧ oB s i m = (s j).drop 16
  | 0, h => absurd rfl h
  | m + 1, h => by
    rw [oN] at h
    rw [oB]
    split at h
    · rename_i h1
      exact ⟨m, by omega, h1.1, h1.2, if_pos h1⟩
    · rename_i h1
      obtain ⟨j, h2, h3, h4, h5⟩ := oN_some (m := m) (by omega)
      exact ⟨j, by omega, h3, h4, (if_neg h1).trans h5⟩
theorem oN_uniq {s : Nat → List Nat} {i : Nat} : ∀ {m : Nat}, oN s i m ≤ 1 → ∀ j k, j < m → k < m → j ≠ i → k ≠ i → SM s i j → SM s i k → j = k
  | 0, _, _, _, hj, _, _, _, _, _ => absurd hj (Nat.not_lt_zero _)
  | m + 1, h, j, k, hj, hk, h1, h2, h3, h4 => by
    rw [oN] at h
    split at h
    · have h5 := oN_none (s := s) (i := i) (m := m) (by omega)
      have e1 : ¬ j < m := fun q => h5 j q h1 h3
      have e2 : ¬ k < m := fun q => h5 k q h2 h4
      omega
    · rename_i h6
      have e1 : j ≠ m := fun q => h6 (q ▸ ⟨h1, h3⟩)
      have e2 : k ≠ m := fun q => h6 (q ▸ ⟨h2, h4⟩)
      exact oN_uniq (m := m) (by omega) j k (by omega) (by omega) h1 h2 h3 h4
theorem oN_one {s : Nat → List Nat} {i j : Nat} : ∀ {m : Nat}, (∀ k, k < m → k ≠ i → SM s i k → k = j) → oN s i m ≤ if j < m then 1 else 0
  | 0, _ => Nat.zero_le _
  | m + 1, h => by
    have h1 := oN_one (m := m) fun k hk => h k (by omega)
    rw [oN]
    split
    · rename_i h2
      obtain rfl : m = j := h m (by omega) h2.1 h2.2
      rw [if_neg (Nat.lt_irrefl _)] at h1
      rw [if_pos (by omega)]
      omega
    · split at h1
      · rw [if_pos (by omega)]; omega
      · split <;> omega
theorem one_iff {s : Nat → List Nat} {i n : Nat} : oN s i n = 1 ↔ ∃ j, (j < n ∧ j ≠ i ∧ SM s i j) ∧ ∀ k, k < n → k ≠ i → SM s i k → k = j := by
  constructor
  · intro h
    obtain ⟨j, h1, h2, h3, _⟩ := oN_some (s := s) (i := i) (m := n) (by omega)
    exact ⟨j, ⟨h1, h2, h3⟩, fun k hk1 hk2 hk3 => oN_uniq (by omega) k j hk1 h1 hk2 h2 hk3 h3⟩
  · rintro ⟨j, ⟨h1, h2, h3⟩, h4⟩
    have h5 := oN_one h4
    rw [if_pos h1] at h5
    have h6 : oN s i n ≠ 0 := fun h => oN_none h j h1 h2 h3
    omega
theorem mAt_of {s : Nat → List Nat} {n i j : Nat} (h : oN s i n = 1) (h1 : j < n) (h2 : j ≠ i) (h3 : SM s i j) : mAt s n i = (s j).drop 16 := by
  obtain ⟨k, k1, k2, k3, k4⟩ := oN_some (s := s) (i := i) (m := n) (by omega)
  rw [mAt_one h, k4, oN_uniq (by omega) k j k1 h1 k2 h2 k3 h3]
theorem mAt_bad {s : Nat → List Nat} {n i : Nat} (h : (s i).length ≠ 52) : mAt s n i = List.replicate 36 0 := mAt_no (by rw [(cnt_bad h n).2]; decide)
/-- The first one of its name. -/
abbrev Fst (s : Nat → List Nat) (i : Nat) : Prop := (s i).length = 52 ∧ cntS s i i = 0
def lstS (s : Nat → List Nat) (i : Nat) : Nat → Nat
  | 0 => 0
  | m + 1 => if SM s i m then m else lstS s i m
abbrev Grp := Nat × Nat × Nat
def updG (n : Nat) : Option Grp → Grp
  | none => (1, n, n)
  | some g => (g.1 + 1, g.2.1, n)
/-- The groups, in the order in which their first ones stand: how many, the first one's place, the last one's. -/
def grpS (s : Nat → List Nat) : Nat → List (List Nat × Grp)
  | 0 => []
  | n + 1 => if (s n).length = 52 then mput ((s n).take 16) (updG n (mget ((s n).take 16) (grpS s n))) (grpS s n) else grpS s n
def fsts (s : Nat → List Nat) (n : Nat) : List Nat := (List.range n).filter fun i => decide (Fst s i)
theorem fsts_mem {s : Nat → List Nat} {n f : Nat} : f ∈ fsts s n ↔ f < n ∧ Fst s f := by simp [fsts]
theorem fsts_succ (s : Nat → List Nat) (n : Nat) : fsts s (n + 1) = fsts s n ++ if Fst s n then [n] else [] := by
  rw [fsts, List.range_succ, List.filter_append, ← fsts]
  congr 1
  by_cases h : Fst s n <;> simp [h]
theorem fst_ex (s : Nat → List Nat) : ∀ j, (s j).length = 52 → ∃ f, f ≤ j ∧ Fst s f ∧ SM s f j := fun j => by
  induction j using Nat.strongRecOn with
  | ind j ih =>
    intro h
    by_cases h0 : cntS s j j = 0
    · exact ⟨j, Nat.le_refl _, ⟨h, h0⟩, h, h, rfl⟩
    · obtain ⟨k, hk, h1⟩ := cnt_some h0
      obtain ⟨f, hf, h2, h3⟩ := ih k hk h1.2.1
      exact ⟨f, by omega, h2, h3.trans h1.symm⟩
theorem fst_apart {s : Nat → List Nat} {f g : Nat} (hf : Fst s f) (hg : Fst s g) (h : SM s f g) : f = g := by
  rcases Nat.lt_trichotomy f g with h1 | h1 | h1
  · exact absurd h.symm (cnt_none hg.2 f h1)
  · exact h1
  · exact absurd h (cnt_none hf.2 g h1)
theorem mget_map {K V : Type} [DecidableEq K] {key : Nat → K} {g : Nat → V} : ∀ {fs : List Nat} {f : Nat}, f ∈ fs → (∀ h ∈ fs, key h = key f → h = f) → mget (key f) (fs.map fun h => (key h, g h)) = some (g f)
  | [], _, h, _ => (nomatch h)
  | h :: r, f, hf, hu => by
    rw [List.map_cons, mget]
    split
    · rename_i e
      rw [hu h (List.mem_cons_self ..) e]
    · rename_i e
      rcases List.mem_cons.1 hf with rfl | hf
      · exact absurd rfl e
      · exact mget_map hf fun q hq => hu q (List.mem_cons_of_mem _ hq)
theorem mput_map {K V : Type} [DecidableEq K] {key : Nat → K} {g : Nat → V} (v : V) : ∀ {fs : List Nat} {f : Nat}, f ∈ fs → fs.Nodup → (∀ h ∈ fs, key h = key f → h = f) → mput (key f) v (fs.map fun h => (key h, g h)) = fs.map fun h => (key h, if h = f then v else g h)
  | [], _, h, _, _ => (nomatch h)
  | h :: r, f, hf, hn, hu => by
    obtain ⟨hn1, hn2⟩ := List.nodup_cons.1 hn
    rw [List.map_cons, List.map_cons, mput]
    split
    · rename_i e
      obtain rfl := hu h (List.mem_cons_self ..) e
      rw [if_pos rfl]
      congr 1
      exact List.map_congr_left fun q hq => by rw [if_neg (show ¬ q = h from fun e => hn1 (e ▸ hq))]
    · rename_i e
      rw [if_neg fun q => e (by rw [q])]
      rcases List.mem_cons.1 hf with rfl | hf
      · exact absurd rfl e
      · rw [mput_map v hf hn2 fun q hq => hu q (List.mem_cons_of_mem _ hq)]
abbrev grpAt (s : Nat → List Nat) (n f : Nat) : Grp := (cntS s f n, f, lstS s f n)
theorem fsts_nodup (s : Nat → List Nat) (n : Nat) : (fsts s n).Nodup := List.Pairwise.filter _ List.nodup_range
theorem grp_eq (s : Nat → List Nat) : ∀ n, grpS s n = (fsts s n).map fun f => ((s f).take 16, grpAt s n f)
  | 0 => rfl
  | n + 1 => by
    rw [grpS, fsts_succ, grp_eq s n]
    by_cases hl : (s n).length = 52
    · rw [if_pos hl]
      by_cases h0 : cntS s n n = 0
      · have hno : ∀ f ∈ fsts s n, ¬ SM s f n := fun f hf h => cnt_none h0 f (fsts_mem.1 hf).1 h.symm
        have hne : ∀ f ∈ fsts s n, (s f).take 16 ≠ (s n).take 16 := fun f hf e => hno f hf ⟨(fsts_mem.1 hf).2.1, hl, e⟩
        have hmg : mget ((s n).take 16) ((fsts s n).map fun f => ((s f).take 16, grpAt s n f)) = none := mget_none fun p hp => by
          obtain ⟨f, hf, rfl⟩ := List.mem_map.1 hp
          exact hne f hf
        rw [hmg, mput_new _ hmg, if_pos ⟨hl, h0⟩, List.map_append]
        congr 1
        · exact List.map_congr_left fun f hf => by
            simp only [grpAt, cntS, lstS, if_neg (hno f hf), Nat.add_zero]
        · simp only [List.map_cons, List.map_nil, updG, grpAt, cntS, lstS, h0]
          rw [if_pos ⟨hl, hl, rfl⟩, if_pos ⟨hl, hl, rfl⟩, Nat.zero_add]
      · rw [if_neg fun h => h0 h.2, List.append_nil]
        obtain ⟨f, hf1, hf2, hf3⟩ := fst_ex s n hl
        have hfn : f ≠ n := fun e => h0 (e ▸ hf2).2
        have hfm : f ∈ fsts s n := fsts_mem.2 ⟨by omega, hf2⟩
        have hu : ∀ h ∈ fsts s n, (s h).take 16 = (s f).take 16 → h = f := fun h hh e => fst_apart (fsts_mem.1 hh).2 hf2 ⟨(fsts_mem.1 hh).2.1, hf2.1, e⟩
        rw [← hf3.2.2, mget_map (key := fun h => (s h).take 16) hfm hu, mput_map (key := fun h => (s h).take 16) _ hfm (fsts_nodup s n) hu]
        refine List.map_congr_left fun h hh => ?_
        by_cases e : h = f
        · subst e
          rw [if_pos rfl]
          simp only [updG, grpAt, cntS, lstS, if_pos hf3]
        · rw [if_neg e]
          have hno : ¬ SM s h n := fun q => e (hu h hh (q.2.2.trans hf3.2.2.symm))
          simp only [grpAt, cntS, lstS, if_neg hno, Nat.add_zero]
    · have hno : ∀ f, ¬ SM s f n := fun f h => hl h.2.1
      rw [if_neg hl, if_neg fun h => hl h.1, List.append_nil]
      exact List.map_congr_left fun f _ => by simp only [grpAt, cntS, lstS, if_neg (hno f), Nat.add_zero]
theorem lst_at {s : Nat → List Nat} {i : Nat} : ∀ {m : Nat}, cntS s i m ≠ 0 → lstS s i m < m ∧ SM s i (lstS s i m) ∧ ∀ j, j < m → SM s i j → j ≤ lstS s i m
  | 0, h => absurd rfl h
  | m + 1, h => by
    rw [cntS] at h
    rw [lstS]
    split at h
    · rename_i h1
      rw [if_pos h1]
      exact ⟨by omega, h1, fun j hj _ => by omega⟩
    · rename_i h1
      rw [if_neg h1]
      obtain ⟨h2, h3, h4⟩ := lst_at (m := m) (by omega)
      refine ⟨by omega, h3, fun j hj h5 => ?_⟩
      have : j ≠ m := fun e => h1 (e ▸ h5)
      exact h4 j (by omega) h5
/-- What a group is. -/
theorem grp_at {s : Nat → List Nat} {n p : Nat} {x : List Nat} {g : Grp} (h : (grpS s n)[p]? = some (x, g)) : Fst s g.2.1 ∧ g.2.1 < n ∧ x = (s g.2.1).take 16 ∧ g.1 = cntS s g.2.1 n ∧ g.2.2 = lstS s g.2.1 n ∧ 1 ≤ g.1 := by
  rw [grp_eq, List.getElem?_map] at h
  obtain ⟨f, hf, e⟩ := Option.map_eq_some_iff.1 h
  obtain ⟨h1, h2⟩ := fsts_mem.1 (List.mem_of_getElem? hf)
  simp only [Prod.mk.injEq] at e
  obtain ⟨rfl, rfl⟩ := e
  refine ⟨h2, h1, rfl, rfl, rfl, ?_⟩
  have : cntS s f n ≠ 0 := fun q => cnt_none q f h1 ⟨h2.1, h2.1, rfl⟩
  show 1 ≤ cntS s f n
  omega
theorem grp_lst {s : Nat → List Nat} {n p : Nat} {x : List Nat} {g : Grp} (h : (grpS s n)[p]? = some (x, g)) : g.2.2 < n ∧ SM s g.2.1 g.2.2 := by
  obtain ⟨h1, h2, h3, h4, h5, h6⟩ := grp_at h
  have := lst_at (s := s) (i := g.2.1) (m := n) (by omega)
  rw [h5]
  exact ⟨this.1, this.2.1⟩
theorem grp_get {s : Nat → List Nat} {n : Nat} {x : List Nat} {g : Grp} (h : mget x (grpS s n) = some g) : ∃ p : Nat, (grpS s n)[p]? = some (x, g) := List.mem_iff_getElem?.1 (mget_mem h)
theorem grp_keys {s : Nat → List Nat} (n : Nat) (hs : ∀ i, i < n → ∀ j, (s i).getD j 0 < 256) : ∀ p ∈ grpS s n, BytesK 16 p.1 := fun p hp => by
  obtain ⟨q, hq⟩ := List.mem_iff_getElem?.1 hp
  obtain ⟨h1, h2, h3, _⟩ := grp_at (x := p.1) (g := p.2) hq
  rw [h3]
  exact ⟨by rw [List.length_take, h1.1]; rfl, take_lt (hs _ h2)⟩
theorem grp_uniq (s : Nat → List Nat) : ∀ n, Uniq (grpS s n)
  | 0 => .nil
  | n + 1 => by
    rw [grpS]
    split
    · exact (grp_uniq s n).put _ _
    · exact grp_uniq s n
theorem grp_len (s : Nat → List Nat) (n : Nat) : (grpS s n).length ≤ n := by
  rw [grp_eq, List.length_map, fsts]
  exact Nat.le_trans (List.length_filter_le ..) (by rw [List.length_range]; exact Nat.le_refl _)
theorem grp_yes {s : Nat → List Nat} {n : Nat} (h : (s n).length = 52) : grpS s (n + 1) = mput ((s n).take 16) (updG n (mget ((s n).take 16) (grpS s n))) (grpS s n) := if_pos h
theorem grp_no {s : Nat → List Nat} {n : Nat} (h : (s n).length ≠ 52) : grpS s (n + 1) = grpS s n := if_neg h
/-- Has request k's group come out? -/
def visB (s : Nat → List Nat) (l : List (List Nat × Grp)) (seen : List Nat) (k : Nat) : Bool := decide ((s k).length = 52) && seen.any fun p => decide ((l[p]?).map (·.1) = some ((s k).take 16))
def mV (s : Nat → List Nat) (n : Nat) (seen : List Nat) (k : Nat) : List Nat := if visB s (grpS s n) seen k = true then mAt s n k else List.replicate 36 0
theorem vis_push (s : Nat → List Nat) {l : List (List Nat × Grp)} (seen : List Nat) (k : Nat) {p : Nat} {x : List Nat} {g : Grp} (h : l[p]? = some (x, g)) : visB s l (seen ++ [p]) k = true ↔ visB s l seen k = true ∨ ((s k).length = 52 ∧ x = (s k).take 16) := by
  simp only [visB, List.any_append, List.any_cons, List.any_nil, Bool.or_false, h, Option.map_some, Option.some.injEq, Bool.and_eq_true, Bool.or_eq_true, decide_eq_true_eq]
  constructor
  · rintro ⟨h1, h2 | h2⟩
    · exact .inl ⟨h1, h2⟩
    · exact .inr ⟨h1, h2⟩
  · rintro (⟨h1, h2⟩ | ⟨h1, h2⟩)
    · exact ⟨h1, .inl h2⟩
    · exact ⟨h1, .inr h2⟩
theorem mV_nil (s : Nat → List Nat) (n k : Nat) : mV s n [] k = List.replicate 36 0 := if_neg (by simp [visB])
theorem grp_same {s : Nat → List Nat} {n p : Nat} {x : List Nat} {g : Grp} (h : (grpS s n)[p]? = some (x, g)) {k : Nat} (hk : (s k).length = 52) (e : x = (s k).take 16) : SM s g.2.1 k := by
  obtain ⟨h1, _, h3, _⟩ := grp_at h
  exact ⟨h1.1, hk, h3.symm.trans e⟩
theorem mV_skip {s : Nat → List Nat} {n p : Nat} {x : List Nat} {g : Grp} (h : (grpS s n)[p]? = some (x, g)) (hg : g.1 ≠ 2) (seen : List Nat) {k : Nat} (hk : k < n) : mV s n (seen ++ [p]) k = mV s n seen k := by
  unfold mV
  by_cases h1 : visB s (grpS s n) seen k = true
  · rw [if_pos h1, if_pos ((vis_push s seen k h).2 (.inl h1))]
  · rw [if_neg h1]
    split
    · rename_i h2
      rcases (vis_push s seen k h).1 h2 with h3 | ⟨h3, h4⟩
      · exact absurd h3 h1
      · have h5 := grp_same h h3 h4
        obtain ⟨_, _, _, h6, _⟩ := grp_at h
        refine mAt_no fun h7 => hg ?_
        rw [h6, cnt_cong h5]
        exact (cnt_two hk).2 h7
    · rfl
theorem mV_put {s : Nat → List Nat} {n p : Nat} {x : List Nat} {g : Grp} (h : (grpS s n)[p]? = some (x, g)) (hg : g.1 = 2) (seen : List Nat) {k : Nat} (hk : k < n) :
    mV s n (seen ++ [p]) k = if k = g.2.2 then (s g.2.1).drop 16 else if k = g.2.1 then (s g.2.2).drop 16 else mV s n seen k := by
  obtain ⟨g1, g2, g3, g4, g5, _⟩ := grp_at h
  obtain ⟨l1, l2⟩ := grp_lst h
  have c2 : cntS s g.2.1 n = 2 := g4.symm.trans hg
  have o1 : oN s g.2.1 n = 1 := (cnt_two g2).1 c2
  have o2 : oN s g.2.2 n = 1 := (cnt_two l1).1 ((cnt_cong l2 n).symm.trans c2)
  have hne : g.2.2 ≠ g.2.1 := fun e => by
    obtain ⟨j, j1, j2, j3, _⟩ := oN_some (s := s) (i := g.2.1) (m := n) (by omega)
    have j4 := (lst_at (s := s) (i := g.2.1) (m := n) (by omega)).2.2 j j1 j3
    rw [← g5, e] at j4
    exact cnt_none g1.2 j (by omega) j3
  have hx : ∀ j, SM s g.2.1 j → (s j).length = 52 ∧ x = (s j).take 16 := fun j hj => ⟨hj.2.1, g3.trans hj.2.2⟩
  by_cases k1 : k = g.2.2
  · subst k1
    rw [if_pos rfl, mV, if_pos ((vis_push s seen _ h).2 (.inr (hx _ l2)))]
    exact mAt_of o2 g2 (Ne.symm hne) l2.symm
  · rw [if_neg k1]
    by_cases k2 : k = g.2.1
    · subst k2
      rw [if_pos rfl, mV, if_pos ((vis_push s seen _ h).2 (.inr (hx _ ⟨g1.1, g1.1, rfl⟩)))]
      exact mAt_of o1 l1 hne l2
    · rw [if_neg k2]
      unfold mV
      by_cases h1 : visB s (grpS s n) seen k = true
      · rw [if_pos h1, if_pos ((vis_push s seen k h).2 (.inl h1))]
      · rw [if_neg h1]
        split
        · rename_i h2
          rcases (vis_push s seen k h).1 h2 with h3 | ⟨h3, h4⟩
          · exact absurd h3 h1
          · exact absurd (oN_uniq (by omega) k g.2.2 hk l1 k2 hne (grp_same h h3 h4) l2) k1
        · rfl
theorem mV_all {s : Nat → List Nat} {n : Nat} {seen : List Nat} (h : ∀ p, p < (grpS s n).length → p ∈ seen) {k : Nat} (hk : k < n) : mV s n seen k = mAt s n k := by
  unfold mV
  split
  · rfl
  · rename_i h1
    by_cases h2 : (s k).length = 52
    · obtain ⟨f, f1, f2, f3⟩ := fst_ex s k h2
      obtain ⟨p, hp⟩ := List.mem_iff_getElem?.1 (fsts_mem.2 ⟨Nat.lt_of_le_of_lt f1 hk, f2⟩)
      have hg : (grpS s n)[p]? = some ((s f).take 16, grpAt s n f) := by rw [grp_eq, List.getElem?_map, hp]; rfl
      refine absurd ?_ h1
      simp only [visB, Bool.and_eq_true, decide_eq_true_eq, List.any_eq_true]
      exact ⟨h2, p, h p (List.getElem?_eq_some_iff.1 hg).1, by rw [hg]; exact congrArg some f3.2.2⟩
    · exact (mAt_bad h2).symm
def cls (s : Nat → List Nat) (n : Nat) (c : Nat → Bool) : Nat → Nat
  | 0 => 0
  | m + 1 => cls s n c m + if Fst s m ∧ c (cntS s m n) = true then 1 else 0
def c1 (a : Nat) : Bool := decide (a = 1)
def c2 (a : Nat) : Bool := decide (a = 2)
def c3 (a : Nat) : Bool := decide (3 ≤ a)
theorem cls_count (s : Nat → List Nat) (n : Nat) (c : Nat → Bool) : ∀ m, cls s n c m = (fsts s m).countP fun f => c (cntS s f n)
  | 0 => rfl
  | m + 1 => by
    rw [cls, cls_count s n c m, fsts_succ, List.countP_append]
    congr 1
    by_cases h : Fst s m
    · rw [if_pos h]
      by_cases h2 : c (cntS s m n) = true
      · rw [if_pos ⟨h, h2⟩]; simp [h2]
      · rw [if_neg fun q => h2 q.2]; simp [h2]
    · rw [if_neg h, if_neg fun q => h q.1]; rfl
/-- How many of those that have come out are of a kind. -/
def cSn (l : List (List Nat × Grp)) (c : Nat → Bool) (seen : List Nat) : Nat := seen.countP fun p => c (((l[p]?).map (·.2.1)).getD 0)
theorem cSn_push {l : List (List Nat × Grp)} {p : Nat} {x : List Nat} {g : Grp} (h : l[p]? = some (x, g)) (c : Nat → Bool) (seen : List Nat) : cSn l c (seen ++ [p]) = cSn l c seen + if c g.1 = true then 1 else 0 := by
  rw [cSn, List.countP_append, ← cSn]
  congr 1
  rw [List.countP_cons, List.countP_nil, h]
  simp
theorem cSn_le (l : List (List Nat × Grp)) (c : Nat → Bool) (seen : List Nat) : cSn l c seen ≤ seen.length := List.countP_le_length
theorem seen_perm {seen : List Nat} {m : Nat} (hn : seen.Nodup) (h1 : ∀ p ∈ seen, p < m) (h2 : ∀ p, p < m → p ∈ seen) : seen.Perm (List.range m) := List.perm_iff_count.2 fun a => by
  rw [hn.count, List.nodup_range.count]
  by_cases h : a < m
  · rw [if_pos (h2 a h), if_pos (List.mem_range.2 h)]
  · rw [if_neg fun q => h (h1 a q), if_neg fun q => h (List.mem_range.1 q)]
theorem seen_len {seen : List Nat} {m : Nat} (hn : seen.Nodup) (h1 : ∀ p ∈ seen, p < m) : seen.length ≤ m := by
  induction m generalizing seen with
  | zero =>
    match seen, h1 with
    | [], _ => exact Nat.le_refl _
    | p :: r, h1 => exact absurd (h1 p (List.mem_cons_self ..)) (Nat.not_lt_zero _)
  | succ m ih =>
    have h2 := ih (hn.erase m) fun p hp => by
      obtain ⟨h3, h4⟩ := hn.mem_erase_iff.1 hp
      have := h1 p h4
      omega
    rw [List.length_erase] at h2
    split at h2 <;> omega
theorem range_at {α : Type} (l : List α) : (List.range l.length).map (fun p => l[p]?) = l.map some := by
  refine List.ext_getElem? fun i => ?_
  rcases Nat.lt_or_ge i l.length with h | h
  · simp [h]
  · simp [h]
theorem cSn_all {s : Nat → List Nat} {n : Nat} (c : Nat → Bool) {seen : List Nat} (hn : seen.Nodup) (h1 : ∀ p ∈ seen, p < (grpS s n).length) (h2 : ∀ p, p < (grpS s n).length → p ∈ seen) : cSn (grpS s n) c seen = cls s n c n := by
  rw [cSn, (seen_perm hn h1 h2).countP_eq, cls_count]
  have e1 : (List.range (grpS s n).length).countP (fun p => c ((((grpS s n)[p]?).map (·.2.1)).getD 0)) = ((List.range (grpS s n).length).map (fun p => (grpS s n)[p]?)).countP fun o => c ((o.map (·.2.1)).getD 0) := by
    rw [List.countP_map]; rfl
  rw [e1, range_at, List.countP_map, grp_eq, List.countP_map]
  rfl
/-- A group, as the program keeps it. -/
abbrev grpV (g : Grp) : Value := .agg #[iN g.1, iN g.2.1, iN g.2.2]
end Go.Proofs.Ytlcadhfdmpjdkaa
namespace Go.Proofs.Ytlcadhfdmpjdkaa
open Go.RowKit
theorem en_lclone : Enters Try.prog 22 := fun args w => by simp [go_sem]
theorem en_clone : Enters Try.prog 21 := fun args w => by simp [go_sem]
theorem en_parts : Enters Try.prog 20 := fun args w => by simp [go_sem]
theorem en_ktexts : Enters Try.prog 12 := fun args w => by simp [go_sem]
theorem en_dno : Enters Try.prog 17 := fun args w => by simp [go_sem]
theorem en_dbox : Enters Try.prog 18 := fun args w => by simp [go_sem]
theorem en_grp : Enters Try.prog 16 := fun args w => by simp [go_sem]
theorem en_dm : Enters Try.prog 13 := fun args w => by simp [go_sem]
theorem en_dc : Enters Try.prog 10 := fun args w => by simp [go_sem]
set_option maxRecDepth 100000 in
theorem lclone_any (X : List Nat) (hX : ∀ i, X.getD i 0 < 256) (hl : X.length ≤ 1000000) (w0 : World) :
    Calls Try.prog 22 #[sB X] w0 fun e w' => e = .returned (sB X) ∧ Below w0.heap.size w0 w' := by
  refine enter_fr Try.func22 rfl Try.ntmps22 (by simp) fun ac (FF : Fr 18 ac [(0, sB X)]) => ?_
  have MM := MemS.start w0
  refine wp_seq (rg_c FF MM [(0, t_ (sB []))] 3 [] [] (⟨(by kernel_rfl), fun _ _ FF1 MM1 => then_n ?_⟩))
  refine wp_seq ?_
  refine wp_seq (rg_c FF1 MM1 [(1, t_ (iN X.length))] 3 [6] [] (⟨(vI (bs_size _)), fun _ _ FF2 MM2 => then_n ?_⟩))
  by_cases hs6 : X.length = 0
  · refine wp_cond_true ((FF2.ev 0 rfl).trans (dec_t hs6)) ?_
    obtain rfl : X = [] := List.eq_nil_of_length_eq_zero hs6
    refine wp_seq (rg_c FF2 MM2 [(0, t_ (sB []))] 3 [] [] (⟨(by kernel_rfl), fun _ _ FF3 MM3 => then_n ?_⟩))
    refine wp_ret ?_
    repeat first | refine then_ret ?_ | refine inb_ret ?_
    exact (ret_fr FF3 0 Try.results22 rfl ⟨rfl, MM3.below⟩)
  · refine wp_cond_false ((FF2.ev 0 rfl).trans (dec_f hs6)) ?_
    refine wp_skip ?_
    refine then_n ?_
    refine wp_seq (rg_c FF2 MM2 [(1, t_ (iN X.length)), (0, n_ (.slice none X.length X.length) (.cells (cn .u8 (List.replicate X.length 0)) 5))] 4 [] [] (⟨(vI (bs_size _)), (make_ok (t := 38) (e := 5) (p := (.tmp 8)) (q := (.tmp 8)) (by kernel_rfl) rfl rfl Try.underlying38 (by kernel_rfl) (by omega)), fun bl => fun _ _ FF4 MM4 => then_n ?_⟩))
    refine wp_seq (rg_c FF4 MM4 [(2, r_ (iN (min X.length X.length)) [(0, .cells (cn .u8 X) 5)])] 4 [] [] (⟨(copyStr_ok (p := .tmp 10) (q := .tmp 11) (t := 38) (tq := 9) (e := 5) (T := 5) (off := 0) (len := X.length) (X := X) (cs := cn .u8 (List.replicate X.length 0)) (i := 0) (by kernel_rfl) rfl rfl hX Try.underlying38 (by kernel_rfl) rfl (by rw [cn_size, List.length_replicate, Nat.zero_add]; exact Nat.le_refl _) (by rw [List.take_length]; exact setFrom_new8 (by rw [List.length_replicate]))), fun _ _ FF5 MM5 => then_n ?_⟩))
    refine wp_seq (rg_c FF5 MM5 [(1, w_ 1), (2, r_ (sB X) [(0, .cells (cn .u8 X) 5 (0, X.length))])] 4 [] [] (⟨by omega, (usRow_ok (t := 50) (u := 3) (e := 5) (i := 0) (x := .tmp 14) (y := .tmp 16) (by kernel_rfl) rfl rfl Try.underlying50 (by kernel_rfl) rfl (by omega) hX (by rw [cn_size]; exact Nat.le_refl _) (by omega) (fun j hj => cn_get _ _ _ hj)), fun _ _ FF6 MM6 => then_n ?_⟩))
    refine wp_ret ?_
    repeat first | refine then_ret ?_ | refine inb_ret ?_
    exact (ret_fr FF6 0 Try.results22 rfl ⟨rfl, MM6.below⟩)
set_option maxRecDepth 100000 in
theorem clone_any (X : List Nat) (hX : ∀ i, X.getD i 0 < 256) (hl : X.length ≤ 1000000) (w0 : World) :
    Calls Try.prog 21 #[sB X] w0 fun e w' => e = .returned (sB X) ∧ Below w0.heap.size w0 w' := by
  refine enter_fr Try.func21 rfl Try.ntmps21 (by simp) fun ac (FF : Fr 5 ac [(0, sB X)]) => ?_
  have MM := MemS.start w0
  refine wp_seq (rg_c FF MM [(0, t_ (sB []))] 3 [] [] (⟨(by kernel_rfl), fun _ _ FF1 MM1 => then_n ?_⟩))
  refine wp_seq (rg_c FF1 MM1 [(1, t_ (sB X))] 0 [2] [] (⟨(callP_of en_lclone (lclone_any X hX hl) _), fun _ _ FF2 MM2 => then_n ?_⟩))
  refine wp_ret ?_
  repeat first | refine then_ret ?_ | refine inb_ret ?_
  exact (ret_fr FF2 0 Try.results21 rfl ⟨rfl, MM2.below⟩)
set_option maxRecDepth 100000 in
theorem ktexts_O (O : Blks) (hD : Distinct O) (p : Option Addr) (n c : Nat) (q : Option Addr) (d : Nat) (s r : Nat → List Nat) (hn : n ≤ 1000000) (hE : ∀ i, i < n → s i = r i) (hF : RowO O p n (fun k9 => sB (s k9))) (hG : RowO O q n (fun k9 => sB (r k9))) (w0 : World) (H : Has w0 O) :
    Calls Try.prog 12 #[.slice p n c, .slice q n d] w0 fun e w' => e = .returned (.bool true) ∧ Below w0.heap.size w0 w' := by
  refine enter_fr Try.func12 rfl Try.ntmps12 (by simp) fun ac (FF : Fr 26 ac [(0, .slice p n c), (1, .slice q n d)]) => ?_
  have MM : MemS (fun k => k < w0.heap.size ∧ ∀ x ∈ O, x.1 ≠ k) w0 w0 O [] := MemS.startN H hD
  refine wp_seq (rg_c FF MM [] 5 [] [] (fun _ _ FF1 MM1 => then_n ?_))
  refine wp_seq ?_
  refine wp_seq (rg_c FF1 MM1 [(4, w_ 3)] 5 [10] [] (⟨(fun h => h rfl), fun _ _ FF2 MM2 => then_n ?_⟩))
  refine wp_cond_false (FF2.ev 0 rfl) ?_
  refine wp_skip ?_
  refine then_n ?_
  refine wp_seq ?_
  refine wp_seq (rg_c FF2 MM2 [] 6 [] [] (fun _ _ FF3 MM3 => then_n ?_))
  refine wp_for2 (fun a' w' => ∃ i : Nat, i ≤ n ∧ Fr 26 a' [(5, iN i), (0, .slice p n c), (1, .slice q n d)] ∧ MemS (fun k => k < w0.heap.size ∧ ∀ x ∈ O, x.1 ≠ k) w0 w' O []) (fun a' _ => (n - cnt 5 a').toNat) ⟨0, Nat.zero_le _, FF3.pick [0, 2, 3], MM3⟩ ?_
  rintro ac4 wd4 ⟨i, hi, FF4, MM4⟩
  have hc := cnt_of (FF4.get 0 rfl)
  refine rg_c FF4 MM4 [] 6 [14] [] (fun _ _ FF5 MM5 => ?_)
  by_cases hlt : i < n
  · skip
    refine then_n (.inl ⟨(FF5.ev 0 rfl).trans (dec_t hlt), ?_⟩)
    refine wp_seq (rg_dc 9 FF5 MM5 [(2, f_ (.pointer (some ⟨gOf p, oOf p + i, none⟩))), (0, f_ (sB (s i))), (2, f_ (.pointer (some ⟨gOf q, oOf q + i, none⟩))), (0, f_ (sB (r i))), (0, w_ 3)] [] 6 [25] [] (⟨(rowX_addr (x := (.tmp 17)) (y := (.tmp 18)) (k := 1) (i := i) (by kernel_rfl) rfl rfl Try.underlying25 (by kernel_rfl) hF (by omega) (by omega)), (rowX_load (x := (.tmp 19)) (j := i) (by kernel_rfl) rfl Try.underlying9 rfl hF (fun _ hx => hx) (by omega) rfl), (rowX_addr (x := (.tmp 21)) (y := (.tmp 22)) (k := 1) (i := i) (by kernel_rfl) rfl rfl Try.underlying25 (by kernel_rfl) hG (by omega) (by omega)), (rowX_load (x := (.tmp 23)) (j := i) (by kernel_rfl) rfl Try.underlying9 rfl hG (fun _ hx => hx) (by omega) rfl), (fun h => h (congrArg bs (hE i hlt))), fun _ _ FF6 MM6 => then_n ?_⟩))
    refine wp_cond_false (FF6.ev 0 rfl) ?_
    refine wp_skip ?_
    refine inb_n (then_n ?_)
    refine rg_c FF6 MM6 [] 6 [] [] (⟨by omega, fun _ _ FF7 MM7 => ?_⟩)
    have hd := cnt_of (FF7.get 0 rfl)
    refine then_n ⟨⟨i + 1, by omega, FF7.pick [0, 1, 2], MM7⟩, ?_⟩
    rw [hc, hd]; omega
  · skip
    refine then_n (.inr ⟨(FF5.ev 0 rfl).trans (dec_f hlt), ?_⟩)
    refine then_n ?_
    refine wp_seq (rg_c FF5 MM5 [] 6 [] [] (fun _ _ FF8 MM8 => then_n ?_))
    refine wp_ret ?_
    repeat first | refine then_ret ?_ | refine inb_ret ?_
    exact (ret_fr FF8 0 Try.results12 rfl ⟨rfl, MM8.belowN H (fun _ hx => hx)⟩)
theorem ktexts_w (p : Option Addr) (n c : Nat) (q : Option Addr) (d : Nat) (s r : Nat → List Nat) (hn : n ≤ 1000000) (hE : ∀ i, i < n → s i = r i) (w : World) (hF : RowIn w p n (fun k9 => sB (s k9))) (hG : RowIn w q n (fun k9 => sB (r k9))) :
    Calls Try.prog 12 #[.slice p n c, .slice q n d] w fun e w' => e = .returned (.bool true) ∧ Below w.heap.size w w' := by
  obtain ⟨O, h1, h2, h3, h4⟩ := row_O2 hF hG
  exact ktexts_O O h2 p n c q d s r hn hE h3 h4 w h1
set_option maxRecDepth 100000 in
theorem parts_any (X : List Nat) (hX : ∀ i, X.getD i 0 < 256) (w0 : World) :
    Calls Try.prog 20 #[sB X] w0 fun e w' => e = .returned (.tuple #[.agg (cn .u8 (partsR X).1), .string (bs (partsR X).2.1), .bool (partsR X).2.2]) ∧ Below w0.heap.size w0 w' := by
  refine enter_fr Try.func20 rfl Try.ntmps20 (by simp) fun ac (FF : Fr 19 ac [(0, sB X)]) => ?_
  have MM := MemS.start w0
  refine wp_seq (rg_c FF MM [(0, s_ 0 (.cells (cn .u8 (List.replicate 16 0)) 42)), (0, t_ (sB []))] 5 [] [] (⟨(by kernel_rfl), fun br => ⟨(by kernel_rfl), fun _ _ FF1 MM1 => then_n ?_⟩⟩))
  refine wp_seq ?_
  refine wp_seq (rg_c FF1 MM1 [(1, t_ (iN X.length))] 5 [9] [] (⟨(vI (bs_size _)), fun _ _ FF2 MM2 => then_n ?_⟩))
  by_cases hs9 : X.length ≠ 52
  · refine wp_cond_true ((FF2.ev 0 rfl).trans (dec_t hs9)) ?_
    refine wp_seq (rg_c FF2 MM2 [(0, t_ (.agg (cn .u8 (List.replicate 16 0)))), (0, b_ 0), (0, t_ (sB []))] 5 [] [] (⟨(by kernel_rfl), rfl, ((cn_size _ _).trans (List.length_replicate ..)), ((cn_size _ _).trans (List.length_replicate ..)), (cn_one _ _), rfl, (by kernel_rfl), fun _ _ FF3 MM3 => then_n ?_⟩))
    refine wp_ret ?_
    repeat first | refine then_ret ?_ | refine inb_ret ?_
    exact (ret_ctt FF3 MM3 (k := 16) (i := 0) (j := 2) (m := 1) (m2 := 0) Try.results20 rfl rfl rfl rfl Try.underlying42 rfl (by kernel_rfl) ((cn_size _ _).trans (List.length_replicate ..)) ⟨by rw [partsR_no hs9], MM3.below⟩)
  · refine wp_cond_false ((FF2.ev 0 rfl).trans (dec_f hs9)) ?_
    have h52 : X.length = 52 := Decidable.of_not_not hs9
    refine wp_skip ?_
    refine then_n ?_
    refine wp_seq (rg_c FF2 MM2 [(0, s_ 0 (.cells (cn .u8 (List.replicate 16 0)) 42))] 6 [] [] (⟨(by kernel_rfl), fun bi => fun _ _ FF4 MM4 => then_n ?_⟩))
    refine wp_seq (rg_c FF4 MM4 [(2, r_ (iN 16) [(0, .cells (cn .u8 (X.take 16)) 42)])] 7 [] [] (⟨by decide, by decide, by decide, (by have h0 := copyStr_ok (P := Try.prog) (l := [(12, sB X), (11, .slice (some ⟨bi, 0, none⟩) 16 16), (5, pT bi), (4, .bool false), (3, sB []), (2, pT br), (0, sB X)]) (L := [(bi, .cells (cn .u8 (List.replicate 16 0)) 42), (br, .cells (cn .u8 (List.replicate 16 0)) 42)]) (o := opAt Try.f20 4 2) (p := .tmp 11) (q := .tmp 12) (t := 38) (tq := 9) (e := 5) (T := 42) (off := 0) (len := 16) (X := X) (cs := cn .u8 (List.replicate 16 0)) (i := 0) (by kernel_rfl) rfl rfl hX Try.underlying38 (by kernel_rfl) rfl (by rw [cn_size, List.length_replicate]; decide) (parts_cells h52); rw [show min X.length 16 = 16 by omega] at h0; exact h0), fun _ _ FF5 MM5 => then_n ?_⟩))
    refine wp_seq (rg_dc 5 FF5 MM5 [(0, b_ 0), (2, t_ (sB (X.drop 16))), (0, t_ (sB (X.drop 16)))] [(0, b_ 1)] 6 [] [] (⟨rfl, ((cn_size _ _).trans (by rw [List.length_take, h52]; rfl)), (by simp only [bs_size]; omega), (Nat.zero_le _), (vS2 (bs_from _ _)), (callP_of en_clone (clone_any (X.drop 16) (drop_lt hX) (by rw [List.length_drop]; omega)) _), rfl, ((cn_size _ _).trans (List.length_replicate ..)), ((cn_size _ _).trans (by rw [List.length_take, h52]; rfl)), (cn_one _ _), rfl, fun _ _ FF6 MM6 => then_n ?_⟩))
    refine wp_ret ?_
    repeat first | refine then_ret ?_ | refine inb_ret ?_
    exact (ret_ctt FF6 MM6 (k := 16) (i := 1) (j := 3) (m := 1) (m2 := 0) Try.results20 rfl rfl rfl rfl Try.underlying42 rfl (by kernel_rfl) ((cn_size _ _).trans (by rw [List.length_take, h52]; rfl)) ⟨by rw [partsR_ok h52], MM6.below⟩)
end Go.Proofs.Ytlcadhfdmpjdkaa
namespace Go.Proofs.Ytlcadhfdmpjdkaa
open Go.RowKit
set_option maxRecDepth 100000 in
theorem dno_any  (w0 : World) :
    Calls Try.prog 17 #[] w0 fun e w' => e = .returned (sB (List.replicate 36 0)) ∧ Below w0.heap.size w0 w' := by
  refine enter_fr Try.func17 rfl Try.ntmps17 (by simp) fun ac (FF : Fr 3 ac []) => ?_
  have MM := MemS.start w0
  refine wp_seq (rg_c FF MM [(0, t_ (sB []))] 1 [] [] (⟨(by kernel_rfl), fun _ _ FF1 MM1 => then_n ?_⟩))
  refine wp_seq (rg_c FF1 MM1 [(0, n_ (.slice none 36 36) (.cells (cn .u8 (List.replicate 36 0)) 5)), (0, l_ 0 (sB (List.replicate 36 0)))] 1 [] [] (⟨(make_ok (t := 38) (e := 5) (p := (.const (iN 36))) (q := (.const (iN 36))) (by kernel_rfl) rfl rfl Try.underlying38 (by kernel_rfl) (by decide)), fun b1 => ⟨rfl, (str_all (List.length_replicate ..) (rep0_lt)), fun _ _ FF2 MM2 => then_n ?_⟩⟩))
  refine wp_ret ?_
  repeat first | refine then_ret ?_ | refine inb_ret ?_
  exact (ret_fr FF2 0 Try.results17 rfl ⟨rfl, MM2.below⟩)
set_option maxRecDepth 100000 in
theorem dbox_any (X : List Nat) (hX : ∀ i, X.getD i 0 < 256) (w0 : World) :
    Calls Try.prog 18 #[sB X] w0 fun e w' => e = .returned (.string (bs (partsR X).2.1)) ∧ Below w0.heap.size w0 w' := by
  refine enter_fr Try.func18 rfl Try.ntmps18 (by simp) fun ac (FF : Fr 13 ac [(0, sB X)]) => ?_
  have MM := MemS.start w0
  refine wp_seq (rg_c FF MM [(0, t_ (sB []))] 3 [] [] (⟨(by kernel_rfl), fun _ _ FF1 MM1 => then_n ?_⟩))
  refine wp_seq (rg_c FF1 MM1 [(1, t_ (.tuple #[.agg (cn .u8 ((partsR X).1)), sB ((partsR X).2.1), .bool ((partsR X).2.2)])), (4, s_ 0 (.cells (cn .u8 (List.replicate 16 0)) 42)), (0, b_ 0)] 3 [4] [0] (⟨(callP_of en_parts (parts_any X hX) _), (by kernel_rfl), fun bi => ⟨rfl, ((cn_size _ _).trans (List.length_replicate ..)), ((cn_size _ _).trans (partsR_len X)), (cn_one _ _), rfl, fun _ _ FF2 MM2 => then_n ?_⟩⟩))
  refine wp_seq (rg_c FF2 MM2 [] 3 [] [] (fun _ _ FF3 MM3 => then_n ?_))
  refine wp_ret ?_
  repeat first | refine then_ret ?_ | refine inb_ret ?_
  exact (ret_fr FF3 0 Try.results18 rfl ⟨rfl, MM3.below⟩)
/-- The groups, as the program keeps them. -/
abbrev GMO (l : List (List Nat × Grp)) : Obj := mapO (fun X => .agg (cn .u8 X)) grpV l
theorem id_law : MKey Try.prog 42 (fun X => .agg (cn .u8 X)) (BytesK 16) := bytes_key (e := 5) (d := 65) Try.laidOut (by decide +kernel) (by decide +kernel) (by decide +kernel) (by decide +kernel) Try.underlying42 Try.underlying5 (by kernel_rfl) (by kernel_rfl)
/-- A map of groups that a call has made. -/
def NewM (l : List (List Nat × Grp)) (w w' : World) (v : Value) : Prop := ∃ g, v = .map (some g) ∧ Below w.heap.size w w' ∧ w.heap.size ≤ g ∧ w'.heap[g]? = some (GMO l)
set_option maxRecDepth 100000 in
theorem grp_O (O : Blks) (hD : Distinct O) (p : Option Addr) (n c : Nat) (s : Nat → List Nat) (hn : n ≤ 1000000) (hs : ∀ i, i < n → ∀ j, (s i).getD j 0 < 256) (hF : RowO O p n (fun k9 => sB (s k9))) (w0 : World) (H : Has w0 O) :
    Calls Try.prog 16 #[.slice p n c] w0 fun e w' => ∃ v, e = .returned v ∧ NewM (grpS s n) w0 w' v := by
  refine enter_fr Try.func16 rfl Try.ntmps16 (by simp) fun ac (FF : Fr 45 ac [(0, .slice p n c)]) => ?_
  have MM : MemS (fun k => k < w0.heap.size ∧ ∀ x ∈ O, x.1 ≠ k) w0 w0 O [] := MemS.startN H hD
  refine wp_seq (rg_c FF MM [] 3 [] [] (fun _ _ FF1 MM1 => then_n ?_))
  refine wp_seq (rg_c FF1 MM1 [(0, n_ (.map none) (GMO []))] 4 [] [] (⟨(makeMap_ok (t := 39) (by kernel_rfl)), fun bm => fun _ wd2 FF2 MM2 => then_n ?_⟩))
  have MMr3 : MemS (fun k => k < w0.heap.size ∧ ∀ x ∈ O, x.1 ≠ k) w0 wd2 ((bm, GMO (grpS s 0)) :: O) [] := MM2
  refine wp_seq ?_
  refine wp_seq (rg_c FF2 MMr3 [] 14 [] [0] (fun _ _ FF4 MM4 => then_n ?_))
  refine wp_for (fun a' w' => ∃ i : Nat, i ≤ n ∧ Fr 45 a' [(13, iN i), (12, iN n), (11, .slice p n c), (3, .map (some bm))] ∧ MemS (fun k => k < w0.heap.size ∧ ∀ x ∈ O, x.1 ≠ k) w0 w' ((bm, GMO (grpS s i)) :: O) []) (fun a' _ => (n - cnt 13 a').toNat) ⟨0, Nat.zero_le _, FF4.pick [0, 1, 2, 3], MM4⟩ ?_
  rintro ac5 wd5 ⟨i, hi, FF5, MM5⟩
  have hc := cnt_of (FF5.get 0 rfl)
  refine rg_c FF5 MM5 [] 15 [] [] (fun _ _ FF6 MM6 => ?_)
  by_cases hlt : i < n
  · skip
    refine then_n (.inl ⟨(FF6.ev 0 rfl).trans (dec_t hlt), ?_⟩)
    refine wp_seq (rg_c FF6 MM6 [(1, f_ (.pointer (some ⟨gOf p, oOf p + i, none⟩))), (0, f_ (sB (s i)))] 14 [] [] (⟨(rowX_addr (x := (.tmp 11)) (y := (.tmp 13)) (k := 1) (i := i) (by kernel_rfl) rfl rfl Try.underlying25 (by kernel_rfl) hF (by omega) (by omega)), (rowX_load (x := (.tmp 16)) (j := i) (by kernel_rfl) rfl Try.underlying9 rfl hF (fun _ hx => List.mem_cons_of_mem _ (hx)) (by omega) rfl), fun _ _ FF7 MM7 => then_n ?_⟩))
    by_cases hl : (s i).length = 52
    · skip
      refine wp_seq (rg_c FF7 MM7 [(1, t_ (.tuple #[.agg (cn .u8 ((s i).take 16)), sB ((s i).drop 16), .bool true])), (4, s_ 0 (.cells (cn .u8 (List.replicate 16 0)) 42)), (0, b_ 0)] 14 [] [7] (⟨(callP_of en_parts (fun w => by have h0 := parts_any (s i) (hs i hlt) w; rw [partsR_ok hl] at h0; exact h0) _), (by kernel_rfl), fun bi => ⟨rfl, ((cn_size _ _).trans (List.length_replicate ..)), ((cn_size _ _).trans (by rw [List.length_take, hl]; rfl)), (cn_one _ _), rfl, fun _ _ FF8 MM8 => then_n ?_⟩⟩))
      refine wp_seq ?_
      refine wp_seq (rg_c FF8 MM8 [] 14 [25] [] (fun _ _ FF9 MM9 => then_n ?_))
      refine wp_cond_false (FF9.ev 0 rfl) ?_
      refine wp_skip ?_
      refine then_n ?_
      cases hg : mget ((s i).take 16) (grpS s i) with
      | none =>
        refine wp_seq (rg_c FF9 MM9 [(1, b_ 0), (0, f_ (aG #[iN 0, iN 0, iN 0])), (1, b_ 0)] 14 [] [] (⟨rfl, ((cn_size _ _).trans (by rw [List.length_take, hl]; rfl)), (mapNo_ok (t := 39) (m := (.tmp 26)) (y := (.tmp 27)) (b := bm) (i := 1) (kf := (fun X => .agg (cn .u8 X))) (vf := grpV) (l := grpS s i) (x := (s i).take 16) (c := false) (z := aG #[iN 0, iN 0, iN 0]) (by kernel_rfl) rfl rfl Try.underlying39 id_law (grp_keys i (fun j hj => hs j (by omega))) (grp_uniq s i) ⟨(by rw [List.length_take, hl]; rfl), take_lt (hs i hlt)⟩ rfl (by kernel_rfl) hg), fun bg => ⟨rfl, rfl, rfl, (by kernel_rfl), rfl, fun _ _ FF10 MM10 => then_n ?_⟩⟩))
        refine wp_seq ?_
        refine wp_seq (rg_c FF10 MM10 [(1, l_ 0 (iN 0)), (0, w_ 2)] 14 [31] [] (⟨rfl, rfl, by decide, fun _ _ FF11 MM11 => then_n ?_⟩))
        refine wp_cond_true (FF11.ev 0 rfl) ?_
        refine rg_c FF11 MM11 [(2, s_ 0 (oC #[iN 0, iN i, iN 0] 44))] 14 [] [] (⟨rfl, (by simp), (.inl rfl), rfl, fun _ _ FF12 MM12 => ?_⟩)
        refine then_n ?_
        refine wp_seq (rg_c FF12 MM12 [(1, l_ 0 (iN 0)), (2, s_ 0 (oC #[iN 1, iN i, iN 0] 44))] 14 [] [] (⟨rfl, rfl, by decide, rfl, (by simp), (.inl rfl), rfl, fun _ _ FF13 MM13 => then_n ?_⟩))
        refine wp_seq (rg_c FF13 MM13 [(2, s_ 0 (oC #[iN 1, iN i, iN i] 44))] 14 [] [] (⟨rfl, (by simp), (.inl rfl), rfl, fun _ _ FF14 MM14 => then_n ?_⟩))
        refine rg_c FF14 MM14 [(1, b_ 1), (0, b_ 0), (0, r_ undef [(2, GMO (grpS s (i + 1)))])] 14 [] [] (⟨rfl, ((cn_size _ _).trans (by rw [List.length_take, hl]; rfl)), rfl, rfl, (by rw [grp_yes hl, hg]; exact (mapPut_ok (t := 39) (m := (.tmp 40)) (y := (.tmp 41)) (z := (.tmp 42)) (b := bm) (i := 2) (kf := (fun X => .agg (cn .u8 X))) (vf := grpV) (l := grpS s i) (x := (s i).take 16) (v := (1, i, i)) (by kernel_rfl) rfl rfl rfl Try.underlying39 id_law (grp_keys i (fun j hj => hs j (by omega))) (grp_uniq s i) ⟨(by rw [List.length_take, hl]; rfl), take_lt (hs i hlt)⟩ rfl)), fun _ _ FF15 MM15 => ?_⟩)
        refine inb_n (then_n ?_)
        refine rg_c FF15 MM15 [] 14 [] [] (⟨by omega, fun _ _ FF16 MM16 => ?_⟩)
        have hd := cnt_of (FF16.get 0 rfl)
        refine then_n ⟨⟨i + 1, by omega, FF16.pick [0, 6, 7, 8], ((MM16.dropAt 1).dropAt 0)⟩, ?_⟩
        rw [hc, hd]; omega
      | some g =>
        obtain ⟨pg, hpg⟩ := grp_get hg
        obtain ⟨ha1, ha2, ha3, ha4, ha5, ha6⟩ := grp_at hpg
        have ha7 := cnt_le s g.2.1 i
        refine wp_seq (rg_c FF9 MM9 [(1, b_ 0), (0, f_ (aG #[iN g.1, iN g.2.1, iN g.2.2])), (1, b_ 0)] 14 [] [] (⟨rfl, ((cn_size _ _).trans (by rw [List.length_take, hl]; rfl)), (mapYes_ok (t := 39) (m := (.tmp 26)) (y := (.tmp 27)) (b := bm) (i := 1) (kf := (fun X => .agg (cn .u8 X))) (vf := grpV) (l := grpS s i) (x := (s i).take 16) (c := false) (v := g) (by kernel_rfl) rfl rfl Try.underlying39 id_law (grp_keys i (fun j hj => hs j (by omega))) (grp_uniq s i) ⟨(by rw [List.length_take, hl]; rfl), take_lt (hs i hlt)⟩ rfl hg), fun bg => ⟨rfl, rfl, rfl, (by kernel_rfl), rfl, fun _ _ FF17 MM17 => then_n ?_⟩⟩))
        refine wp_seq ?_
        refine wp_seq (rg_c FF17 MM17 [(1, l_ 0 (iN g.1)), (0, w_ 3)] 14 [31] [] (⟨rfl, rfl, by omega, fun _ _ FF18 MM18 => then_n ?_⟩))
        refine wp_cond_false (FF18.ev 0 rfl) ?_
        refine wp_skip ?_
        refine then_n ?_
        refine wp_seq (rg_c FF18 MM18 [(1, l_ 0 (iN g.1)), (2, s_ 0 (oC #[iN (g.1 + 1), iN g.2.1, iN g.2.2] 44))] 14 [] [] (⟨rfl, rfl, by omega, rfl, (by simp), (.inl rfl), rfl, fun _ _ FF19 MM19 => then_n ?_⟩))
        refine wp_seq (rg_c FF19 MM19 [(2, s_ 0 (oC #[iN (g.1 + 1), iN g.2.1, iN i] 44))] 14 [] [] (⟨rfl, (by simp), (.inl rfl), rfl, fun _ _ FF20 MM20 => then_n ?_⟩))
        refine rg_c FF20 MM20 [(1, b_ 1), (0, b_ 0), (0, r_ undef [(2, GMO (grpS s (i + 1)))])] 14 [] [] (⟨rfl, ((cn_size _ _).trans (by rw [List.length_take, hl]; rfl)), rfl, rfl, (by rw [grp_yes hl, hg]; exact (mapPut_ok (t := 39) (m := (.tmp 40)) (y := (.tmp 41)) (z := (.tmp 42)) (b := bm) (i := 2) (kf := (fun X => .agg (cn .u8 X))) (vf := grpV) (l := grpS s i) (x := (s i).take 16) (v := (g.1 + 1, g.2.1, i)) (by kernel_rfl) rfl rfl rfl Try.underlying39 id_law (grp_keys i (fun j hj => hs j (by omega))) (grp_uniq s i) ⟨(by rw [List.length_take, hl]; rfl), take_lt (hs i hlt)⟩ rfl)), fun _ _ FF21 MM21 => ?_⟩)
        refine inb_n (then_n ?_)
        refine rg_c FF21 MM21 [] 14 [] [] (⟨by omega, fun _ _ FF22 MM22 => ?_⟩)
        have hd := cnt_of (FF22.get 0 rfl)
        refine then_n ⟨⟨i + 1, by omega, FF22.pick [0, 6, 7, 8], ((MM22.dropAt 1).dropAt 0)⟩, ?_⟩
        rw [hc, hd]; omega
    · skip
      refine wp_seq (rg_c FF7 MM7 [(1, t_ (.tuple #[.agg (cn .u8 (List.replicate 16 0)), sB [], .bool false])), (4, s_ 0 (.cells (cn .u8 (List.replicate 16 0)) 42)), (0, b_ 0)] 14 [] [7] (⟨(callP_of en_parts (fun w => by have h0 := parts_any (s i) (hs i hlt) w; rw [partsR_no hl] at h0; exact h0) _), (by kernel_rfl), fun bi => ⟨rfl, ((cn_size _ _).trans (List.length_replicate ..)), ((cn_size _ _).trans (List.length_replicate ..)), (cn_one _ _), rfl, fun _ _ FF23 MM23 => then_n ?_⟩⟩))
      refine wp_seq ?_
      refine wp_seq (rg_c FF23 MM23 [] 14 [25] [] (fun _ wd24 FF24 MM24 => then_n ?_))
      have MMr25 : MemS (fun k => k < w0.heap.size ∧ ∀ x ∈ O, x.1 ≠ k) w0 wd24 ((bi, .cells (cn .u8 (List.replicate 16 0)) 42) :: (bm, GMO (grpS s (i + 1))) :: O) [] := by rw [grp_no hl]; exact MM24
      refine wp_cond_true (FF24.ev 0 rfl) ?_
      refine wp_exit ?_
      repeat first | refine then_exit ?_ | refine (inb_other (by decide) _ _ _).2 ?_ | refine (inb_exit _ _ _ _).2 ?_
      refine then_n ?_
      refine rg_c FF24 MMr25 [] 14 [] [] (⟨by omega, fun _ _ FF26 MM26 => ?_⟩)
      have hd := cnt_of (FF26.get 0 rfl)
      refine then_n ⟨⟨i + 1, by omega, FF26.pick [0, 5, 6, 7], (MM26.dropAt 0)⟩, ?_⟩
      rw [hc, hd]; omega
  · skip
    refine then_n (.inr ⟨(FF6.ev 0 rfl).trans (dec_f hlt), ?_⟩)
    obtain rfl : n = i := by omega
    refine then_n ?_
    refine wp_seq (rg_c FF6 MM6 [] 14 [] [] (fun _ _ FF27 MM27 => then_n ?_))
    refine wp_ret ?_
    repeat first | refine then_ret ?_ | refine inb_ret ?_
    exact (ret_fr FF27 0 Try.results16 rfl ⟨_, rfl, bm, rfl, MM27.belowN H (fun _ hx => List.mem_cons_of_mem _ (hx)), MM27.newest (fun _ hx => hx), MM27.get 0 rfl⟩)
theorem grp_w (p : Option Addr) (n c : Nat) (s : Nat → List Nat) (hn : n ≤ 1000000) (hs : ∀ i, i < n → ∀ j, (s i).getD j 0 < 256) (w : World) (hF : RowIn w p n (fun k9 => sB (s k9))) :
    Calls Try.prog 16 #[.slice p n c] w fun e w' => ∃ v, e = .returned v ∧ NewM (grpS s n) w w' v := by
  obtain ⟨O, h1, h2, h3⟩ := row_O hF
  exact grp_O O h2 p n c s hn hs h3 w h1
end Go.Proofs.Ytlcadhfdmpjdkaa
namespace Go.Proofs.Ytlcadhfdmpjdkaa
open Go.RowKit
theorem upto_set (f : Nat → List Nat) (i j : Nat) : (if j = i then f i else if j < i then f j else []) = if j < i + 1 then f j else [] := by
  by_cases h : j = i
  · subst h; rw [if_pos rfl, if_pos (by omega)]
  · rw [if_neg h]
    by_cases h2 : j < i
    · rw [if_pos h2, if_pos (by omega)]
    · rw [if_neg h2, if_neg (by omega)]
/-- A row that was made. -/
def NewF (n : Nat) (F : Nat → Value) (T : TypeId) (w w' : World) (v : Value) : Prop := ∃ g, v = .slice (some ⟨g, 0, none⟩) n n ∧ Below w.heap.size w w' ∧ w.heap.size ≤ g ∧ w'.heap[g]? = some (.cells (fc n F) T)
set_option maxHeartbeats 1000000 in
set_option maxRecDepth 100000 in
theorem dm_O (O : Blks) (hD : Distinct O) (p : Option Addr) (n c : Nat) (s : Nat → List Nat) (hn : n ≤ 1000000) (hs : ∀ i, i < n → ∀ j, (s i).getD j 0 < 256) (hF : RowO O p n (fun k9 => sB (s k9))) (w0 : World) (H : Has w0 O) :
    Calls Try.prog 13 #[.slice p n c] w0 fun e w' => ∃ v, e = .returned v ∧ NewF n (fun k9 => sB (mAt s n k9)) 9 w0 w' v := by
  refine enter_fr Try.func13 rfl Try.ntmps13 (by simp) fun ac (FF : Fr 51 ac [(0, .slice p n c)]) => ?_
  have MM : MemS (fun k => k < w0.heap.size ∧ ∀ x ∈ O, x.1 ≠ k) w0 w0 O [] := MemS.startN H hD
  refine wp_seq (rg_c FF MM [] 3 [] [] (fun _ _ FF1 MM1 => then_n ?_))
  refine wp_seq (rg_c FF1 MM1 [(2, n_ (.slice none n n) (.cells (fc n (fun k9 => sB [])) 9))] 4 [] [] (⟨(makeF_ok (t := 25) (e := 9) (p := (.tmp 8)) (q := (.tmp 8)) (bb := 16) (z := sB []) (by kernel_rfl) rfl rfl Try.underlying25 (by kernel_rfl) rfl (by omega) (by omega)), fun bl => fun _ wd2 FF2 MM2 => then_n ?_⟩))
  have MMr3 : MemS (fun k => k < w0.heap.size ∧ ∀ x ∈ O, x.1 ≠ k) w0 wd2 ((bl, .cells (fc n (fun k9 => sB (if k9 < 0 then List.replicate 36 0 else []))) 9) :: O) [] := by rw [show fc n (fun k9 => sB (if k9 < 0 then List.replicate 36 0 else [])) = fc n (fun k9 => sB []) from fc_cong fun j _ => vS (if_neg (Nat.not_lt_zero j))]; exact MM2
  refine wp_seq ?_
  refine wp_seq (rg_c FF2 MMr3 [] 13 [] [10] (fun _ _ FF4 MM4 => then_n ?_))
  refine wp_for (fun a' w' => ∃ i : Nat, i ≤ n ∧ Fr 51 a' [(12, iN i), (11, iN n), (3, .slice (some ⟨bl, 0, none⟩) n n), (0, .slice p n c)] ∧ MemS (fun k => k < w0.heap.size ∧ ∀ x ∈ O, x.1 ≠ k) w0 w' ((bl, .cells (fc n (fun k9 => sB (if k9 < i then List.replicate 36 0 else []))) 9) :: O) []) (fun a' _ => (n - cnt 12 a').toNat) ⟨0, Nat.zero_le _, FF4.pick [0, 1, 2, 4], MM4⟩ ?_
  rintro ac5 wd5 ⟨i, hi, FF5, MM5⟩
  have hc := cnt_of (FF5.get 0 rfl)
  refine rg_c FF5 MM5 [] 14 [] [] (fun _ wd6 FF6 MM6 => ?_)
  by_cases hlt : i < n
  · skip
    refine then_n (.inl ⟨(FF6.ev 0 rfl).trans (dec_t hlt), ?_⟩)
    refine wp_seq (rg_c FF6 MM6 [] 13 [] [] (fun _ _ FF7 MM7 => then_n ?_))
    refine rg_c FF7 MM7 [(2, t_ (sB (List.replicate 36 0))), (0, w_ 1), (0, s_ 0 (.cells (fc n (fun k9 => sB (if k9 < i + 1 then List.replicate 36 0 else []))) 9))] 13 [] [] (⟨(callP_of en_dno dno_any _), by omega, rfl, (by rw [fc_size]; exact hlt), (.inl rfl), ((fc_set _ _ _ _).trans (fc_cong fun j _ => ite_str.trans (vS (upto_set (fun _ => List.replicate 36 0) i j)))), fun _ _ FF8 MM8 => ?_⟩)
    refine inb_n (then_n ?_)
    refine rg_c FF8 MM8 [] 13 [] [] (⟨by omega, fun _ _ FF9 MM9 => ?_⟩)
    have hd := cnt_of (FF9.get 0 rfl)
    refine then_n ⟨⟨i + 1, by omega, FF9.pick [0, 2, 3, 4], MM9⟩, ?_⟩
    rw [hc, hd]; omega
  · skip
    refine then_n (.inr ⟨(FF6.ev 0 rfl).trans (dec_f hlt), ?_⟩)
    obtain rfl : n = i := by omega
    have MMr10 : MemS (fun k => k < w0.heap.size ∧ ∀ x ∈ O, x.1 ≠ k) w0 wd6 ((bl, .cells (fc n (fun k9 => sB (mV s n [] k9))) 9) :: O) [] := by rw [show fc n (fun k9 => sB (mV s n [] k9)) = fc n (fun k9 => sB (if k9 < n then List.replicate 36 0 else [])) from fc_cong fun j hj => vS ((mV_nil s n j).trans (if_pos hj).symm)]; exact MM6
    refine then_n ?_
    refine wp_seq ?_
    refine wp_seq (wp_region_list ?_)
    refine rp_c 1 FF6 MMr10 [] 13 [20] [] (fun _ _ FF11 MM11 => ?_)
    refine st_callE [12, 11, 3, 0, 21] FF11 (d := 21) (mk := fun v => v) en_grp rfl rfl (grp_w p n c s (by omega) hs _ (hF.at (Has.tl MM11.hasL))) rfl (by kernel_rfl) (by decide) fun ac13 wd13 lv12 FF13 hr14 => ?_
    obtain ⟨bm, rfl, hB_bm, hf_bm, hb_bm⟩ := hr14
    have MM15 := MM11.keep hB_bm
    have MM16 : MemS (fun k => k < w0.heap.size ∧ ∀ x ∈ O, x.1 ≠ k) w0 wd13 ((bm, GMO (grpS s n)) :: (bl, .cells (fc n (fun k9 => sB (mV s n [] k9))) 9) :: O) [] := MM11.addFresh MM15 hb_bm hf_bm
    refine rp_c 1 FF13 MM16 [(0, n_ (.pointer none) (iterO bm (grpS s n).length []))] 13 [22] [] (⟨(range_ok (t := 39) (m := (.tmp 21)) (i := 0) (kf := (fun X => .agg (cn .u8 X))) (vf := grpV) (l := grpS s n) (by kernel_rfl) rfl Try.underlying39 rfl), fun it => fun _ _ FF17 MM17 => ?_⟩)
    refine wpl_nil (then_n ?_)
    refine wp_forw (fun a' w' => ∃ seen : List Nat, seen.Nodup ∧ (∀ p ∈ seen, p < (grpS s n).length) ∧ Fr 51 a' [(22, pT it), (12, iN n), (11, iN n), (3, .slice (some ⟨bl, 0, none⟩) n n), (0, .slice p n c)] ∧ MemS (fun k => k < w0.heap.size ∧ ∀ x ∈ O, x.1 ≠ k) w0 w' ((it, iterO bm (grpS s n).length seen) :: (bm, GMO (grpS s n)) :: (bl, .cells (fc n (fun k9 => sB (mV s n seen k9))) 9) :: O) []) (fun _ w' => (Go.leftOf (ents (fun X => Value.agg (cn .u8 X)) grpV 0 (grpS s n)).toArray (w'.iterSeen it)).size) ⟨[], (.nil), (fun _ h => (nomatch h)), FF17.pick [0, 1, 2, 3, 4], MM17⟩ ?_
    rintro ac18 wd18 ⟨seen, hnd, hsb, FF18, MM18⟩
    have hc := iterSeen_of (MM18.get 0 rfl)
    refine wp_region_list ?_
    refine st_next [22, 12, 11, 3, 0, 24, 23] FF18 MM18 (m := .tmp 22) (i := 1) (j := 0) (l := grpS s n) (seen := seen) rfl rfl rfl rfl (d := 23) rfl rfl (by decide) (fun hall ac18a FFa => ?_) (fun pz x g ac18b wdb hp hns FFb MMb => ?_)
    · skip
      refine rp_c 1 FFa MM18 [] 23 [24] [] (fun _ wd19 FF19 MM19 => ?_)
      refine wpl_nil ?_
      refine then_n (.inr ⟨FF19.ev 0 rfl, ?_⟩)
      have MMr20 : MemS (fun k => k < w0.heap.size ∧ ∀ x ∈ O, x.1 ≠ k) w0 wd19 ((it, iterO bm (grpS s n).length seen) :: (bm, GMO (grpS s n)) :: (bl, .cells (fc n (fun k9 => sB (mAt s n k9))) 9) :: O) [] := by rw [show fc n (fun k9 => sB (mAt s n k9)) = fc n (fun k9 => sB (mV s n seen k9)) from fc_cong fun j hj => vS (mV_all hall hj).symm]; exact MM19
      refine then_n ?_
      refine wp_seq (rg_c FF19 MMr20 [] 23 [] [] (fun _ _ FF21 MM21 => then_n ?_))
      refine wp_ret ?_
      repeat first | refine then_ret ?_ | refine inb_ret ?_
      exact (ret_fr FF21 0 Try.results13 rfl ⟨_, rfl, bl, rfl, MM21.belowN H (fun _ hx => List.mem_cons_of_mem _ (List.mem_cons_of_mem _ (List.mem_cons_of_mem _ (hx)))), (((MM21.dropAt 1).dropAt 0)).newest (fun _ hx => hx), MM21.get 2 rfl⟩)
    · skip
      obtain ⟨ha1, ha2, ha3, ha4, ha5, ha6⟩ := grp_at hp
      obtain ⟨hb1, hb2⟩ := grp_lst hp
      have hpl : pz < (grpS s n).length := (List.getElem?_eq_some_iff.1 hp).1
      have hnd' : (seen ++ [pz]).Nodup := List.nodup_append.2 ⟨hnd, (by simp), fun a ha b hb => by rw [List.mem_singleton.1 hb]; exact fun e => hns (e ▸ ha)⟩
      have hsb' : ∀ q ∈ seen ++ [pz], q < (grpS s n).length := fun q hq => (List.mem_append.1 hq).elim (hsb q) (fun h => List.mem_singleton.1 h ▸ hpl)
      refine rp_c 1 FFb MMb [] 23 [24] [] (fun _ _ FF22 MM22 => ?_)
      refine wpl_nil ?_
      refine then_n (.inl ⟨FF22.ev 0 rfl, ?_⟩)
      refine wp_seq (rg_c FF22 MM22 [(0, f_ (.tuple #[.agg (cn .u8 x), aG #[iN g.1, iN g.2.1, iN g.2.2]])), (2, b_ 0)] 23 [] [] (⟨(entry_ok (m := (.tmp 22)) (i := 1) (j := 0) (b := bm) (r := it) (kf := (fun X => .agg (cn .u8 X))) (vf := grpV) (l := grpS s n) (seen := seen) (p := pz) (x := x) (v := g) (by kernel_rfl) rfl rfl rfl hp), fun bg => ⟨rfl, rfl, rfl, (by kernel_rfl), rfl, fun _ _ FF23 MM23 => then_n ?_⟩⟩))
      refine wp_seq (rg_c FF23 MM23 [(1, l_ 0 (iN g.1))] 23 [29] [] (⟨rfl, rfl, fun _ wd24 FF24 MM24 => then_n ?_⟩))
      by_cases hs29 : g.1 = 2
      · refine wp_cond_true ((FF24.ev 0 rfl).trans (dec_t hs29)) ?_
        have hlf : (s g.2.1).length = 52 := ha1.1
        have hll : (s g.2.2).length = 52 := hb2.2.1
        refine late_stand (N := 22) ((bg, oC #[iN g.1, iN g.2.1, iN g.2.2] 44) :: O) (by kernel_rfl) (by kernel_rfl) MM24 fun wq25 MM26 => ?_
        refine late_take FF24 (i := 0) (oi := (opAt Try.f13 11 0)) (v := (.slice (some ⟨bl, 0, none⟩) n n)) (d := 30) ((((MM26.dropAt 3).dropAt 2).dropAt 1)).hasL (by kernel_rfl) (by kernel_rfl) (by kernel_rfl) (by kernel_rfl) (by kernel_rfl) (fun _ _ _ _ _ h => h) (by kernel_rfl) (by decide) (by kernel_rfl) (mvV (x := (.tmp 3)) (by kernel_rfl) rfl) fun _ FF27 => ?_
        refine late_take FF27 (i := 1) (oi := (opAt Try.f13 11 1)) (v := (.pointer (some ⟨bg, 1, none⟩))) (d := 31) ((((MM26.dropAt 3).dropAt 2).dropAt 1)).hasL (by kernel_rfl) (by kernel_rfl) (by kernel_rfl) (by kernel_rfl) (by kernel_rfl) (fun _ _ _ _ _ h => h) (by kernel_rfl) (by decide) (by kernel_rfl) (fldV (x := (.tmp 6)) (t := 44) (k := 1) (cs := []) (by kernel_rfl) rfl (by kernel_rfl)) fun _ FF28 => ?_
        refine late_take FF28 (i := 2) (oi := (opAt Try.f13 11 2)) (v := (iN g.2.1)) (d := 32) ((((MM26.dropAt 3).dropAt 2).dropAt 1)).hasL (by kernel_rfl) (by kernel_rfl) (by kernel_rfl) (by kernel_rfl) (by kernel_rfl) (fun _ _ _ _ _ h => h) (by kernel_rfl) (by decide) (by kernel_rfl) (loadVi (x := (.tmp 31)) (k := 0) (by kernel_rfl) rfl Try.underlying3 rfl rfl rfl) fun ac29 FF29 => ?_
        have FFz30 : Fr 51 ac29 [(32, iN g.2.1), (30, .slice (some ⟨bl, 0, none⟩) n n), (6, pT bg), (22, pT it), (12, iN n), (11, iN n), (3, .slice (some ⟨bl, 0, none⟩) n n), (0, .slice p n c)] := FF29.pick [0, 2, 4, 5, 6, 7, 8, 9]
        refine late_take FFz30 (i := 3) (oi := (opAt Try.f13 11 3)) (v := (.slice (some ⟨bl, 0, none⟩) n n)) (d := 33) ((((MM26.dropAt 3).dropAt 2).dropAt 1)).hasL (by kernel_rfl) (by kernel_rfl) (by kernel_rfl) (by kernel_rfl) (by kernel_rfl) (fun _ _ _ _ _ h => h) (by kernel_rfl) (by decide) (by kernel_rfl) (mvV (x := (.tmp 3)) (by kernel_rfl) rfl) fun _ FF31 => ?_
        refine late_take FF31 (i := 4) (oi := (opAt Try.f13 11 4)) (v := (.pointer (some ⟨bg, 2, none⟩))) (d := 34) ((((MM26.dropAt 3).dropAt 2).dropAt 1)).hasL (by kernel_rfl) (by kernel_rfl) (by kernel_rfl) (by kernel_rfl) (by kernel_rfl) (fun _ _ _ _ _ h => h) (by kernel_rfl) (by decide) (by kernel_rfl) (fldV (x := (.tmp 6)) (t := 44) (k := 2) (cs := []) (by kernel_rfl) rfl (by kernel_rfl)) fun _ FF32 => ?_
        refine late_take FF32 (i := 5) (oi := (opAt Try.f13 11 5)) (v := (iN g.2.2)) (d := 35) ((((MM26.dropAt 3).dropAt 2).dropAt 1)).hasL (by kernel_rfl) (by kernel_rfl) (by kernel_rfl) (by kernel_rfl) (by kernel_rfl) (fun _ _ _ _ _ h => h) (by kernel_rfl) (by decide) (by kernel_rfl) (loadVi (x := (.tmp 34)) (k := 0) (by kernel_rfl) rfl Try.underlying3 rfl rfl rfl) fun ac33 FF33 => ?_
        have FFz34 : Fr 51 ac33 [(35, iN g.2.2), (33, .slice (some ⟨bl, 0, none⟩) n n), (32, iN g.2.1), (30, .slice (some ⟨bl, 0, none⟩) n n), (6, pT bg), (22, pT it), (12, iN n), (11, iN n), (3, .slice (some ⟨bl, 0, none⟩) n n), (0, .slice p n c)] := FF33.pick [0, 2, 3, 4, 5, 6, 7, 8, 9, 10]
        refine late_take FFz34 (i := 6) (oi := (opAt Try.f13 11 6)) (v := (.slice p n c)) (d := 36) ((((MM26.dropAt 3).dropAt 2).dropAt 1)).hasL (by kernel_rfl) (by kernel_rfl) (by kernel_rfl) (by kernel_rfl) (by kernel_rfl) (fun _ _ _ _ _ h => h) (by kernel_rfl) (by decide) (by kernel_rfl) (mvV (x := (.tmp 0)) (by kernel_rfl) rfl) fun _ FF35 => ?_
        refine late_take FF35 (i := 7) (oi := (opAt Try.f13 11 7)) (v := (.pointer (some ⟨bg, 2, none⟩))) (d := 37) ((((MM26.dropAt 3).dropAt 2).dropAt 1)).hasL (by kernel_rfl) (by kernel_rfl) (by kernel_rfl) (by kernel_rfl) (by kernel_rfl) (fun _ _ _ _ _ h => h) (by kernel_rfl) (by decide) (by kernel_rfl) (fldV (x := (.tmp 6)) (t := 44) (k := 2) (cs := []) (by kernel_rfl) rfl (by kernel_rfl)) fun _ FF36 => ?_
        refine late_take FF36 (i := 8) (oi := (opAt Try.f13 11 8)) (v := (iN g.2.2)) (d := 38) ((((MM26.dropAt 3).dropAt 2).dropAt 1)).hasL (by kernel_rfl) (by kernel_rfl) (by kernel_rfl) (by kernel_rfl) (by kernel_rfl) (fun _ _ _ _ _ h => h) (by kernel_rfl) (by decide) (by kernel_rfl) (loadVi (x := (.tmp 37)) (k := 0) (by kernel_rfl) rfl Try.underlying3 rfl rfl rfl) fun ac37 FF37 => ?_
        have FFz38 : Fr 51 ac37 [(38, iN g.2.2), (36, .slice p n c), (35, iN g.2.2), (33, .slice (some ⟨bl, 0, none⟩) n n), (32, iN g.2.1), (30, .slice (some ⟨bl, 0, none⟩) n n), (6, pT bg), (22, pT it), (12, iN n), (11, iN n), (3, .slice (some ⟨bl, 0, none⟩) n n), (0, .slice p n c)] := FF37.pick [0, 2, 3, 4, 5, 6, 7, 8, 9, 10, 11, 12]
        refine late_take FFz38 (i := 9) (oi := (opAt Try.f13 11 9)) (v := (.pointer (some ⟨gOf p, oOf p + g.2.2, none⟩))) (d := 39) ((((MM26.dropAt 3).dropAt 2).dropAt 1)).hasL (by kernel_rfl) (by kernel_rfl) (by kernel_rfl) (by kernel_rfl) (by kernel_rfl) (fun _ _ _ _ _ h => h) (by kernel_rfl) (by decide) (by kernel_rfl) (rowX_addr (x := (.tmp 36)) (y := (.tmp 38)) (k := 1) (i := g.2.2) (by kernel_rfl) rfl rfl Try.underlying25 (by kernel_rfl) hF (by omega) hb1) fun _ FF39 => ?_
        refine late_take FF39 (i := 10) (oi := (opAt Try.f13 11 10)) (v := (sB (s g.2.2))) (d := 40) ((((MM26.dropAt 3).dropAt 2).dropAt 1)).hasL (by kernel_rfl) (by kernel_rfl) (by kernel_rfl) (by kernel_rfl) (by kernel_rfl) (fun _ _ _ _ _ h => h) (by kernel_rfl) (by decide) (by kernel_rfl) (rowX_load (x := (.tmp 39)) (j := g.2.2) (by kernel_rfl) rfl Try.underlying9 rfl hF (fun _ hx => List.mem_cons_of_mem _ (hx)) (by omega) rfl) fun _ FF40 => ?_
        refine late_take FF40 (i := 12) (oi := (opAt Try.f13 11 12)) (v := (.slice p n c)) (d := 42) ((((MM26.dropAt 3).dropAt 2).dropAt 1)).hasL (by kernel_rfl) (by kernel_rfl) (by kernel_rfl) (by kernel_rfl) (by kernel_rfl) (fun _ _ _ _ _ h => h) (by kernel_rfl) (by decide) (by kernel_rfl) (mvV (x := (.tmp 0)) (by kernel_rfl) rfl) fun ac41 FF41 => ?_
        have FFz42 : Fr 51 ac41 [(42, .slice p n c), (40, sB (s g.2.2)), (35, iN g.2.2), (33, .slice (some ⟨bl, 0, none⟩) n n), (32, iN g.2.1), (30, .slice (some ⟨bl, 0, none⟩) n n), (6, pT bg), (22, pT it), (12, iN n), (11, iN n), (3, .slice (some ⟨bl, 0, none⟩) n n), (0, .slice p n c)] := FF41.pick [0, 1, 5, 6, 7, 8, 9, 10, 11, 12, 13, 14]
        refine late_take FFz42 (i := 13) (oi := (opAt Try.f13 11 13)) (v := (.pointer (some ⟨bg, 1, none⟩))) (d := 43) ((((MM26.dropAt 3).dropAt 2).dropAt 1)).hasL (by kernel_rfl) (by kernel_rfl) (by kernel_rfl) (by kernel_rfl) (by kernel_rfl) (fun _ _ _ _ _ h => h) (by kernel_rfl) (by decide) (by kernel_rfl) (fldV (x := (.tmp 6)) (t := 44) (k := 1) (cs := []) (by kernel_rfl) rfl (by kernel_rfl)) fun _ FF43 => ?_
        refine late_take FF43 (i := 14) (oi := (opAt Try.f13 11 14)) (v := (iN g.2.1)) (d := 44) ((((MM26.dropAt 3).dropAt 2).dropAt 1)).hasL (by kernel_rfl) (by kernel_rfl) (by kernel_rfl) (by kernel_rfl) (by kernel_rfl) (fun _ _ _ _ _ h => h) (by kernel_rfl) (by decide) (by kernel_rfl) (loadVi (x := (.tmp 43)) (k := 0) (by kernel_rfl) rfl Try.underlying3 rfl rfl rfl) fun _ FF44 => ?_
        refine late_take FF44 (i := 15) (oi := (opAt Try.f13 11 15)) (v := (.pointer (some ⟨gOf p, oOf p + g.2.1, none⟩))) (d := 45) ((((MM26.dropAt 3).dropAt 2).dropAt 1)).hasL (by kernel_rfl) (by kernel_rfl) (by kernel_rfl) (by kernel_rfl) (by kernel_rfl) (fun _ _ _ _ _ h => h) (by kernel_rfl) (by decide) (by kernel_rfl) (rowX_addr (x := (.tmp 42)) (y := (.tmp 44)) (k := 1) (i := g.2.1) (by kernel_rfl) rfl rfl Try.underlying25 (by kernel_rfl) hF (by omega) ha2) fun ac45 FF45 => ?_
        have FFz46 : Fr 51 ac45 [(45, .pointer (some ⟨gOf p, oOf p + g.2.1, none⟩)), (40, sB (s g.2.2)), (35, iN g.2.2), (33, .slice (some ⟨bl, 0, none⟩) n n), (32, iN g.2.1), (30, .slice (some ⟨bl, 0, none⟩) n n), (6, pT bg), (22, pT it), (12, iN n), (11, iN n), (3, .slice (some ⟨bl, 0, none⟩) n n), (0, .slice p n c)] := FF45.pick [0, 4, 5, 6, 7, 8, 9, 10, 11, 12, 13, 14]
        refine late_take FFz46 (i := 16) (oi := (opAt Try.f13 11 16)) (v := (sB (s g.2.1))) (d := 46) ((((MM26.dropAt 3).dropAt 2).dropAt 1)).hasL (by kernel_rfl) (by kernel_rfl) (by kernel_rfl) (by kernel_rfl) (by kernel_rfl) (fun _ _ _ _ _ h => h) (by kernel_rfl) (by decide) (by kernel_rfl) (rowX_load (x := (.tmp 45)) (j := g.2.1) (by kernel_rfl) rfl Try.underlying9 rfl hF (fun _ hx => List.mem_cons_of_mem _ (hx)) (by omega) rfl) fun ac47 FF47 => ?_
        have FFz48 : Fr 51 ac47 [(46, sB (s g.2.1)), (40, sB (s g.2.2)), (35, iN g.2.2), (33, .slice (some ⟨bl, 0, none⟩) n n), (32, iN g.2.1), (30, .slice (some ⟨bl, 0, none⟩) n n), (6, pT bg), (22, pT it), (12, iN n), (11, iN n), (3, .slice (some ⟨bl, 0, none⟩) n n), (0, .slice p n c)] := FF47.pick [0, 2, 3, 4, 5, 6, 7, 8, 9, 10, 11, 12]
        refine late_one (i := 11) (oi := (opAt Try.f13 11 11)) (by kernel_rfl) (by kernel_rfl) ?_
        refine rp_c 1 FFz48 MM26 [(0, t_ (sB ((s g.2.2).drop 16)))] 47 [] [40] (⟨(callP_of en_dbox (fun w => by have h0 := dbox_any (s g.2.2) (hs _ hb1) w; rw [partsR_ok hll] at h0; exact h0) _), fun ac49 _ FF49 MM49 => ?_⟩)
        refine wpl_nil (onN_n ⟨fun _ => ((((MM49.dropAt 3).dropAt 2).dropAt 1)).hasL, ?_⟩)
        have FFz50 : Fr 51 ac49 [(41, sB ((s g.2.2).drop 16)), (46, sB (s g.2.1)), (35, iN g.2.2), (33, .slice (some ⟨bl, 0, none⟩) n n), (32, iN g.2.1), (30, .slice (some ⟨bl, 0, none⟩) n n), (6, pT bg), (22, pT it), (12, iN n), (11, iN n), (3, .slice (some ⟨bl, 0, none⟩) n n), (0, .slice p n c)] := FF49.pick [0, 1, 2, 3, 4, 5, 6, 7, 8, 9, 10, 11]
        refine late_one (i := 17) (oi := (opAt Try.f13 11 17)) (by kernel_rfl) (by kernel_rfl) ?_
        refine rp_c 1 FFz50 MM49 [(0, t_ (sB ((s g.2.1).drop 16)))] 42 [47] [] (⟨(callP_of en_dbox (fun w => by have h0 := dbox_any (s g.2.1) (hs _ ha2) w; rw [partsR_ok hlf] at h0; exact h0) _), fun ac51 _ FF51 MM51 => ?_⟩)
        refine wpl_nil (onN_n ⟨fun _ => ((((MM51.dropAt 3).dropAt 2).dropAt 1)).hasL, ?_⟩)
        have FFz52 : Fr 51 ac51 [(47, sB ((s g.2.1).drop 16)), (41, sB ((s g.2.2).drop 16)), (35, iN g.2.2), (33, .slice (some ⟨bl, 0, none⟩) n n), (32, iN g.2.1), (30, .slice (some ⟨bl, 0, none⟩) n n), (6, pT bg), (22, pT it), (12, iN n), (11, iN n), (3, .slice (some ⟨bl, 0, none⟩) n n), (0, .slice p n c)] := FF51.pick [0, 1, 2, 3, 4, 5, 6, 7, 8, 9, 10, 11]
        refine late_one (i := 18) (oi := (opAt Try.f13 11 18)) (by kernel_rfl) (by kernel_rfl) ?_
        refine rp_c 1 FFz52 MM51 [(0, w_ 1)] 49 [] [32, 30] (⟨ha2, fun ac53 _ FF53 MM53 => ?_⟩)
        refine wpl_nil (onN_n ⟨fun _ => ((((MM53.dropAt 3).dropAt 2).dropAt 1)).hasL, ?_⟩)
        have FFz54 : Fr 51 ac53 [(48, .pointer (some ⟨bl, g.2.1, none⟩)), (47, sB ((s g.2.1).drop 16)), (41, sB ((s g.2.2).drop 16)), (35, iN g.2.2), (33, .slice (some ⟨bl, 0, none⟩) n n), (6, pT bg), (22, pT it), (12, iN n), (11, iN n), (3, .slice (some ⟨bl, 0, none⟩) n n), (0, .slice p n c)] := FF53.pick [0, 1, 2, 3, 4, 5, 6, 7, 8, 9, 10]
        refine late_one (i := 19) (oi := (opAt Try.f13 11 19)) (by kernel_rfl) (by kernel_rfl) ?_
        refine rp_c 1 FFz54 MM53 [(0, s_ 3 (.cells (fc n (fun k9 => sB (if k9 = g.2.1 then (s g.2.2).drop 16 else mV s n seen k9))) 9))] 36 [47] [] (⟨rfl, (by rw [fc_size]; exact ha2), (.inl rfl), ((fc_set _ _ _ _).trans (fc_cong fun j _ => ite_str)), fun ac55 _ FF55 MM55 => ?_⟩)
        refine wpl_nil (onN_n ⟨fun _ => ((((MM55.dropAt 3).dropAt 2).dropAt 1)).hasL, ?_⟩)
        have FFz56 : Fr 51 ac55 [(47, sB ((s g.2.1).drop 16)), (35, iN g.2.2), (33, .slice (some ⟨bl, 0, none⟩) n n), (6, pT bg), (22, pT it), (12, iN n), (11, iN n), (3, .slice (some ⟨bl, 0, none⟩) n n), (0, .slice p n c)] := FF55.pick [0, 1, 2, 3, 4, 5, 6, 7, 8]
        refine late_one (i := 20) (oi := (opAt Try.f13 11 20)) (by kernel_rfl) (by kernel_rfl) ?_
        refine rp_c 1 FFz56 MM55 [(0, w_ 1)] 23 [47, 49] [] (⟨hb1, fun ac57 _ FF57 MM57 => ?_⟩)
        refine wpl_nil (onN_n ⟨fun _ => ((((MM57.dropAt 3).dropAt 2).dropAt 1)).hasL, ?_⟩)
        have FFz58 : Fr 51 ac57 [(49, .pointer (some ⟨bl, g.2.2, none⟩)), (47, sB ((s g.2.1).drop 16)), (6, pT bg), (22, pT it), (12, iN n), (11, iN n), (3, .slice (some ⟨bl, 0, none⟩) n n), (0, .slice p n c)] := FF57.pick [0, 1, 2, 3, 4, 5, 6, 7]
        refine late_one (i := 21) (oi := (opAt Try.f13 11 21)) (by kernel_rfl) (by kernel_rfl) ?_
        refine rp_c 1 FFz58 MM57 [(0, s_ 3 (.cells (fc n (fun k9 => sB (mV s n (seen ++ [pz]) k9))) 9))] 23 [] [] (⟨rfl, (by rw [fc_size]; exact hb1), (.inl rfl), ((fc_set _ _ _ _).trans (fc_cong fun j hj => ite_str.trans (vS (mV_put hp hs29 seen hj).symm))), fun _ _ FF59 MM59 => ?_⟩)
        refine wpl_nil (onN_n ⟨fun _ => ((((MM59.dropAt 3).dropAt 2).dropAt 1)).hasL, ?_⟩)
        refine late_none (by kernel_rfl) ?_
        refine inb_n ?_
        have hd := iterSeen_of (MM59.get 1 rfl)
        refine then_n ⟨⟨(seen ++ [pz]), hnd', hsb', FF59.pick [1, 2, 3, 4, 5], (MM59.dropAt 0)⟩, ?_⟩
        rw [hc, hd]; exact left_less hp hns
      · refine wp_cond_false ((FF24.ev 0 rfl).trans (dec_f hs29)) ?_
        have MMr60 : MemS (fun k => k < w0.heap.size ∧ ∀ x ∈ O, x.1 ≠ k) w0 wd24 ((bg, oC #[iN g.1, iN g.2.1, iN g.2.2] 44) :: (it, iterO bm (grpS s n).length (seen ++ [pz])) :: (bm, GMO (grpS s n)) :: (bl, .cells (fc n (fun k9 => sB (mV s n (seen ++ [pz]) k9))) 9) :: O) [] := by rw [show fc n (fun k9 => sB (mV s n (seen ++ [pz]) k9)) = fc n (fun k9 => sB (mV s n seen k9)) from fc_cong fun j hj => vS (mV_skip hp hs29 seen hj)]; exact MM24
        refine wp_skip ?_
        refine inb_n ?_
        have hd := iterSeen_of (MMr60.get 1 rfl)
        refine then_n ⟨⟨(seen ++ [pz]), hnd', hsb', FF24.pick [2, 3, 4, 5, 6], (MMr60.dropAt 0)⟩, ?_⟩
        rw [hc, hd]; exact left_less hp hns
theorem dmf_w (p : Option Addr) (n c : Nat) (s : Nat → List Nat) (hn : n ≤ 1000000) (hs : ∀ i, i < n → ∀ j, (s i).getD j 0 < 256) (w : World) (hF : RowIn w p n (fun k9 => sB (s k9))) :
    Calls Try.prog 13 #[.slice p n c] w fun e w' => ∃ v, e = .returned v ∧ NewF n (fun k9 => sB (mAt s n k9)) 9 w w' v := by
  obtain ⟨O, h1, h2, h3⟩ := row_O hF
  exact dm_O O h2 p n c s hn hs h3 w h1
theorem dm_w (p : Option Addr) (n c : Nat) (s : Nat → List Nat) (hn : n ≤ 1000000) (hs : ∀ i, i < n → ∀ j, (s i).getD j 0 < 256) (w : World) (hF : RowIn w p n (fun k9 => sB (s k9))) :
    Calls Try.prog 13 #[.slice p n c] w fun e w' => ∃ v, e = .returned (.slice (pOf v) n (cOf v)) ∧ Below w.heap.size w w' ∧ RowNew w.heap.size w' (pOf v) n (fun k9 => sB (mAt s n k9)) := by
  refine (dmf_w p n c s hn hs w hF).mono fun e w' ⟨v, h1, g, h2, h3, h4, h5⟩ => ?_
  subst h2
  exact ⟨.slice (some ⟨g, 0, none⟩) n n, h1, h3, rowNew_fc h5 h4⟩
end Go.Proofs.Ytlcadhfdmpjdkaa
namespace Go.Proofs.Ytlcadhfdmpjdkaa
open Go.RowKit
set_option maxHeartbeats 1000000 in
set_option maxRecDepth 100000 in
theorem dc_O (O : Blks) (hD : Distinct O) (p : Option Addr) (n c : Nat) (s : Nat → List Nat) (hn : n ≤ 1000000) (hs : ∀ i, i < n → ∀ j, (s i).getD j 0 < 256) (hF : RowO O p n (fun k9 => sB (s k9))) (w0 : World) (H : Has w0 O) :
    Calls Try.prog 10 #[.slice p n c] w0 fun e w' => e = .returned (.tuple #[iN (cls s n c1 n), iN (cls s n c2 n), iN (cls s n c3 n)]) ∧ Below w0.heap.size w0 w' := by
  refine enter_fr Try.func10 rfl Try.ntmps10 (by simp) fun ac (FF : Fr 29 ac [(0, .slice p n c)]) => ?_
  have MM : MemS (fun k => k < w0.heap.size ∧ ∀ x ∈ O, x.1 ≠ k) w0 w0 O [] := MemS.startN H hD
  refine wp_seq (rg_c FF MM [] 5 [] [] (fun _ _ FF1 MM1 => then_n ?_))
  refine wp_seq ?_
  refine wp_seq (wp_region_list ?_)
  refine rp_c 1 FF1 MM1 [] 8 [] [0] (fun _ _ FF2 MM2 => ?_)
  refine st_callE [4, 3, 2, 8] FF2 (d := 8) (mk := fun v => v) en_grp rfl rfl (grp_w p n c s (by omega) hs _ (hF.at MM2.hasL)) rfl (by kernel_rfl) (by decide) fun ac4 wd4 lv3 FF4 hr5 => ?_
  obtain ⟨bm, rfl, hB_bm, hf_bm, hb_bm⟩ := hr5
  have MM6 := MM2.keep hB_bm
  have MM7 : MemS (fun k => k < w0.heap.size ∧ ∀ x ∈ O, x.1 ≠ k) w0 wd4 ((bm, GMO (grpS s n)) :: O) [] := MM2.addFresh MM6 hb_bm hf_bm
  refine rp_c 1 FF4 MM7 [(0, n_ (.pointer none) (iterO bm (grpS s n).length []))] 5 [9] [] (⟨(range_ok (t := 39) (m := (.tmp 8)) (i := 0) (kf := (fun X => .agg (cn .u8 X))) (vf := grpV) (l := grpS s n) (by kernel_rfl) rfl Try.underlying39 rfl), fun it => fun _ _ FF8 MM8 => ?_⟩)
  refine wpl_nil (then_n ?_)
  refine wp_forw (fun a' w' => ∃ seen : List Nat, seen.Nodup ∧ (∀ p ∈ seen, p < (grpS s n).length) ∧ Fr 29 a' [(9, pT it), (4, iN (cSn (grpS s n) c3 seen)), (3, iN (cSn (grpS s n) c2 seen)), (2, iN (cSn (grpS s n) c1 seen))] ∧ MemS (fun k => k < w0.heap.size ∧ ∀ x ∈ O, x.1 ≠ k) w0 w' ((it, iterO bm (grpS s n).length seen) :: (bm, GMO (grpS s n)) :: O) []) (fun _ w' => (Go.leftOf (ents (fun X => Value.agg (cn .u8 X)) grpV 0 (grpS s n)).toArray (w'.iterSeen it)).size) ⟨[], (.nil), (fun _ h => (nomatch h)), FF8.pick [0, 1, 2, 3], MM8⟩ ?_
  rintro ac9 wd9 ⟨seen, hnd, hsb, FF9, MM9⟩
  have hc := iterSeen_of (MM9.get 0 rfl)
  refine wp_region_list ?_
  refine st_next [9, 4, 3, 2, 11, 10] FF9 MM9 (m := .tmp 9) (i := 1) (j := 0) (l := grpS s n) (seen := seen) rfl rfl rfl rfl (d := 10) rfl rfl (by decide) (fun hall ac9a FFa => ?_) (fun pz x g ac9b wdb hp hns FFb MMb => ?_)
  · skip
    refine rp_c 1 FFa MM9 [] 10 [11] [] (fun ac10 _ FF10 MM10 => ?_)
    refine wpl_nil ?_
    refine then_n (.inr ⟨FF10.ev 0 rfl, ?_⟩)
    have FFz11 : Fr 29 ac10 [(11, .bool false), (9, pT it), (4, iN (cls s n c3 n)), (3, iN (cls s n c2 n)), (2, iN (cls s n c1 n))] := by rw [← cSn_all c1 hnd hsb hall, ← cSn_all c2 hnd hsb hall, ← cSn_all c3 hnd hsb hall]; exact FF10
    refine then_n ?_
    refine wp_seq (rg_c FFz11 MM10 [] 5 [9] [] (fun _ _ FF12 MM12 => then_n ?_))
    refine wp_ret ?_
    repeat first | refine then_ret ?_ | refine inb_ret ?_
    exact (ret_tup3 FF12 2 1 0 Try.results10 rfl rfl rfl ⟨rfl, MM12.belowN H (fun _ hx => List.mem_cons_of_mem _ (List.mem_cons_of_mem _ (hx)))⟩)
  · skip
    obtain ⟨ha1, ha2, ha3, ha4, ha5, ha6⟩ := grp_at hp
    obtain ⟨hb1, hb2⟩ := grp_lst hp
    have hpl : pz < (grpS s n).length := (List.getElem?_eq_some_iff.1 hp).1
    have hnd' : (seen ++ [pz]).Nodup := List.nodup_append.2 ⟨hnd, (by simp), fun a ha b hb => by rw [List.mem_singleton.1 hb]; exact fun e => hns (e ▸ ha)⟩
    have hsb' : ∀ q ∈ seen ++ [pz], q < (grpS s n).length := fun q hq => (List.mem_append.1 hq).elim (hsb q) (fun h => List.mem_singleton.1 h ▸ hpl)
    refine rp_c 1 FFb MMb [] 10 [11] [] (fun _ _ FF13 MM13 => ?_)
    refine wpl_nil ?_
    refine then_n (.inl ⟨FF13.ev 0 rfl, ?_⟩)
    have hln := seen_len hnd'  hsb'
    have hgl := grp_len s n
    rw [List.length_append, List.length_singleton] at hln
    have hk1 := cSn_le (grpS s n) c1 seen
    have hk2 := cSn_le (grpS s n) c2 seen
    have hk3 := cSn_le (grpS s n) c3 seen
    refine wp_seq (rg_c FF13 MM13 [(0, f_ (.tuple #[.agg (cn .u8 x), aG #[iN g.1, iN g.2.1, iN g.2.2]])), (2, b_ 0)] 7 [9] [] (⟨(entry_ok (m := (.tmp 9)) (i := 1) (j := 0) (b := bm) (r := it) (kf := (fun X => .agg (cn .u8 X))) (vf := grpV) (l := grpS s n) (seen := seen) (p := pz) (x := x) (v := g) (by kernel_rfl) rfl rfl rfl hp), fun bg => ⟨rfl, rfl, rfl, (by kernel_rfl), rfl, fun _ _ FF14 MM14 => then_n ?_⟩⟩))
    refine wp_seq (rg_c FF14 MM14 [(1, l_ 0 (iN g.1))] 10 [15] [] (⟨rfl, rfl, fun _ _ FF15 MM15 => then_n ?_⟩))
    refine wp_block ?_
    refine wp_seq (rg_c FF15 MM15 [] 19 [] [] (fun _ _ FF16 MM16 => then_n ?_))
    by_cases hs18 : g.1 = 1
    · refine wp_cond_true ((FF16.ev 0 rfl).trans (dec_t hs18)) ?_
      refine rg_c FF16 MM16 [] 16 [] [] (⟨by omega, fun ac17 _ FF17 MM17 => ?_⟩)
      have FFz18 : Fr 29 ac17 [(2, iN (cSn (grpS s n) c1 (seen ++ [pz]))), (15, iN g.1), (6, pT bg), (9, pT it), (4, iN (cSn (grpS s n) c3 (seen ++ [pz]))), (3, iN (cSn (grpS s n) c2 (seen ++ [pz])))] := by rw [show cSn (grpS s n) c1 (seen ++ [pz]) = cSn (grpS s n) c1 seen + 1 from (cSn_push hp c1 seen).trans (by rw [if_pos (show c1 g.1 = true from decide_eq_true (by omega))]), show cSn (grpS s n) c2 (seen ++ [pz]) = cSn (grpS s n) c2 seen from (cSn_push hp c2 seen).trans (by rw [if_neg (show ¬ c2 g.1 = true from fun h => absurd (of_decide_eq_true h) (by omega)), Nat.add_zero]), show cSn (grpS s n) c3 (seen ++ [pz]) = cSn (grpS s n) c3 seen from (cSn_push hp c3 seen).trans (by rw [if_neg (show ¬ c3 g.1 = true from fun h => absurd (of_decide_eq_true h) (by omega)), Nat.add_zero])]; exact FF17
      refine inb_n ?_
      refine inb_n ?_
      have hd := iterSeen_of (MM17.get 1 rfl)
      refine then_n ⟨⟨(seen ++ [pz]), hnd', hsb', FFz18.pick [3, 4, 5, 0], (MM17.dropAt 0)⟩, ?_⟩
      rw [hc, hd]; exact left_less hp hns
    · refine wp_cond_false ((FF16.ev 0 rfl).trans (dec_f hs18)) ?_
      refine wp_seq (rg_c FF16 MM16 [] 16 [22] [] (fun _ _ FF19 MM19 => then_n ?_))
      by_cases hs22 : g.1 = 2
      · refine wp_cond_true ((FF19.ev 0 rfl).trans (dec_t hs22)) ?_
        refine rg_c FF19 MM19 [] 16 [] [] (⟨by omega, fun ac20 _ FF20 MM20 => ?_⟩)
        have FFz21 : Fr 29 ac20 [(3, iN (cSn (grpS s n) c2 (seen ++ [pz]))), (15, iN g.1), (6, pT bg), (9, pT it), (4, iN (cSn (grpS s n) c3 (seen ++ [pz]))), (2, iN (cSn (grpS s n) c1 (seen ++ [pz])))] := by rw [show cSn (grpS s n) c1 (seen ++ [pz]) = cSn (grpS s n) c1 seen from (cSn_push hp c1 seen).trans (by rw [if_neg (show ¬ c1 g.1 = true from fun h => absurd (of_decide_eq_true h) (by omega)), Nat.add_zero]), show cSn (grpS s n) c2 (seen ++ [pz]) = cSn (grpS s n) c2 seen + 1 from (cSn_push hp c2 seen).trans (by rw [if_pos (show c2 g.1 = true from decide_eq_true (by omega))]), show cSn (grpS s n) c3 (seen ++ [pz]) = cSn (grpS s n) c3 seen from (cSn_push hp c3 seen).trans (by rw [if_neg (show ¬ c3 g.1 = true from fun h => absurd (of_decide_eq_true h) (by omega)), Nat.add_zero])]; exact FF20
        refine inb_n ?_
        refine inb_n ?_
        have hd := iterSeen_of (MM20.get 1 rfl)
        refine then_n ⟨⟨(seen ++ [pz]), hnd', hsb', FFz21.pick [3, 4, 0, 5], (MM20.dropAt 0)⟩, ?_⟩
        rw [hc, hd]; exact left_less hp hns
      · refine wp_cond_false ((FF19.ev 0 rfl).trans (dec_f hs22)) ?_
        refine rg_c FF19 MM19 [] 16 [] [] (⟨by omega, fun ac22 _ FF22 MM22 => ?_⟩)
        have FFz23 : Fr 29 ac22 [(4, iN (cSn (grpS s n) c3 (seen ++ [pz]))), (15, iN g.1), (6, pT bg), (9, pT it), (3, iN (cSn (grpS s n) c2 (seen ++ [pz]))), (2, iN (cSn (grpS s n) c1 (seen ++ [pz])))] := by rw [show cSn (grpS s n) c1 (seen ++ [pz]) = cSn (grpS s n) c1 seen from (cSn_push hp c1 seen).trans (by rw [if_neg (show ¬ c1 g.1 = true from fun h => absurd (of_decide_eq_true h) (by omega)), Nat.add_zero]), show cSn (grpS s n) c2 (seen ++ [pz]) = cSn (grpS s n) c2 seen from (cSn_push hp c2 seen).trans (by rw [if_neg (show ¬ c2 g.1 = true from fun h => absurd (of_decide_eq_true h) (by omega)), Nat.add_zero]), show cSn (grpS s n) c3 (seen ++ [pz]) = cSn (grpS s n) c3 seen + 1 from (cSn_push hp c3 seen).trans (by rw [if_pos (show c3 g.1 = true from decide_eq_true (by omega))])]; exact FF22
        refine inb_n ?_
        refine inb_n ?_
        have hd := iterSeen_of (MM22.get 1 rfl)
        refine then_n ⟨⟨(seen ++ [pz]), hnd', hsb', FFz23.pick [3, 0, 4, 5], (MM22.dropAt 0)⟩, ?_⟩
        rw [hc, hd]; exact left_less hp hns
theorem dc_w (p : Option Addr) (n c : Nat) (s : Nat → List Nat) (hn : n ≤ 1000000) (hs : ∀ i, i < n → ∀ j, (s i).getD j 0 < 256) (w : World) (hF : RowIn w p n (fun k9 => sB (s k9))) :
    Calls Try.prog 10 #[.slice p n c] w fun e w' => e = .returned (.tuple #[iN (cls s n c1 n), iN (cls s n c2 n), iN (cls s n c3 n)]) ∧ Below w.heap.size w w' := by
  obtain ⟨O, h1, h2, h3⟩ := row_O hF
  exact dc_O O h2 p n c s hn hs h3 w h1
end Go.Proofs.Ytlcadhfdmpjdkaa
namespace Go.Proofs.Ytlcadhfdmpjdkaa
open Go.RowKit
theorem en_lbox : Enters Try.prog 15 := fun args w => by simp [go_sem]
theorem en_fair : Enters Try.prog 7 := fun args w => by simp [go_sem]
theorem en_req : Enters Try.prog 9 := fun args w => by simp [go_sem]
theorem en_wakes : Enters Try.prog 8 := fun args w => by simp [go_sem]
/-- i bytes b, then noughts. -/
def fillB (b i : Nat) : List Nat := List.replicate i b ++ List.replicate (36 - i) 0
theorem fillB_len {b i : Nat} (h : i ≤ 36) : (fillB b i).length = 36 := by
  simp only [fillB, List.length_append, List.length_replicate]; omega
theorem fillB_set {b i : Nat} (h : i < 36) : (fillB b i).set i b = fillB b (i + 1) := by
  refine List.ext_getElem (by rw [List.length_set, fillB_len (by omega), fillB_len (by omega)]) fun j h1 h2 => ?_
  rw [List.getElem_set]
  simp only [fillB, List.getElem_append, List.length_replicate, List.getElem_replicate]
  split
  · rw [dif_pos (by omega)]
  · by_cases h3 : j < i
    · rw [dif_pos h3, dif_pos (by omega)]
    · rw [dif_neg h3, dif_neg (by omega)]
theorem fillB_zero (b : Nat) : fillB b 0 = List.replicate 36 0 := rfl
theorem fillB_all (b : Nat) : fillB b 36 = List.replicate 36 b := by simp [fillB]
theorem repb_lt {b n : Nat} (hb : b < 256) : ∀ j, (List.replicate n b).getD j 0 < 256 := fun j => by
  rw [List.getD_eq_getElem?_getD]
  rcases Nat.lt_or_ge j n with h | h
  · rw [List.getElem?_eq_getElem (by rw [List.length_replicate]; exact h), List.getElem_replicate]; exact hb
  · rw [List.getElem?_eq_none (by rw [List.length_replicate]; exact h)]; exact (by decide : (0 : Nat) < 256)
/-- Requests, as they are told. -/
def madeV (fN fB : Nat → Nat) (fR : Nat → List Nat) (c : Nat) : Value := match c % 3 with | 0 => iB (fN (c / 3)) | 1 => iB (fB (c / 3)) | _ => sB (fR (c / 3))
theorem madeV_0 {fN fB : Nat → Nat} {fR : Nat → List Nat} (i : Nat) : madeV fN fB fR (i * 3) = iB (fN i) := by
  unfold madeV; rw [show (i * 3) % 3 = 0 by omega, show (i * 3) / 3 = i by omega]; rfl
theorem madeV_1 {fN fB : Nat → Nat} {fR : Nat → List Nat} (i : Nat) : madeV fN fB fR (i * 3 + 1) = iB (fB i) := by
  unfold madeV; rw [show (i * 3 + 1) % 3 = 1 by omega, show (i * 3 + 1) / 3 = i by omega]; rfl
theorem madeV_2 {fN fB : Nat → Nat} {fR : Nat → List Nat} (i : Nat) : madeV fN fB fR (i * 3 + 2) = sB (fR i) := by
  unfold madeV; rw [show (i * 3 + 2) % 3 = 2 by omega, show (i * 3 + 2) / 3 = i by omega]; rfl
def FairP (n : Nat) (fR : Nat → List Nat) : Prop := n ≤ 40 ∧ ∀ j, j < n → ¬ (fR j).length > 100
def idN (x : Nat) : List Nat := (List.replicate 16 0).set 3 x
theorem idN_len (x : Nat) : (idN x).length = 16 := by rw [idN, List.length_set, List.length_replicate]
theorem idN_lt {x : Nat} (h : x < 256) : ∀ j, (idN x).getD j 0 < 256 := set_lt rep0_lt h
def reqM (fN fB : Nat → Nat) (fR : Nat → List Nat) (i : Nat) : List Nat := if fR i = [] then idN (fN i) ++ List.replicate 36 (fB i) else fR i
theorem reqM_lt {fN fB : Nat → Nat} {fR : Nat → List Nat} {i : Nat} (h1 : fN i < 256) (h2 : fB i < 256) (h3 : ∀ j, (fR i).getD j 0 < 256) : ∀ j, (reqM fN fB fR i).getD j 0 < 256 := fun j => by
  unfold reqM
  split
  · exact app_lt (idN_lt h1) (repb_lt h2) j
  · exact h3 j
theorem reqM_raw {fN fB : Nat → Nat} {fR : Nat → List Nat} {i : Nat} (h : ¬ fR i = []) : reqM fN fB fR i = fR i := if_neg h
theorem reqM_made {fN fB : Nat → Nat} {fR : Nat → List Nat} {i : Nat} (h : fR i = []) : reqM fN fB fR i = idN (fN i) ++ List.replicate 36 (fB i) := if_pos h
set_option maxRecDepth 100000 in
theorem lbox_any (b : Nat) (hb : b < 256) (w0 : World) :
    Calls Try.prog 15 #[iB b] w0 fun e w' => e = .returned (sB (List.replicate 36 b)) ∧ Below w0.heap.size w0 w' := by
  refine enter_fr Try.func15 rfl Try.ntmps15 (by simp) fun ac (FF : Fr 18 ac [(0, iB b)]) => ?_
  have MM := MemS.start w0
  refine wp_seq (rg_c FF MM [(0, t_ (sB []))] 3 [] [] (⟨(by kernel_rfl), fun _ _ FF1 MM1 => then_n ?_⟩))
  refine wp_seq (rg_c FF1 MM1 [(0, n_ (.slice none 36 36) (.cells (cn .u8 (List.replicate 36 0)) 5))] 4 [] [] (⟨(make_ok (t := 38) (e := 5) (p := (.const (iN 36))) (q := (.const (iN 36))) (by kernel_rfl) rfl rfl Try.underlying38 (by kernel_rfl) (by decide)), fun bl => fun _ wd2 FF2 MM2 => then_n ?_⟩))
  have MMr3 : MemS (fun k => k < w0.heap.size) w0 wd2 [(bl, .cells (cn .u8 (fillB b 0)) 5)] [] := by rw [fillB_zero b]; exact MM2
  refine wp_seq ?_
  refine wp_seq (rg_c FF2 MMr3 [] 5 [] [] (fun _ _ FF4 MM4 => then_n ?_))
  refine wp_for2 (fun a' w' => ∃ i : Nat, i ≤ 36 ∧ Fr 18 a' [(4, iN i), (3, .slice (some ⟨bl, 0, none⟩) 36 36), (2, sB []), (0, iB b)] ∧ MemS (fun k => k < w0.heap.size) w0 w' [(bl, .cells (cn .u8 (fillB b i)) 5)] []) (fun a' _ => (36 - cnt 4 a').toNat) ⟨0, Nat.zero_le _, FF4.pick [0, 1, 2, 3], MM4⟩ ?_
  rintro ac5 wd5 ⟨i, hi, FF5, MM5⟩
  have hc := cnt_of (FF5.get 0 rfl)
  refine rg_c FF5 MM5 [] 5 [9] [] (fun _ wd6 FF6 MM6 => ?_)
  by_cases hlt : i < 36
  · skip
    refine then_n (.inl ⟨(FF6.ev 0 rfl).trans (dec_t hlt), ?_⟩)
    refine rg_c FF6 MM6 [(3, w_ 1), (0, s_ 0 (.cells (cn .u8 (fillB b (i + 1))) 5))] 5 [] [] (⟨by omega, rfl, (by rw [cn_size, fillB_len hi]; exact hlt), (.inl rfl), ((cn_set _ _ _ _).trans (congrArg (cn .u8) (fillB_set hlt))), fun _ _ FF7 MM7 => ?_⟩)
    refine inb_n (then_n ?_)
    refine rg_c FF7 MM7 [] 5 [] [] (⟨by omega, fun _ _ FF8 MM8 => ?_⟩)
    have hd := cnt_of (FF8.get 0 rfl)
    refine then_n ⟨⟨i + 1, by omega, FF8.pick [0, 1, 2, 3], MM8⟩, ?_⟩
    rw [hc, hd]; omega
  · skip
    refine then_n (.inr ⟨(FF6.ev 0 rfl).trans (dec_f hlt), ?_⟩)
    obtain rfl : i = 36 := by omega
    have MMr9 : MemS (fun k => k < w0.heap.size) w0 wd6 [(bl, .cells (cn .u8 (List.replicate 36 b)) 5)] [] := by rw [← fillB_all b]; exact MM6
    refine then_n ?_
    refine wp_seq (rg_c FF6 MMr9 [(1, l_ 0 (sB (List.replicate 36 b)))] 5 [] [] (⟨rfl, (str_all (List.length_replicate ..) (repb_lt hb)), fun _ _ FF10 MM10 => then_n ?_⟩))
    refine wp_ret ?_
    repeat first | refine then_ret ?_ | refine inb_ret ?_
    exact (ret_fr FF10 0 Try.results15 rfl ⟨rfl, MM10.below⟩)
set_option maxRecDepth 100000 in
theorem fair_O (O : Blks) (hD : Distinct O) (p : Option Addr) (n cp : Nat) (fN fB : Nat → Nat) (fR : Nat → List Nat) (hA : RowO O p (n * 3) (madeV fN fB fR)) (b : Bool) (hb : b = true ↔ FairP n fR) (w0 : World) (H : Has w0 O) :
    Calls Try.prog 7 #[.slice p n cp] w0 fun e w' => e = .returned (.bool b) ∧ Below w0.heap.size w0 w' := by
  refine enter_fr Try.func7 rfl Try.ntmps7 (by simp) fun ac (FF : Fr 25 ac [(0, .slice p n cp)]) => ?_
  have MM : MemS (fun k => k < w0.heap.size ∧ ∀ x ∈ O, x.1 ≠ k) w0 w0 O [] := MemS.startN H hD
  refine wp_seq (rg_c FF MM [] 3 [] [] (fun _ _ FF1 MM1 => then_n ?_))
  refine wp_seq ?_
  refine wp_seq (rg_c FF1 MM1 [] 4 [] [] (fun _ _ FF2 MM2 => then_n ?_))
  refine wp_for2 (fun a' w' => ∃ i : Nat, i ≤ n ∧ (∀ j, j < i → ¬ (fR j).length > 100) ∧ Fr 25 a' [(3, iN i), (0, .slice p n cp)] ∧ MemS (fun k => k < w0.heap.size ∧ ∀ x ∈ O, x.1 ≠ k) w0 w' O []) (fun a' _ => (n - cnt 3 a').toNat) ⟨0, Nat.zero_le _, (fun j hj => absurd hj (Nat.not_lt_zero _)), FF2.pick [0, 2], MM2⟩ ?_
  rintro ac3 wd3 ⟨i, hi, hG, FF3, MM3⟩
  have hc := cnt_of (FF3.get 0 rfl)
  by_cases hlt : i < n
  · by_cases h40 : n ≤ 40
    · skip
      refine rg_c FF3 MM3 [(3, w_ 2), (3, w_ 2)] 4 [12] [] (⟨hlt, h40, fun _ _ FF4 MM4 => ?_⟩)
      refine then_n (.inl ⟨FF4.ev 0 rfl, ?_⟩)
      by_cases hgi : (fR i).length > 100
      · skip
        refine wp_seq (rg_c FF4 MM4 [(2, f_ (.pointer (some ⟨gOf p, oOf p + i * 3, none⟩))), (1, f_ (sB (fR i))), (0, t_ (iN ((fR i).length))), (0, w_ 2)] 4 [21] [] (⟨(rowX_addr (x := (.tmp 15)) (y := (.tmp 16)) (k := 3) (i := i) (by kernel_rfl) rfl rfl Try.underlying22 (by kernel_rfl) hA (by omega) (by omega)), (rowX_load (x := (.tmp 18)) (j := i * 3 + 2) (by kernel_rfl) rfl Try.underlying9 rfl hA (fun _ hx => hx) (by omega) (madeV_2 i)), (vI (bs_size _)), hgi, fun _ _ FF5 MM5 => then_n ?_⟩))
        refine wp_cond_true (FF5.ev 0 rfl) ?_
        refine wp_seq (rg_c FF5 MM5 [] 4 [] [] (fun _ _ FF6 MM6 => then_n ?_))
        refine wp_ret ?_
        repeat first | refine then_ret ?_ | refine inb_ret ?_
        exact (ret_fr FF6 0 Try.results7 rfl ⟨congrArg (fun b => Ending.returned (Value.bool b)) (Bool.eq_false_iff.2 (fun h => (hb.1 h).2 i hlt hgi)).symm, MM6.belowN H (fun _ hx => hx)⟩)
      · skip
        refine wp_seq (rg_c FF4 MM4 [(2, f_ (.pointer (some ⟨gOf p, oOf p + i * 3, none⟩))), (1, f_ (sB (fR i))), (0, t_ (iN ((fR i).length))), (0, w_ 3)] 4 [21] [] (⟨(rowX_addr (x := (.tmp 15)) (y := (.tmp 16)) (k := 3) (i := i) (by kernel_rfl) rfl rfl Try.underlying22 (by kernel_rfl) hA (by omega) (by omega)), (rowX_load (x := (.tmp 18)) (j := i * 3 + 2) (by kernel_rfl) rfl Try.underlying9 rfl hA (fun _ hx => hx) (by omega) (madeV_2 i)), (vI (bs_size _)), hgi, fun _ _ FF7 MM7 => then_n ?_⟩))
        refine wp_cond_false (FF7.ev 0 rfl) ?_
        refine wp_skip ?_
        refine inb_n (then_n ?_)
        refine rg_c FF7 MM7 [] 4 [] [] (⟨by omega, fun _ _ FF8 MM8 => ?_⟩)
        have hd := cnt_of (FF8.get 0 rfl)
        refine then_n ⟨⟨i + 1, by omega, (fun j hj => (Nat.lt_or_ge j i).elim (hG j) (fun h => (show i = j by omega) ▸ hgi)), FF8.pick [0, 1], MM8⟩, ?_⟩
        rw [hc, hd]; omega
    · skip
      refine rg_c FF3 MM3 [(3, w_ 2), (3, w_ 3)] 4 [12] [] (⟨hlt, h40, fun _ _ FF9 MM9 => ?_⟩)
      refine then_n (.inr ⟨FF9.ev 0 rfl, ?_⟩)
      refine then_n ?_
      by_cases h41 : n ≤ 40
      · skip
        have hin : i = n := by omega
        refine wp_seq (rg_c FF9 MM9 [(2, w_ 2)] 4 [] [] (⟨h41, fun _ _ FF10 MM10 => then_n ?_⟩))
        refine wp_ret ?_
        repeat first | refine then_ret ?_ | refine inb_ret ?_
        exact (ret_fr FF10 0 Try.results7 rfl ⟨congrArg (fun b => Ending.returned (Value.bool b)) (hb.2 ⟨h41, fun j hj => hG j (by omega)⟩).symm, MM10.belowN H (fun _ hx => hx)⟩)
      · skip
        refine wp_seq (rg_c FF9 MM9 [(2, w_ 3)] 4 [] [] (⟨h41, fun _ _ FF11 MM11 => then_n ?_⟩))
        refine wp_ret ?_
        repeat first | refine then_ret ?_ | refine inb_ret ?_
        exact (ret_fr FF11 0 Try.results7 rfl ⟨congrArg (fun b => Ending.returned (Value.bool b)) (Bool.eq_false_iff.2 (fun h => h41 (hb.1 h).1)).symm, MM11.belowN H (fun _ hx => hx)⟩)
  · skip
    refine rg_c FF3 MM3 [(3, w_ 3)] 4 [12] [] (⟨hlt, fun _ _ FF12 MM12 => ?_⟩)
    refine then_n (.inr ⟨FF12.ev 0 rfl, ?_⟩)
    refine then_n ?_
    by_cases h41 : n ≤ 40
    · skip
      have hin : i = n := by omega
      refine wp_seq (rg_c FF12 MM12 [(2, w_ 2)] 4 [] [] (⟨h41, fun _ _ FF13 MM13 => then_n ?_⟩))
      refine wp_ret ?_
      repeat first | refine then_ret ?_ | refine inb_ret ?_
      exact (ret_fr FF13 0 Try.results7 rfl ⟨congrArg (fun b => Ending.returned (Value.bool b)) (hb.2 ⟨h41, fun j hj => hG j (by omega)⟩).symm, MM13.belowN H (fun _ hx => hx)⟩)
    · skip
      refine wp_seq (rg_c FF12 MM12 [(2, w_ 3)] 4 [] [] (⟨h41, fun _ _ FF14 MM14 => then_n ?_⟩))
      refine wp_ret ?_
      repeat first | refine then_ret ?_ | refine inb_ret ?_
      exact (ret_fr FF14 0 Try.results7 rfl ⟨congrArg (fun b => Ending.returned (Value.bool b)) (Bool.eq_false_iff.2 (fun h => h41 (hb.1 h).1)).symm, MM14.belowN H (fun _ hx => hx)⟩)
theorem fair_w (p : Option Addr) (n cp : Nat) (fN fB : Nat → Nat) (fR : Nat → List Nat) (b : Bool) (hb : b = true ↔ FairP n fR) (w : World) (hA : RowIn w p (n * 3) (madeV fN fB fR)) : Calls Try.prog 7 #[.slice p n cp] w fun e w' => e = .returned (.bool b) ∧ Below w.heap.size w w' := by
  obtain ⟨O, h1, h2, h3⟩ := row_O hA
  exact fair_O O h2 p n cp fN fB fR h3 b hb w h1
set_option maxHeartbeats 1000000 in
set_option maxRecDepth 100000 in
theorem reqb_O (O : Blks) (hD : Distinct O) (p : Option Addr) (n cp : Nat) (fN fB : Nat → Nat) (fR : Nat → List Nat) (hN8 : ∀ i, fN i < 256) (hB8 : ∀ i, fB i < 256) (hR8 : ∀ i j, (fR i).getD j 0 < 256) (hn : n ≤ 1000000) (hA : RowO O p (n * 3) (madeV fN fB fR)) (w0 : World) (H : Has w0 O) :
    Calls Try.prog 9 #[.slice p n cp] w0 fun e w' => ∃ v, e = .returned v ∧ Below w0.heap.size w0 w' ∧ (n ≠ 0 → ∃ (g cap : Nat) (rs : Array Value), v = .slice (some ⟨g, 0, none⟩) n cap ∧ w0.heap.size ≤ g ∧ w'.heap[g]? = some (.cells (fc n (fun k9 => sB (reqM fN fB fR k9)) ++ rs) 9)) := by
  refine enter_fr Try.func9 rfl Try.ntmps9 (by simp) fun ac (FF : Fr 47 ac [(0, .slice p n cp)]) => ?_
  have MM : MemS (fun k => k < w0.heap.size ∧ ∀ x ∈ O, x.1 ≠ k) w0 w0 O [] := MemS.startN H hD
  refine wp_seq (rg_c FF MM [] 3 [] [] (fun _ _ FF1 MM1 => then_n ?_))
  refine wp_seq (rg_c FF1 MM1 [] 4 [] [] (fun _ _ FF2 MM2 => then_n ?_))
  have MMn3 := MM2.rowNil 9 1
  refine wp_seq ?_
  refine wp_seq (rg_c FF2 MMn3 [] 5 [] [] (fun _ _ FF4 MM4 => then_n ?_))
  refine wp_for2 (fun a' w' => ∃ rv : Value, ∃ i : Nat, i ≤ n ∧ Fr 47 a' [(4, iN i), (3, rv), (0, .slice p n cp)] ∧ MemS (fun k => k < w0.heap.size ∧ ∀ x ∈ O, x.1 ≠ k) w0 w' O [(rv, 9, 1, i, (fv i (fun k9 => sB (reqM fN fB fR k9))))]) (fun a' _ => (n - cnt 4 a').toNat) ⟨(.slice none 0 0), 0, Nat.zero_le _, FF4.pick [0, 1, 3], MM4⟩ ?_
  rintro ac5 wd5 ⟨rv, i, hi, FF5, MM5⟩
  have hc := cnt_of (FF5.get 0 rfl)
  refine rg_c FF5 MM5 [] 5 [9] [] (fun _ _ FF6 MM6 => ?_)
  by_cases hlt : i < n
  · skip
    refine then_n (.inl ⟨(FF6.ev 0 rfl).trans (dec_t hlt), ?_⟩)
    refine wp_seq ?_
    by_cases hr : fR i = []
    · skip
      refine wp_seq (rg_c FF6 MM6 [(2, f_ (.pointer (some ⟨gOf p, oOf p + i * 3, none⟩))), (1, f_ (sB (fR i))), (0, w_ 3)] 5 [17] [] (⟨(rowX_addr (x := (.tmp 12)) (y := (.tmp 13)) (k := 3) (i := i) (by kernel_rfl) rfl rfl Try.underlying22 (by kernel_rfl) hA (by omega) (by omega)), (rowX_load (x := (.tmp 15)) (j := i * 3 + 2) (by kernel_rfl) rfl Try.underlying9 rfl hA (fun _ hx => hx) (by omega) (madeV_2 i)), (fun h => h (congrArg bs hr)), fun _ _ FF7 MM7 => then_n ?_⟩))
      refine wp_cond_false (FF7.ev 0 rfl) ?_
      refine wp_skip ?_
      refine then_n ?_
      refine wp_seq (rg_c FF7 MM7 [(0, n_ (.slice none 16 16) (.cells (cn .u8 (List.replicate 16 0)) 5))] 6 [] [] (⟨(make_ok (t := 38) (e := 5) (p := (.const (iN 16))) (q := (.const (iN 16))) (by kernel_rfl) rfl rfl Try.underlying38 (by kernel_rfl) (by decide)), fun bi => fun _ _ FF8 MM8 => then_n ?_⟩))
      refine wp_seq (rg_c FF8 MM8 [(3, f_ (.pointer (some ⟨gOf p, oOf p + i * 3, none⟩))), (1, f_ (iB (fN i))), (0, w_ 1), (0, s_ 0 (.cells (cn .u8 ((List.replicate 16 0).set 3 (fN i))) 5))] 6 [] [] (⟨(rowX_addr (x := (.tmp 28)) (y := (.tmp 29)) (k := 3) (i := i) (by kernel_rfl) rfl rfl Try.underlying22 (by kernel_rfl) hA (by omega) (by omega)), (rowX_load (x := (.tmp 31)) (j := i * 3) (by kernel_rfl) rfl Try.underlying5 rfl hA (fun _ hx => List.mem_cons_of_mem _ (hx)) (by omega) (madeV_0 i)), by decide, rfl, (by rw [cn_size, (List.length_replicate ..)]; decide), (.inl rfl), (cn_set _ _ _ _), fun _ _ FF9 MM9 => then_n ?_⟩))
      refine rg_drawL FF9 MM9 [.inl (rv), .inl (.slice (some ⟨bi, 0, none⟩) 16 16), .inl (sB (idN (fN i))), .inl (.slice p n cp), .inl (iN i), .inl (.pointer (some ⟨gOf p, oOf p + i * 3, none⟩)), .inl (.pointer (some ⟨gOf p, oOf p + i * 3 + 1, none⟩)), .inl (iB (fB i)), .inl (sB (List.replicate 36 (fB i))), .inl (sB (reqM fN fB fR i)), .inr (oC #[sB (reqM fN fB fR i)] 9, fun b => .slice (some ⟨b, 0, none⟩) 1 1)] [] [o_, o_, l_ 0 (sB (idN (fN i))), o_, o_, f_ (.pointer (some ⟨gOf p, oOf p + i * 3, none⟩)), o_, f_ (iB (fB i)), t_ (sB (List.replicate 36 (fB i))), t_ (sB (reqM fN fB fR i)), o_] [44, 34, 5, 4, 3, 0] (fun nb => [bi = bi, StrAt (cn .u8 ((List.replicate 16 0).set 3 (fN i))) 0 16 (bs (idN (fN i))), RunV Try.prog [(37, .slice p n cp), (38, iN i), (5, .slice (some ⟨bi, 0, none⟩) 16 16), (4, iN i), (3, rv), (0, .slice p n cp)] ((bi, .cells (cn .u8 ((List.replicate 16 0).set 3 (fN i))) 5) :: O) (opAt Try.f9 9 5) (.pointer (some ⟨gOf p, oOf p + i * 3, none⟩)), RunV Try.prog [(40, .pointer (some ⟨gOf p, oOf p + i * 3 + 1, none⟩)), (5, .slice (some ⟨bi, 0, none⟩) 16 16), (4, iN i), (3, rv), (0, .slice p n cp)] ((bi, .cells (cn .u8 ((List.replicate 16 0).set 3 (fN i))) 5) :: O) (opAt Try.f9 9 7) (iB (fB i)), CallP Try.prog 15 [iB (fB i)] [] (sB (List.replicate 36 (fB i))), (bs (idN (fN i))).size + (bs (List.replicate 36 (fB i))).size ≤ 9223372036854775807, Value.string (bs (idN (fN i)) ++ bs (List.replicate 36 (fB i))) = sB (reqM fN fB fR i)]) (by kernel_rfl) (by kernel_rfl) (by kernel_rfl) (fun _ => by kernel_rfl) (trivial) (fun nb => ⟨rfl, (str_all (idN_len (fN i)) (idN_lt (hN8 i))), (rowX_addr (x := (.tmp 37)) (y := (.tmp 38)) (k := 3) (i := i) (by kernel_rfl) rfl rfl Try.underlying22 (by kernel_rfl) hA (by omega) (by omega)), (rowX_load (x := (.tmp 40)) (j := i * 3 + 1) (by kernel_rfl) rfl Try.underlying5 rfl hA (fun _ hx => List.mem_cons_of_mem _ (hx)) (by omega) (madeV_1 i)), (callP_of en_lbox (lbox_any (fB i) (hB8 i)) _), (by simp only [bs_size, idN_len, List.length_replicate]; omega), (vS2 ((bs_app _ _).trans (congrArg bs (reqM_made hr).symm))), trivial⟩) fun nb ac10 wd10 (FF10 : Fr 47 ac10 [(44, .slice (some ⟨(nb 10), 0, none⟩) 1 1), (34, rv), (5, .slice (some ⟨bi, 0, none⟩) 16 16), (4, iN i), (3, rv), (0, .slice p n cp)]) (MM10 : MemS (fun k => k < w0.heap.size ∧ ∀ x ∈ O, x.1 ≠ k) w0 wd10 ((bi, .cells (cn .u8 ((List.replicate 16 0).set 3 (fN i))) 5) :: O) [(rv, 9, 1, i, (fv i (fun k9 => sB (reqM fN fB fR k9))))]) hfx11 => ?_
      have hb_bq : wd10.heap[nb 10]? = some (oC #[sB (reqM fN fB fR i)] 9) := hfx11.1.2
      clear hfx11
      generalize nb 10 = bq at *
      refine st_app [5, 4, 3, 0, 45] FF10 MM10 (d := 45) (s := 34) (x := 44) (Y := [sB (reqM fN fB fR i)]) (z := sB []) (bb := 16) rfl rfl rfl rfl (lies_lit hb_bq) (fun u hu => by rw [List.mem_singleton.1 hu]; rfl) (by decide) Try.underlying25 (by kernel_rfl) rfl (by decide) (by simp only [maxLen]; omega) (by omega) rfl rfl (by decide) fun ac14 wd14 rv13 FF14 MM14 => ?_
      have MMr15 : MemS (fun k => k < w0.heap.size ∧ ∀ x ∈ O, x.1 ≠ k) w0 wd14 ((bi, .cells (cn .u8 ((List.replicate 16 0).set 3 (fN i))) 5) :: O) [(rv13, 9, 1, (i + 1), (fv (i + 1) (fun k9 => sB (reqM fN fB fR k9))))] := by rw [show (fv (i + 1) (fun k9 => sB (reqM fN fB fR k9))) = ((fv i (fun k9 => sB (reqM fN fB fR k9))) ++ [sB (reqM fN fB fR i)]) from (fv_succ _ _).symm]; exact MM14
      refine rp_c 1 FF14 MMr15 [] 6 [] [] (fun _ _ FF16 MM16 => ?_)
      refine wpl_nil ?_
      refine inb_n (then_n ?_)
      refine rg_c FF16 MM16 [] 6 [] [] (⟨by omega, fun _ _ FF17 MM17 => ?_⟩)
      have hd := cnt_of (FF17.get 0 rfl)
      refine then_n ⟨⟨rv13, i + 1, by omega, FF17.pick [0, 1, 3], (MM17.dropAt 0)⟩, ?_⟩
      rw [hc, hd]; omega
    · skip
      refine wp_seq (rg_c FF6 MM6 [(2, f_ (.pointer (some ⟨gOf p, oOf p + i * 3, none⟩))), (1, f_ (sB (fR i))), (0, w_ 2)] 5 [17] [] (⟨(rowX_addr (x := (.tmp 12)) (y := (.tmp 13)) (k := 3) (i := i) (by kernel_rfl) rfl rfl Try.underlying22 (by kernel_rfl) hA (by omega) (by omega)), (rowX_load (x := (.tmp 15)) (j := i * 3 + 2) (by kernel_rfl) rfl Try.underlying9 rfl hA (fun _ hx => hx) (by omega) (madeV_2 i)), (fun h => hr (bs_inj (hR8 i) (lit_lt (by kernel_rfl)) h)), fun _ _ FF18 MM18 => then_n ?_⟩))
      refine wp_cond_true (FF18.ev 0 rfl) ?_
      refine wp_seq (wp_region_list ?_)
      refine rp_c 7 FF18 MM18 [(3, f_ (.pointer (some ⟨gOf p, oOf p + i * 3, none⟩))), (1, f_ (sB (reqM fN fB fR i))), (0, s_ 0 (oC #[sB (reqM fN fB fR i)] 9))] 19 [24] [17] (⟨(rowX_addr (x := (.tmp 19)) (y := (.tmp 20)) (k := 3) (i := i) (by kernel_rfl) rfl rfl Try.underlying22 (by kernel_rfl) hA (by omega) (by omega)), (rowX_load (x := (.tmp 22)) (j := i * 3 + 2) (by kernel_rfl) rfl Try.underlying9 rfl hA (fun _ hx => hx) (by omega) ((madeV_2 i).trans (vS (reqM_raw hr).symm))), (by kernel_rfl), fun bq => fun _ _ FF19 MM19 => ?_⟩)
      refine st_app [4, 3, 0, 25] FF19 MM19 (d := 25) (s := 18) (x := 24) (Y := [sB (reqM fN fB fR i)]) (z := sB []) (bb := 16) rfl rfl rfl rfl (lies_lit (MM19.get 0 rfl)) (fun u hu => by rw [List.mem_singleton.1 hu]; rfl) (by decide) Try.underlying25 (by kernel_rfl) rfl (by decide) (by simp only [maxLen]; omega) (by omega) rfl rfl (by decide) fun ac21 wd21 rv20 FF21 MM21 => ?_
      have MMr22 : MemS (fun k => k < w0.heap.size ∧ ∀ x ∈ O, x.1 ≠ k) w0 wd21 ((bq, oC #[sB (reqM fN fB fR i)] 9) :: O) [(rv20, 9, 1, (i + 1), (fv (i + 1) (fun k9 => sB (reqM fN fB fR k9))))] := by rw [show (fv (i + 1) (fun k9 => sB (reqM fN fB fR k9))) = ((fv i (fun k9 => sB (reqM fN fB fR k9))) ++ [sB (reqM fN fB fR i)]) from (fv_succ _ _).symm]; exact MM21
      refine rp_c 1 FF21 MMr22 [] 5 [] [] (fun _ _ FF23 MM23 => ?_)
      refine wpl_nil (then_n ?_)
      refine wp_exit ?_
      repeat first | refine then_exit ?_ | refine (inb_other (by decide) _ _ _).2 ?_ | refine (inb_exit _ _ _ _).2 ?_
      refine then_n ?_
      refine rg_c FF23 MM23 [] 5 [] [] (⟨by omega, fun _ _ FF24 MM24 => ?_⟩)
      have hd := cnt_of (FF24.get 0 rfl)
      refine then_n ⟨⟨rv20, i + 1, by omega, FF24.pick [0, 1, 2], (MM24.dropAt 0)⟩, ?_⟩
      rw [hc, hd]; omega
  · skip
    refine then_n (.inr ⟨(FF6.ev 0 rfl).trans (dec_f hlt), ?_⟩)
    obtain rfl : n = i := by omega
    obtain ⟨rp, rc, rfl, _⟩ := MM6.rowLen
    refine then_n ?_
    refine wp_seq (rg_c FF6 MM6 [] 5 [] [] (fun _ _ FF25 MM25 => then_n ?_))
    refine wp_ret ?_
    repeat first | refine then_ret ?_ | refine inb_ret ?_
    exact (ret_fr FF25 0 Try.results9 rfl ⟨_, rfl, MM25.belowN H (fun _ hx => hx), fun hn0 => by
      rcases MM25.rowForm with ⟨_, h⟩ | ⟨g, cap, h1⟩
      · exact absurd h hn0
      · simp only [Value.slice.injEq] at h1
        obtain ⟨rfl, _, rfl⟩ := h1
        obtain ⟨rs, M', h2, _⟩ := MM25.freezeF
        exact ⟨g, _, rs, rfl, h2, M'.get 0 rfl⟩⟩)
theorem reqb_w (p : Option Addr) (n cp : Nat) (fN fB : Nat → Nat) (fR : Nat → List Nat) (hN8 : ∀ i, fN i < 256) (hB8 : ∀ i, fB i < 256) (hR8 : ∀ i j, (fR i).getD j 0 < 256) (hn : n ≤ 1000000) (w : World) (hA : RowIn w p (n * 3) (madeV fN fB fR)) :
    Calls Try.prog 9 #[.slice p n cp] w fun e w' => ∃ v, e = .returned v ∧ Below w.heap.size w w' ∧ (n ≠ 0 → ∃ (g cap : Nat) (rs : Array Value), v = .slice (some ⟨g, 0, none⟩) n cap ∧ w.heap.size ≤ g ∧ w'.heap[g]? = some (.cells (fc n (fun k9 => sB (reqM fN fB fR k9)) ++ rs) 9)) := by
  obtain ⟨O, h1, h2, h3⟩ := row_O hA
  exact reqb_O O h2 p n cp fN fB fR hN8 hB8 hR8 hn h3 w h1
end Go.Proofs.Ytlcadhfdmpjdkaa
namespace Go.Proofs.Ytlcadhfdmpjdkaa
open Go.RowKit
theorem w3_lt : ∀ i, i < 3 → ∀ j, ([(List.replicate 16 0 ++ List.replicate 36 97), [115, 104, 111, 114, 116], (List.replicate 16 0 ++ List.replicate 36 98)].getD i []).getD j 0 < 256 := fun i hi => by
  match i, hi with
  | 0, _ => exact app_lt (repb_lt (by decide)) (repb_lt (by decide))
  | 1, _ => exact (lit_lt (by kernel_rfl))
  | 2, _ => exact app_lt (repb_lt (by decide)) (repb_lt (by decide))
theorem w4_lt : ∀ i, i < 4 → ∀ j, ([(List.replicate 16 0 ++ List.replicate 36 97), (List.replicate 16 0 ++ List.replicate 36 98), (List.replicate 16 0 ++ List.replicate 36 97), [115, 104, 111, 114, 116]].getD i []).getD j 0 < 256 := fun i hi => by
  match i, hi with
  | 0, _ => exact app_lt (repb_lt (by decide)) (repb_lt (by decide))
  | 1, _ => exact app_lt (repb_lt (by decide)) (repb_lt (by decide))
  | 2, _ => exact app_lt (repb_lt (by decide)) (repb_lt (by decide))
  | 3, _ => exact (lit_lt (by kernel_rfl))
theorem w3_told : ∀ i : Fin 3, mAt (fun k9 => [(List.replicate 16 0 ++ List.replicate 36 97), [115, 104, 111, 114, 116], (List.replicate 16 0 ++ List.replicate 36 98)].getD k9 []) 3 i.val = [List.replicate 36 98, List.replicate 36 0, List.replicate 36 97].getD i.val [] := by decide +kernel
theorem w4_told : cls (fun k9 => [(List.replicate 16 0 ++ List.replicate 36 97), (List.replicate 16 0 ++ List.replicate 36 98), (List.replicate 16 0 ++ List.replicate 36 97), [115, 104, 111, 114, 116]].getD k9 []) 4 c1 4 = 0 ∧ cls (fun k9 => [(List.replicate 16 0 ++ List.replicate 36 97), (List.replicate 16 0 ++ List.replicate 36 98), (List.replicate 16 0 ++ List.replicate 36 97), [115, 104, 111, 114, 116]].getD k9 []) 4 c2 4 = 0 ∧ cls (fun k9 => [(List.replicate 16 0 ++ List.replicate 36 97), (List.replicate 16 0 ++ List.replicate 36 98), (List.replicate 16 0 ++ List.replicate 36 97), [115, 104, 111, 114, 116]].getD k9 []) 4 c3 4 = 1 := by decide +kernel
set_option maxHeartbeats 1000000 in
set_option maxRecDepth 100000 in
theorem wakes_any (O : Blks) (hD : Distinct O)  (w0 : World) (H : Has w0 O) :
    Calls Try.prog 8 #[] w0 fun e w' => e = .returned (.bool true) ∧ Below w0.heap.size w0 w' := by
  refine enter_fr Try.func8 rfl Try.ntmps8 (by simp) fun ac (FF : Fr 46 ac []) => ?_
  have MM : MemS (fun k => k < w0.heap.size ∧ ∀ x ∈ O, x.1 ≠ k) w0 w0 O [] := MemS.startN H hD
  refine wp_seq (rg_c FF MM [] 1 [] [] (fun _ _ FF1 MM1 => then_n ?_))
  refine wp_seq (rg_draw FF1 MM1 [.inr (.cells (cn .u8 (List.replicate 16 0)) 5, fun b => .slice (some ⟨b, 0, none⟩) 16 16), .inl (sB (List.replicate 16 0)), .inl (sB (List.replicate 36 97)), .inl (sB (List.replicate 16 0 ++ List.replicate 36 97)), .inr (.cells (cn .u8 (List.replicate 16 0)) 5, fun b => .slice (some ⟨b, 0, none⟩) 16 16), .inl (sB (List.replicate 16 0)), .inl (sB (List.replicate 36 98)), .inl (sB (List.replicate 16 0 ++ List.replicate 36 98)), .inl (sB (List.replicate 16 0 ++ List.replicate 36 97)), .inl (sB (List.replicate 16 0 ++ List.replicate 36 98))] [] [n_ (.slice none 16 16) (.cells (cn .u8 (List.replicate 16 0)) 5), l_ 0 (sB (List.replicate 16 0)), t_ (sB (List.replicate 36 97)), t_ (sB (List.replicate 16 0 ++ List.replicate 36 97)), n_ (.slice none 16 16) (.cells (cn .u8 (List.replicate 16 0)) 5), l_ 0 (sB (List.replicate 16 0)), t_ (sB (List.replicate 36 98)), t_ (sB (List.replicate 16 0 ++ List.replicate 36 98)), o_, o_] [] [0, 1, 2] (fun nb => [RunN Try.prog [(0, .bool false)] O (opAt Try.f8 1 0) (mkOf (.slice none 16 16)) (.cells (cn .u8 (List.replicate 16 0)) 5), (nb 0) = (nb 0), StrAt (cn .u8 (List.replicate 16 0)) 0 16 (bs (List.replicate 16 0)), CallP Try.prog 15 [iB 97] [] (sB (List.replicate 36 97)), (bs (List.replicate 16 0)).size + (bs (List.replicate 36 97)).size ≤ 9223372036854775807, Value.string (bs (List.replicate 16 0) ++ bs (List.replicate 36 97)) = sB (List.replicate 16 0 ++ List.replicate 36 97), RunN Try.prog [(0, .bool false)] O (opAt Try.f8 1 4) (mkOf (.slice none 16 16)) (.cells (cn .u8 (List.replicate 16 0)) 5), (nb 4) = (nb 4), StrAt (cn .u8 (List.replicate 16 0)) 0 16 (bs (List.replicate 16 0)), CallP Try.prog 15 [iB 98] [] (sB (List.replicate 36 98)), (bs (List.replicate 16 0)).size + (bs (List.replicate 36 98)).size ≤ 9223372036854775807, Value.string (bs (List.replicate 16 0) ++ bs (List.replicate 36 98)) = sB (List.replicate 16 0 ++ List.replicate 36 98)]) (fun nb Kt => Kt [(2, sB (List.replicate 16 0 ++ List.replicate 36 98)), (1, sB (List.replicate 16 0 ++ List.replicate 36 97)), (0, .bool false)] O) (by kernel_rfl) (by kernel_rfl) (by kernel_rfl) (fun _ => by kernel_rfl) (fun _ _ => by kernel_rfl) trivial (fun nb => ⟨(make_ok (t := 38) (e := 5) (p := (.const (iN 16))) (q := (.const (iN 16))) (by kernel_rfl) rfl rfl Try.underlying38 (by kernel_rfl) (by decide)), rfl, (str_all (List.length_replicate ..) (rep0_lt)), (callP_of en_lbox (lbox_any 97 (by decide)) _), (by simp only [bs_size, List.length_replicate]; omega), (vS2 (bs_app _ _)), (make_ok (t := 38) (e := 5) (p := (.const (iN 16))) (q := (.const (iN 16))) (by kernel_rfl) rfl rfl Try.underlying38 (by kernel_rfl) (by decide)), rfl, (str_all (List.length_replicate ..) (rep0_lt)), (callP_of en_lbox (lbox_any 98 (by decide)) _), (by simp only [bs_size, List.length_replicate]; omega), (vS2 (bs_app _ _)), trivial⟩) (fun nb => fun _ _ FF2 MM2 => then_n ?_))
  refine wp_seq (wp_region_list ?_)
  refine rp_c 3 FF2 MM2 [(2, s_ 0 (.cells (fc 3 (fun k9 => sB ([(List.replicate 16 0 ++ List.replicate 36 97), [115, 104, 111, 114, 116], (List.replicate 16 0 ++ List.replicate 36 98)].getD k9 []))) 9))] 3 [17] [] (⟨(by kernel_rfl), fun b2 => fun _ _ FF3 MM3 => ?_⟩)
  refine st_callE [2, 1, 0, 18] FF3 (d := 18) (mk := fun v => .slice (pOf v) 3 (cOf v)) en_dm rfl rfl (dm_w (some ⟨b2, 0, none⟩) 3 3 (fun k9 => [(List.replicate 16 0 ++ List.replicate 36 97), [115, 104, 111, 114, 116], (List.replicate 16 0 ++ List.replicate 36 98)].getD k9 []) (by decide) w3_lt _ (rowIn_fc (MM3.hasL 0 _ rfl))) rfl (by kernel_rfl) (by decide) fun ac6 wd6 lv5 FF6 hr7 => ?_
  obtain ⟨O8, MM90, hR10, hs11⟩ := MemS.addRow (K := [(b2, .cells (fc 3 (fun k9 => sB ([(List.replicate 16 0 ++ List.replicate 36 97), [115, 104, 111, 114, 116], (List.replicate 16 0 ++ List.replicate 36 98)].getD k9 []))) 9)]) (O := O) MM3 hr7.1 hr7.2
  have MM9 : MemS (fun k => k < w0.heap.size ∧ ∀ x ∈ O, x.1 ≠ k) w0 wd6 ((b2, .cells (fc 3 (fun k9 => sB ([(List.replicate 16 0 ++ List.replicate 36 97), [115, 104, 111, 114, 116], (List.replicate 16 0 ++ List.replicate 36 98)].getD k9 []))) 9) :: O8) [] := MM90
  refine rp_c 1 FF6 MM9 [] 4 [] [] (fun _ _ FF12 MM12 => ?_)
  refine wpl_nil (then_n ?_)
  refine wp_seq (rg_c FF12 MM12 [(3, s_ 0 (.cells (fc 4 (fun k9 => sB ([(List.replicate 16 0 ++ List.replicate 36 97), (List.replicate 16 0 ++ List.replicate 36 98), (List.replicate 16 0 ++ List.replicate 36 97), [115, 104, 111, 114, 116]].getD k9 []))) 9)), (0, u_ 1 (.tuple #[iN 0, iN 0, iN 1]))] 7 [] [] (⟨(by kernel_rfl), fun b3 => ⟨⟨en_dc, fun w Hw => by have h0 := dc_w (some ⟨b3, 0, none⟩) 4 4 (fun k9 => [(List.replicate 16 0 ++ List.replicate 36 97), (List.replicate 16 0 ++ List.replicate 36 98), (List.replicate 16 0 ++ List.replicate 36 97), [115, 104, 111, 114, 116]].getD k9 []) (by decide) w4_lt w (rowIn_fc (Hw 0 _ rfl)); rw [w4_told.1, w4_told.2.1, w4_told.2.2] at h0; exact h0⟩, fun _ _ FF13 MM13 => then_n ?_⟩⟩))
  refine wp_seq (rg_c FF13 MM13 [(1, t_ (sB (List.replicate 36 98))), (0, t_ (sB (List.replicate 36 0))), (0, t_ (sB (List.replicate 36 97))), (0, s_ 0 (.cells (fc 3 (fun k9 => sB ([List.replicate 36 98, List.replicate 36 0, List.replicate 36 97].getD k9 []))) 9)), (0, u_ 1 (.bool true)), (2, w_ 2), (3, w_ 2), (3, w_ 2)] 3 [] [] (⟨(callP_of en_lbox (lbox_any 98 (by decide)) _), (callP_of en_lbox (lbox_any 0 (by decide)) _), (callP_of en_lbox (lbox_any 97 (by decide)) _), (by kernel_rfl), fun b4 => ⟨⟨en_ktexts, fun w Hw => ktexts_w (pOf lv5) 3 (cOf lv5) (some ⟨b4, 0, none⟩) 3 (fun k9 => mAt (fun k9 => [(List.replicate 16 0 ++ List.replicate 36 97), [115, 104, 111, 114, 116], (List.replicate 16 0 ++ List.replicate 36 98)].getD k9 []) 3 k9) (fun k9 => [List.replicate 36 98, List.replicate 36 0, List.replicate 36 97].getD k9 []) (by decide) (fun i hi => w3_told ⟨i, hi⟩) w (hR10.at (Has.tl (Has.tl (Has.tl Hw)))) (rowIn_fc (Hw 0 _ rfl))⟩, by decide, by decide, by decide, fun _ _ FF14 MM14 => then_n ?_⟩⟩))
  refine wp_ret ?_
  repeat first | refine then_ret ?_ | refine inb_ret ?_
  exact (ret_fr FF14 0 Try.results8 rfl ⟨rfl, MM14.belowN H (fun _ hx => List.mem_cons_of_mem _ (List.mem_cons_of_mem _ (List.mem_cons_of_mem _ (hs11 _ hx))))⟩)
theorem wakes_w (w : World) : Calls Try.prog 8 #[] w fun e w' => e = .returned (.bool true) ∧ Below w.heap.size w w' := wakes_any [] trivial w (fun i y hy => by simp at hy)
end Go.Proofs.Ytlcadhfdmpjdkaa
namespace Go.Proofs.Ytlcadhfdmpjdkaa
open Go.RowKit
def sg (i j k : Nat) : Nat := if k = j then i else if k = i then j else k
def swapS (f : Nat → List Nat) (i j k : Nat) : List Nat := if k = j then f i else if k = i then f j else f k
theorem swapS_sg (f : Nat → List Nat) (i j k : Nat) : swapS f i j k = f (sg i j k) := by
  unfold swapS sg
  split
  · rfl
  · split <;> rfl
theorem sg_sg (i j k : Nat) : sg i j (sg i j k) = k := by
  unfold sg
  by_cases h1 : k = j
  · rw [if_pos h1]
    by_cases h2 : i = j
    · rw [if_pos h2, h1, h2]
    · rw [if_neg h2, if_pos rfl, h1]
  · rw [if_neg h1]
    by_cases h2 : k = i
    · rw [if_pos h2, if_pos rfl, h2]
    · rw [if_neg h2, if_neg h1, if_neg h2]
theorem sg_lt {i j k n : Nat} (hi : i < n) (hj : j < n) (hk : k < n) : sg i j k < n := by
  unfold sg
  split
  · exact hi
  · split
    · exact hj
    · exact hk
theorem swapS_lt {s : Nat → List Nat} {n i j : Nat} (hi : i < n) (hj : j < n) (hs : ∀ i, i < n → ∀ j, (s i).getD j 0 < 256) : ∀ k, k < n → ∀ q, (swapS s i j k).getD q 0 < 256 := fun k hk => by
  rw [swapS_sg]
  exact hs _ (sg_lt hi hj hk)
theorem SM_sg (s : Nat → List Nat) (i j a b : Nat) : SM (swapS s i j) a b ↔ SM s (sg i j a) (sg i j b) := by
  show _ ∧ _ ∧ _ ↔ _
  rw [swapS_sg, swapS_sg]
theorem one_sg {s : Nat → List Nat} {n i j k : Nat} (hi : i < n) (hj : j < n) (h : oN s (sg i j k) n = 1) : oN (swapS s i j) k n = 1 := by
  obtain ⟨q, ⟨q1, q2, q3⟩, q4⟩ := one_iff.1 h
  refine one_iff.2 ⟨sg i j q, ⟨sg_lt hi hj q1, fun e => q2 (by rw [← e, sg_sg]), (SM_sg s i j _ _).2 (by rw [sg_sg]; exact q3)⟩, fun a h1 h2 h3 => ?_⟩
  rw [← q4 (sg i j a) (sg_lt hi hj h1) (fun e => h2 (by rw [← sg_sg i j a, e, sg_sg])) ((SM_sg s i j _ _).1 h3), sg_sg]
theorem swapS_two (s : Nat → List Nat) (i j : Nat) : swapS (swapS s i j) i j = s := funext fun k => by rw [swapS_sg, swapS_sg, sg_sg]
theorem mAt_swap {s : Nat → List Nat} {n i j k : Nat} (hi : i < n) (hj : j < n) : swapS (mAt s n) i j k = mAt (swapS s i j) n k := by
  rw [swapS_sg]
  by_cases h : oN s (sg i j k) n = 1
  · obtain ⟨q, ⟨q1, q2, q3⟩, _⟩ := one_iff.1 h
    rw [mAt_of h q1 q2 q3, mAt_of (j := sg i j q) (one_sg hi hj h) (sg_lt hi hj q1) (fun e => q2 (by rw [← e, sg_sg])) ((SM_sg s i j _ _).2 (by rw [sg_sg]; exact q3)), swapS_sg, sg_sg]
  · rw [mAt_no h]
    refine (mAt_no fun h2 => h ?_).symm
    have h3 := one_sg (s := swapS s i j) (k := sg i j k) hi hj (by rw [sg_sg]; exact h2)
    rwa [swapS_two] at h3
end Go.Proofs.Ytlcadhfdmpjdkaa
