/- A region, walked by what is told of its operations: in its row, or in whatever order. -/
import Derived.Test.YtkpindnekaijfaaDoorEvC
namespace Go.Proofs.YtkpindnekaijfaaDoor
open Go.RowKit

def upAt (us : List (Nat × Obj)) (i : Nat) (x : Nat × Obj) : Nat × Obj :=
  match us with
  | [] => x
  | u :: r => match Nat.beq u.1 i with | true => (x.1, u.2) | false => upAt r i x
def modAt (o : Obj) : Nat → Blks → Blks
  | _, [] => []
  | 0, x :: r => (x.1, o) :: r
  | i + 1, x :: r => x :: modAt o i r
/-- Blocks that turn; the list's end may be a letter. -/
def setAll (us : List (Nat × Obj)) (L : Blks) : Blks :=
  match us with
  | [] => L
  | u :: r => modAt u.2 u.1 (setAll r L)
def newL (b : Nat) (r : Res) (L : Blks) : Blks :=
  match r.new, r.ups with
  | none, [] => L
  | none, us => setAll us L
  | some ob, [] => (b, ob) :: L
  | some ob, us => (b, ob) :: setAll us L
theorem upAt_fst (us : List (Nat × Obj)) (i : Nat) (x : Nat × Obj) : (upAt us i x).1 = x.1 := by
  induction us with
  | nil => rfl
  | cons u r ih => unfold upAt; split <;> first | rfl | exact ih
theorem upAt_cases (us : List (Nat × Obj)) (i : Nat) (x : Nat × Obj) : (∃ u ∈ us, u.1 = i ∧ upAt us i x = (x.1, u.2)) ∨ ((∀ u ∈ us, u.1 ≠ i) ∧ upAt us i x = x) := by
  induction us with
  | nil => exact .inr ⟨fun u hu => (nomatch hu), rfl⟩
  | cons u r ih =>
    cases h : Nat.beq u.1 i with
    | true => exact .inl ⟨u, by simp, Nat.eq_of_beq_eq_true h, by simp [upAt, h]⟩
    | false =>
      have hne : u.1 ≠ i := Nat.ne_of_beq_eq_false h
      rcases ih with ⟨v, hv, h1, h2⟩ | ⟨h1, h2⟩
      · exact .inl ⟨v, by simp [hv], h1, by simp [upAt, h, h2]⟩
      · exact .inr ⟨fun v hv => (List.mem_cons.1 hv).elim (fun e => by rw [e]; exact hne) (h1 v), by simp [upAt, h, h2]⟩
theorem modAt_get (o : Obj) : ∀ (j : Nat) (L : Blks) (i : Nat), (modAt o j L)[i]? = (L[i]?).map (fun x => match Nat.beq j i with | true => (x.1, o) | false => x)
  | j, [], i => by cases j <;> simp [modAt]
  | 0, x :: r, 0 => by simp [modAt]
  | 0, x :: r, i + 1 => by simp [modAt, Nat.beq]
  | j + 1, x :: r, 0 => by simp [modAt, Nat.beq]
  | j + 1, x :: r, i + 1 => by simp [modAt, Nat.beq, modAt_get o j r i]
theorem setAll_get : ∀ (us : List (Nat × Obj)) (L : Blks) (i : Nat), (setAll us L)[i]? = (L[i]?).map (upAt us i)
  | [], L, i => by
    simp only [setAll]
    cases h : L[i]? with
    | none => rfl
    | some x => rfl
  | u :: r, L, i => by
    simp only [setAll, modAt_get, setAll_get r L i, Option.map_map]
    congr 1
    funext x
    simp only [Function.comp, upAt]
    split <;> rename_i h
    · rw [upAt_fst]
    · rfl
theorem setAll_nil (L : Blks) : setAll [] L = L := rfl
theorem newL_eq (b : Nat) (r : Res) (L : Blks) : newL b r L = (match r.new with | some ob => [(b, ob)] | none => []) ++ setAll r.ups L := by
  unfold newL
  cases hn : r.new <;> cases hu : r.ups <;> simp [setAll_nil]
/-- A row that the walk owns and grows: its value, its elements' type, their cells, how many there are, what they hold. -/
abbrev Row : Type := Value × TypeId × Nat × Nat × List Value
/-- Blocks that the walk knows, each apart from the others, with what is in them; rows that it owns; the blocks in S, all old ones, are as they were. -/
structure MemS (S : Nat → Prop) (w0 w : World) (L : Blks) (R : List Row) : Prop where
  os : w.os = w0.os
  tape : w.tape = w0.tape
  output : w.output = w0.output
  size : w0.heap.size ≤ w.heap.size
  block : ∀ k, S k → w.heap[k]? = w0.heap[k]?
  old : ∀ k, S k → k < w0.heap.size
  has : ∀ (i : Nat) (x : Nat × Obj), L[i]? = some x → w.heap[x.1]? = some x.2
  apart : ∀ (i j : Nat) (x y : Nat × Obj), L[i]? = some x → L[j]? = some y → i ≠ j → x.1 ≠ y.1
  base : ∀ (i : Nat) (x : Nat × Obj), L[i]? = some x → ¬ S x.1
  rows : ∀ r ∈ R, w.ownsRow w0.heap.size r.2.1 r.2.2.1 r.1 r.2.2.2.1 r.2.2.2.2
  rowsL : ∀ r ∈ R, ∀ g, r.1.ownBlock = some g → ∀ x ∈ L, x.1 ≠ g
  rowsR : ∀ (i j : Nat) (r r' : Row), R[i]? = some r → R[j]? = some r' → i ≠ j → ∀ g, r.1.ownBlock = some g → r'.1.ownBlock ≠ some g
theorem ownsRow_lt {w : World} {base n k : Nat} {e : TypeId} {v : Value} {xs : List Value} (h : w.ownsRow base e k v n xs) {g : Nat} (hg : v.ownBlock = some g) : base ≤ g ∧ g < w.heap.size := by
  obtain ⟨_, ⟨rfl, _⟩ | ⟨g', cap, cur, rfl, h2, h3, _⟩⟩ := h
  · cases hg
  · obtain rfl : g' = g := by simpa [Value.ownBlock] using hg
    exact ⟨h2, lt_of_block h3⟩
theorem ownsRow_keep {w w' : World} {base n k : Nat} {e : TypeId} {v : Value} {xs : List Value} (h : w.ownsRow base e k v n xs) (hg : ∀ g, v.ownBlock = some g → w'.heap[g]? = w.heap[g]?) : w'.ownsRow base e k v n xs := by
  obtain ⟨h1, h | ⟨g', cap, cur, rfl, h2, h3, h4⟩⟩ := h
  · exact ⟨h1, .inl h⟩
  · exact ⟨h1, .inr ⟨g', cap, cur, rfl, h2, (hg g' rfl).trans h3, h4⟩⟩
namespace MemS
variable {S : Nat → Prop} {w0 w w' : World} {L : Blks} {R : List Row}
theorem start (w : World) : MemS (fun k => k < w.heap.size) w w [] [] := ⟨rfl, rfl, rfl, Nat.le_refl _, fun _ _ => rfl, fun _ h => h, fun i x h => by simp at h, fun i j x y h => by simp at h, fun i x h => by simp at h, fun r h => (nomatch h), fun r h => (nomatch h), fun i j r r' h => by simp at h⟩
/-- One block that was there may turn. -/
theorem start1 {w : World} {b : Nat} {o : Obj} (h : w.heap[b]? = some o) : MemS (fun k => k < w.heap.size ∧ k ≠ b) w w [(b, o)] [] :=
  ⟨rfl, rfl, rfl, Nat.le_refl _, fun _ _ => rfl, fun _ h => h.1, fun i x hx => by cases i with | zero => simp at hx; subst hx; exact h | succ i => simp at hx,
    fun i j x y hx hy hij => by cases i with | zero => (cases j with | zero => omega | succ j => simp at hy) | succ i => simp at hx,
    fun i x hx => by cases i with | zero => simp at hx; subst hx; simp | succ i => simp at hx, fun r h => (nomatch h), fun r h => (nomatch h), fun i j r r' h => by simp at h⟩
theorem get (M : MemS S w0 w L R) (i : Nat) {b : Nat} {o : Obj} (h : L[i]? = some (b, o)) : w.heap[b]? = some o := M.has i _ h
theorem keep (M : MemS S w0 w L R) (hb : Below w.heap.size w w') : MemS S w0 w' L R :=
  ⟨hb.os.trans M.os, hb.tape.trans M.tape, hb.output.trans M.output, Nat.le_trans M.size hb.size, fun k hk => (hb.block k (Nat.lt_of_lt_of_le (M.old k hk) M.size)).trans (M.block k hk), M.old, fun i x h => Go.Proofs.YtkpindnekaijfaaDoor.keep hb (M.has i x h), M.apart, M.base,
    fun r hr => ownsRow_keep (M.rows r hr) fun g hg => hb.block g (ownsRow_lt (M.rows r hr) hg).2, M.rowsL, M.rowsR⟩
theorem below (M : MemS (fun k => k < w0.heap.size) w0 w L R) : Below w0.heap.size w0 w := ⟨M.os, M.tape, M.output, M.size, fun k hk => M.block k hk⟩
end MemS
section
variable {P : Program} {ops : Array Oper} {a : Act} {w0 w w' : World} {Q : Exit → Act → World → Prop} {n : Nat} {l : Slots} {L : Blks} {r : Res} {b : Nat} {S : Nat → Prop} {R : List Row}
theorem MemS.post (M : MemS S w0 w L R) (p : Post w w' L r b) : MemS S w0 w' (newL b r L) R := by
  have hup : ∀ (i : Nat) (x : Nat × Obj), (setAll r.ups L)[i]? = some x → ∃ y, L[i]? = some y ∧ x.1 = y.1 ∧ w'.heap[x.1]? = some x.2 := fun i x h => by
    rw [setAll_get] at h
    obtain ⟨y, hy, rfl⟩ := Option.map_eq_some_iff.1 h
    refine ⟨y, hy, upAt_fst _ _ _, ?_⟩
    rcases upAt_cases r.ups i y with ⟨u, hu, h1, h2⟩ | ⟨h1, h2⟩
    · rw [h2]
      exact p.turned u hu y (by rw [h1]; exact hy)
    · rw [h2]
      rw [p.block y.1 (lt_of_block (M.has i y hy)) (fun u hu z hz => M.apart u.1 i z y hz hy (h1 u hu))]
      exact M.has i y hy
  have hblock : ∀ k, S k → w'.heap[k]? = w0.heap[k]? := fun k hk => by
    rw [p.block k (Nat.lt_of_lt_of_le (M.old k hk) M.size) (fun u _ z hz e => M.base u.1 z hz (e ▸ hk))]
    exact M.block k hk
  have hrows : ∀ q ∈ R, w'.ownsRow w0.heap.size q.2.1 q.2.2.1 q.1 q.2.2.2.1 q.2.2.2.2 := fun q hq => ownsRow_keep (M.rows q hq) fun g hg => p.block g (ownsRow_lt (M.rows q hq) hg).2 fun u _ y hy => M.rowsL q hq g hg y (List.mem_of_getElem? hy)
  have hrl : ∀ q ∈ R, ∀ g, q.1.ownBlock = some g → ∀ x ∈ setAll r.ups L, x.1 ≠ g := fun q hq g hg x hx => by
    obtain ⟨i, hi⟩ := List.mem_iff_getElem?.1 hx
    obtain ⟨y, h1, h2, _⟩ := hup i x hi
    rw [h2]; exact M.rowsL q hq g hg y (List.mem_of_getElem? h1)
  rw [newL_eq]
  cases hn : r.new with
  | none =>
    simp only [List.nil_append]
    refine ⟨p.os.trans M.os, p.tape.trans M.tape, p.output.trans M.output, Nat.le_trans M.size p.size, hblock, M.old, fun i x h => ?_, fun i j x y h h' hij => ?_, fun i x h => ?_, hrows, hrl, M.rowsR⟩
    · obtain ⟨y, _, _, h3⟩ := hup i x h; exact h3
    · obtain ⟨y1, h1, h2, _⟩ := hup i x h
      obtain ⟨y2, h3, h4, _⟩ := hup j y h'
      rw [h2, h4]; exact M.apart i j y1 y2 h1 h3 hij
    · obtain ⟨y1, h1, h2, _⟩ := hup i x h
      rw [h2]; exact M.base i y1 h1
  | some ob =>
    obtain ⟨hb, hob⟩ := p.fresh ob hn
    have hlt : ∀ (i : Nat) (x : Nat × Obj), (setAll r.ups L)[i]? = some x → x.1 < b := fun i x h => by
      obtain ⟨y, h1, h2, _⟩ := hup i x h
      rw [h2, hb]; exact lt_of_block (M.has i y h1)
    refine ⟨p.os.trans M.os, p.tape.trans M.tape, p.output.trans M.output, Nat.le_trans M.size p.size, hblock, M.old, fun i x h => ?_, fun i j x y h h' hij => ?_, fun i x h => ?_, hrows, fun q hq g hg x hx => ?_, M.rowsR⟩
    · cases i with
      | zero => simp at h; subst h; exact hob
      | succ i => obtain ⟨y, _, _, h3⟩ := hup i x (by simpa using h); exact h3
    · cases i with
      | zero =>
        simp at h; subst h
        cases j with
        | zero => omega
        | succ j => have := hlt j y (by simpa using h'); exact Nat.ne_of_gt this
      | succ i =>
        have h := (show (setAll r.ups L)[i]? = some x by simpa using h)
        cases j with
        | zero => simp at h'; subst h'; exact Nat.ne_of_lt (hlt i x h)
        | succ j =>
          have h' := (show (setAll r.ups L)[j]? = some y by simpa using h')
          obtain ⟨y1, h1, h2, _⟩ := hup i x h
          obtain ⟨y2, h3, h4, _⟩ := hup j y h'
          rw [h2, h4]; exact M.apart i j y1 y2 h1 h3 (by omega)
    · cases i with
      | zero => simp at h; subst h; rw [hb]; exact fun hs => Nat.lt_irrefl _ (Nat.lt_of_lt_of_le (M.old _ hs) M.size)
      | succ i =>
        obtain ⟨y1, h1, h2, _⟩ := hup i x (by simpa using h)
        rw [h2]; exact M.base i y1 h1
    · rcases List.mem_cons.1 hx with rfl | hx
      · rw [hb]; exact Nat.ne_of_gt (ownsRow_lt (M.rows q hq) hg).2
      · exact hrl q hq g hg x hx
theorem MemS.hasL (M : MemS S w0 w L R) : Has w L := fun i x h => M.has i x h
theorem look_mem : ∀ (l : Slots) (t : Nat) (v : Value), look t l = some v → (t, v) ∈ l
  | [], _, _, h => by cases h
  | x :: r, t, v, h => by
    unfold look at h
    split at h
    · rename_i hb
      obtain rfl := Option.some.inj h
      rw [← Nat.eq_of_beq_eq_true hb]
      simp
    · exact List.mem_cons_of_mem _ (look_mem r t v h)
theorem Fr.agr (F : Fr n a l) : Agr a.eval l := fun x v h => by
  cases x with
  | tmp t => exact eval_tmp (F.has (t, v) (look_mem l t v h))
  | const u => exact Option.some.inj h
  | func f => exact Option.some.inj h
  | global g => exact Option.some.inj h
def wantOf (ops : List Oper) (l : Slots) (o : Oper) : Option Bool :=
  match o.guard with
  | none => some true
  | some (j, bv) => match (ops[j]?).bind (·.dst) with
    | some d => match look d l with | some (.bool c) => some (match c, bv with | true, true => true | false, false => true | _, _ => false) | _ => none
    | none => none
def putS (d : Option Nat) (v : Value) (l : Slots) : Slots := match d with | some d => upd d v l | none => l
def memB (t : Nat) : List Nat → Bool
  | [] => false
  | x :: r => match Nat.beq x t with | true => true | false => memB t r
def keepS (out : List Nat) : Slots → Slots
  | [] => []
  | x :: r => match memB x.1 out with | true => x :: keepS out r | false => keepS out r
theorem keepS_mem (out : List Nat) : ∀ (l : Slots) (x : Nat × Value), x ∈ keepS out l → x ∈ l
  | [], _, h => by cases h
  | y :: r, x, h => by
    unfold keepS at h
    split at h
    · rcases List.mem_cons.1 h with rfl | h
      · simp
      · exact List.mem_cons_of_mem _ (keepS_mem out r x h)
    · exact List.mem_cons_of_mem _ (keepS_mem out r x h)
theorem Fr.keepS (F : Fr n a l) (out : List Nat) : Fr n a (keepS out l) := ⟨F.defers, F.size, fun x hx => F.has x (keepS_mem out l x hx)⟩
/-- A row of operations, by what is told. -/
def awp (P : Program) (ops : List Oper) (out : List Nat) (K : Slots → Blks → Prop) : List Oper → List Hint → Slots → Blks → Prop
  | [], _, l, L => K (keepS out l) L
  | o :: rest, hs, l, L =>
    match wantOf ops l o with
    | some true => match hs with
      | h :: hs => match aev P l L h o with
        | some (r, cs) => allC cs (match r.new with
          | none => awp P ops out K rest hs (putS o.dst (r.val 0) l) (newL 0 r L)
          | some _ => ∀ b, awp P ops out K rest hs (putS o.dst (r.val b) l) (newL b r L))
        | none => False
      | [] => False
    | some false => match hs with
      | _ :: hs => awp P ops out K rest hs (putS o.dst undef l) L
      | [] => False
    | none => False
theorem wanted_iff {o : Oper} {c : Bool} (h : wantOf ops.toList l o = some c) (hsz : ∀ t v, look t l = some v → a.tmps[t]? = some v) : Region.wanted o (yielded ops a.tmps) = c := by
  unfold wantOf at h
  split at h
  · rename_i hg
    obtain rfl := Option.some.inj h
    simp [Region.wanted, hg]
  · rename_i j bv hg
    split at h <;> first | (cases h; done) | skip
    rename_i d hd
    split at h <;> first | (cases h; done) | skip
    rename_i c' hc
    have hv := hsz d _ hc
    have hd' : (ops[j]?).bind (·.dst) = some d := by simpa using hd
    obtain rfl := Option.some.inj h
    cases c' <;> cases bv
    · exact wanted_of hg hd' hv
    · exact unwanted_of hg hd' hv
    · exact unwanted_of hg hd' hv
    · exact wanted_of hg hd' hv
theorem Fr.lk (F : Fr n a l) : ∀ t v, look t l = some v → a.tmps[t]? = some v := fun t v h => F.has (t, v) (look_mem l t v h)
theorem Fr.putS (F : Fr n a l) {o : Oper} (v : Value) (hd : dstsB n [o] = true) : Fr n (a.put o.dst v) (putS o.dst v l) := by
  cases h : o.dst with
  | none => exact F
  | some d =>
    simp only [dstsB, List.all_cons, h, List.all_nil, Bool.and_true] at hd
    exact F.put v (by simp [Nat.blt] at hd; omega)
theorem seq_ok {rest : List Oper} {out : List Nat} {K : Slots → Blks → Prop} (hK : ∀ l' L' a' w', K l' L' → Fr n a' l' → MemS S w0 w' L' R → wpList P ops Q rest a' w') :
    ∀ (pre : List Oper) (hs : List Hint) (l : Slots) (L : Blks) (a : Act) (w : World), dstsB n pre = true → awp P ops.toList out K pre hs l L → Fr n a l → MemS S w0 w L R → wpList P ops Q (pre ++ rest) a w
  | [], _, l, L, a, w, _, h, F, M => hK _ _ a w h (F.keepS out) M
  | o :: pre, hs, l, L, a, w, hd, h, F, M => by
    have hd1 : dstsB n [o] = true := by simp only [dstsB, List.all_cons, Bool.and_eq_true, List.all_nil, Bool.and_true] at hd ⊢; exact hd.1
    have hd2 : dstsB n pre = true := by simp only [dstsB, List.all_cons, Bool.and_eq_true] at hd ⊢; exact hd.2
    simp only [awp] at h
    refine wpList_step fun K' hK' => ?_
    split at h
    · rename_i hw
      rw [if_pos (wanted_iff hw F.lk)]
      split at h <;> first | exact h.elim | skip
      rename_i h1 hs
      split at h <;> first | exact h.elim | skip
      rename_i r cs hr
      obtain ⟨hcs, hn⟩ := allC_iff.1 h
      refine aev_ok F.agr M.hasL hr hcs _ _ fun b w' p => hK' _ _ ?_
      have M' := M.post p
      split at hn
      · rename_i hnew
        obtain rfl := p.zero hnew
        exact seq_ok hK pre hs _ _ _ _ hd2 hn (F.putS _ hd1) M'
      · exact seq_ok hK pre hs _ _ _ _ hd2 (hn b) (F.putS _ hd1) M'
    · rename_i hw
      rw [if_neg (by rw [wanted_iff hw F.lk]; decide)]
      split at h <;> first | exact h.elim | skip
      exact hK' _ _ (seq_ok hK pre _ _ _ _ _ hd2 h (F.putS _ hd1) M)
    · exact h.elim
/-- A region in its row. -/
theorem rg_seq {id : Nat} (F : Fr n a l) (M : MemS S w0 w L R) (hs : List Hint) (out : List Nat) (G : (Slots → Blks → Prop) → Prop) (hd : dstsB n ops.toList = true) (h : ∀ K, awp P ops.toList out K ops.toList hs l L = G K)
    (g : G (fun l' L' => ∀ a' w', Fr n a' l' → MemS S w0 w' L' R → Q .normal a' w')) : (Code.region id ops false).wp P Q a w := by
  refine wp_region_list ?_
  have := seq_ok (P := P) (ops := ops) (Q := Q) (w0 := w0) (S := S) (R := R) (n := n) (rest := []) (out := out) (K := fun l' L' => ∀ a' w', Fr n a' l' → MemS S w0 w' L' R → Q .normal a' w') (fun l' L' a' w' hK F M => hK a' w' F M) ops.toList hs l L a w hd (by rw [h]; exact g) F M
  rwa [List.append_nil] at this
/-- The first k of a row. -/
theorem rg_part (k : Nat) {os : List Oper} (F : Fr n a l) (M : MemS S w0 w L R) (hs : List Hint) (out : List Nat) (G : (Slots → Blks → Prop) → Prop) (hd : dstsB n (os.take k) = true) (h : ∀ K, awp P ops.toList out K (os.take k) hs l L = G K)
    (g : G (fun l' L' => ∀ a' w', Fr n a' l' → MemS S w0 w' L' R → wpList P ops Q (os.drop k) a' w')) : wpList P ops Q os a w := by
  have := seq_ok (P := P) (ops := ops) (Q := Q) (w0 := w0) (S := S) (R := R) (n := n) (rest := os.drop k) (out := out) (K := fun l' L' => ∀ a' w', Fr n a' l' → MemS S w0 w' L' R → wpList P ops Q (os.drop k) a' w') (fun l' L' a' w' hK F M => hK a' w' F M) (os.take k) hs l L a w hd (by rw [h]; exact g) F M
  rwa [List.take_append_drop] at this
/-! ### In whatever order -/
abbrev Item : Type := Value ⊕ (Obj × (Nat → Value))
def depSlots (ops : List Oper) (specs : List Item) (nb : Nat → Nat) : List Nat → Slots
  | [] => []
  | j :: r => match (ops[j]?).bind (·.dst), specs[j]? with | some d, some s => (d, valOf s (nb j)) :: depSlots ops specs nb r | _, _ => depSlots ops specs nb r
def depBlks (specs : List Item) (nb : Nat → Nat) : List Nat → Blks
  | [] => []
  | j :: r => match specs[j]? with | some (.inr (ob, _)) => (nb j, ob) :: depBlks specs nb r | _ => depBlks specs nb r
def dstsOf : List Oper → List Nat
  | [] => []
  | o :: r => match o.dst with | some d => d :: dstsOf r | none => dstsOf r
def dropS (ds : List Nat) : Slots → Slots
  | [] => []
  | x :: r => match memB x.1 ds with | true => dropS ds r | false => x :: dropS ds r
def itemOf (r : Res) : Option Item :=
  match r.ups, r.new with
  | [], none => some (.inl (r.val 0))
  | [], some ob => some (.inr (ob, r.val))
  | _ :: _, _ => none
def dres (P : Program) (ops : List Oper) (specs : List Item) (nb : Nat → Nat) (lo : Slots) (L : Blks) : List Oper → List Hint → Option (List Item × List Prop)
  | [], _ => some ([], [])
  | _ :: _, [] => none
  | o :: rest, h :: hs =>
    match dres P ops specs nb lo L rest hs with
    | none => none
    | some (is, cs) =>
      match wantOf ops (depSlots ops specs nb (depsOf o) ++ lo) o with
      | some true => match aev P (depSlots ops specs nb (depsOf o) ++ lo) (depBlks specs nb (depsOf o) ++ L) h o with
        | some (r, cs') => match itemOf r with | some i => some (i :: is, cs' ++ cs) | none => none
        | none => none
      | some false => some (.inl undef :: is, cs)
      | none => none
end
end Go.Proofs.YtkpindnekaijfaaDoor
