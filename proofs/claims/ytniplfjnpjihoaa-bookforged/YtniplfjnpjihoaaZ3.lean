/- Several texts in one: A pointer held against nil. Rows of any values, by a function of the place: made, read, turned, grown; rows that calls have made. A region in its row, told in the words that come out: numbers, values, lists are taken apart and put together anew on the way, so that what comes out need not be written down. What any operation comes to, in the words that come out; a region so. A region in its row, in the words that come out. A region that draws its order, whose operations make no new block, in the words that come out. Structs of numbers, bools and texts, held against each other. Numbers of Poly1305: words, products, what is beyond 2^130. No program in this text. A text in blocks: the numbers of Poly1305. No program in this text. Keys, byte by byte; sums with a carry. No program in this text. The answer of the document: keys in digits, blocks, the tag. No program in this text. Package poly: words, products. Package poly: sums, products of numbers. Package poly: the least number, its bytes. Package poly: keys, blocks. Package poly: Sum. -/
import Derived.Test.YtniplfjnpjihoaaZ2
import Derived.SliceStrings
import Derived.Laws.StructEq
import Derived.Laws.Small
import Derived.Laws.BitsAllLaws
import Derived.Test.YtniplfjnpjihoaaProg
import Derived.Laws.Externs
namespace Go.Proofs.Ytniplfjnpjihoaa
open Go.RowKit
section
variable {P : Program} {l : Slots} {L : Blks} {o : Oper} {x y : Operand}
theorem ptrSome_ok {t t' e : TypeId} {ad : Addr} (ho : o.op = .binOp .eql t x y t') (hx : evO l x = some (.pointer (some ad))) (hy : evO l y = some (.pointer none)) (hu : P.underlying t = some (.pointer e)) : RunV P l L o (.bool false) := fun ρ w A _ => by
  have h : ∀ d : Nat, (Op.equalIn (d + 1) t (.pointer (some ad)) (.pointer none)).run P w = .ok false w := fun d => by simp [Op.equalIn, run_underlying hu]
  have h2 := h 9999
  have h3 := A x _ hx
  have h4 := A y _ hy
  simp [execOp, ho, h3, h4, eqGuard, binOp, Op.equal, Op.maxDepth, h2]
end
end Go.Proofs.Ytniplfjnpjihoaa
namespace Go.Proofs.Ytniplfjnpjihoaa
open Go.RowKit
section
variable {P : Program} {ops : Array Oper} {rest : List Oper} {op o : Oper} {a : Act} {w0 w w' : World} {Q : Exit → Act → World → Prop} {n m : Nat} {l : Slots} {L O : Blks} {S : Nat → Prop} {R : List Row} {V F G : Nat → Value} {p : Option Addr}
theorem RowIn.keep (h : RowIn w p m V) (hb : Below w.heap.size w w') : RowIn w' p m V := by
  rcases h with h | ⟨b, off, cs, T, fr, h1, h2, h3⟩
  · exact .inl h
  · exact .inr ⟨b, off, cs, T, fr, h1, (hb.block b (lt_of_block h2)).trans h2, h3⟩
/-- A row in memory that is new since base. -/
def RowNew (base : Nat) (w : World) (p : Option Addr) (n : Nat) (V : Nat → Value) : Prop :=
  n = 0 ∨ ∃ (g : Nat) (cs : Array Value) (T : TypeId) (fr : Nat × Nat), p = some ⟨g, 0, none⟩ ∧ base ≤ g ∧ w.heap[g]? = some (.cells cs T fr) ∧ ∀ j, j < n → cs[j]? = some (V j)
theorem RowNew.row {base : Nat} (h : RowNew base w p n V) : RowIn w p n V := by
  rcases h with h | ⟨g, cs, T, fr, h1, h2, h3, h4⟩
  · exact .inl h
  · exact .inr ⟨g, 0, cs, T, fr, h1, h3, fun j hj => by rw [Nat.zero_add]; exact h4 j hj⟩
theorem MemS.addFresh {g : Nat} {ob : Obj} (M : MemS S w0 w L R) (M' : MemS S w0 w' L R) (hb : w'.heap[g]? = some ob) (hg : w.heap.size ≤ g) : MemS S w0 w' ((g, ob) :: L) R :=
  M'.addBlk hb (fun x hx => by have := lt_of_block (Has.mem M.hasL hx); omega) (fun hs => by have := M.old g hs; have := M.size; omega) (fun r hr g' hg' => by have := (ownsRow_lt (M.rows r hr) hg').2; omega)
end
end Go.Proofs.Ytniplfjnpjihoaa
namespace Go.Proofs.Ytniplfjnpjihoaa
open Go.RowKit
def topC (k : IntKind) (K : Nat → Prop) : Prop :=
  match k with
  | .u8 => K 256 | .u16 => K 65536 | .u32 => K 4294967296 | .u64 => K 18446744073709551616
  | .i8 => K 128 | .i16 => K 32768 | .i32 => K 2147483648 | .i64 => K 9223372036854775808
theorem topC_ok {k : IntKind} {K : Nat → Prop} (h : topC k K) : K (top k) := by cases k <;> exact h
def lookC (t : Nat) (K : Value → Prop) : Slots → Prop
  | [] => False
  | (t', v) :: r => match Nat.beq t' t with | true => K v | false => lookC t K r
theorem lookC_ok {t : Nat} {K : Value → Prop} : ∀ {l : Slots}, lookC t K l → ∃ v, look t l = some v ∧ K v
  | [], h => h.elim
  | (t', v) :: r, h => by
    unfold lookC at h
    unfold look
    cases e : Nat.beq t' t with
    | true => rw [e] at h; exact ⟨v, rfl, h⟩
    | false => rw [e] at h; exact lookC_ok h
/-- A constant's number, as a natural one. -/
def normV (v : Value) (K : Value → Prop) : Prop := match v with | .int k (.ofNat m) => K (.int k ((@OfNat.ofNat Nat m (instOfNatNat m) : Nat) : Int)) | v => K v
theorem normV_ok {v : Value} {K : Value → Prop} (h : normV v K) : K v := by
  unfold normV at h
  split at h <;> exact h
def evC (l : Slots) (x : Operand) (K : Value → Prop) : Prop :=
  match x with
  | .tmp t => lookC t K l
  | .const v => normV v K
  | .func f => K (.func (.func f) #[] #[])
  | .global g => K (.pointer (some ⟨g, 0, none⟩))
theorem evC_ok {l : Slots} {x : Operand} {K : Value → Prop} (h : evC l x K) : ∃ v, evO l x = some v ∧ K v := by
  cases x with
  | tmp t => exact lookC_ok h
  | const v => exact ⟨v, rfl, normV_ok h⟩
  | func f => exact ⟨_, rfl, h⟩
  | global g => exact ⟨_, rfl, h⟩
def evAllC (l : Slots) : List Operand → (List Value → Prop) → Prop
  | [], K => K []
  | x :: r, K => evC l x fun v => evAllC l r fun vs => K (v :: vs)
theorem evAllC_ok {l : Slots} : ∀ {xs : List Operand} {K : List Value → Prop}, evAllC l xs K → ∃ vs, evAll l xs = some vs ∧ K vs
  | [], _, h => ⟨[], rfl, h⟩
  | x :: r, K, h => by
    obtain ⟨v, h1, h2⟩ := evC_ok h
    obtain ⟨vs, h3, h4⟩ := evAllC_ok h2
    exact ⟨v :: vs, by simp [evAll, h1, h3], h4⟩
def evPartsC (l : Slots) : List (Nat × Operand) → (List (Nat × Value) → Prop) → Prop
  | [], K => K []
  | (i, x) :: r, K => evC l x fun v => evPartsC l r fun vs => K ((i, v) :: vs)
theorem evPartsC_ok {l : Slots} : ∀ {xs : List (Nat × Operand)} {K : List (Nat × Value) → Prop}, evPartsC l xs K → ∃ vs, evParts l xs = some vs ∧ K vs
  | [], _, h => ⟨[], rfl, h⟩
  | (i, x) :: r, K, h => by
    obtain ⟨v, h1, h2⟩ := evC_ok h
    obtain ⟨vs, h3, h4⟩ := evPartsC_ok h2
    exact ⟨(i, v) :: vs, by simp [evParts, h1, h3], h4⟩
/-- The block at a place. -/
def atC : Nat → Blks → (Nat → Obj → Prop) → Prop
  | 0, (b, o) :: _, K => K b o
  | i + 1, _ :: r, K => atC i r K
  | _, [], _ => False
theorem atC_ok : ∀ {i : Nat} {L : Blks} {K : Nat → Obj → Prop}, atC i L K → ∃ b o, L[i]? = some (b, o) ∧ K b o
  | 0, (b, o) :: _, _, h => ⟨b, o, rfl, h⟩
  | i + 1, _ :: r, K, h => by
    obtain ⟨b, o, h1, h2⟩ := atC_ok (i := i) (L := r) (K := K) h
    exact ⟨b, o, by simpa using h1, h2⟩
  | 0, [], _, h => h.elim
  | _ + 1, [], _, h => h.elim
def modC (o : Obj) : Nat → Blks → (Blks → Prop) → Prop
  | 0, (b, _) :: r, K => K ((b, o) :: r)
  | i + 1, x :: r, K => modC o i r fun r' => K (x :: r')
  | _, [], K => K []
theorem modC_ok {o : Obj} : ∀ {i : Nat} {L : Blks} {K : Blks → Prop}, modC o i L K → K (modAt o i L)
  | 0, (_, _) :: _, _, h => h
  | i + 1, x :: r, K, h => modC_ok (i := i) (L := r) (K := fun r' => K (x :: r')) h
  | 0, [], _, h => h
  | _ + 1, [], _, h => h
def setC : List (Nat × Obj) → Blks → (Blks → Prop) → Prop
  | [], L, K => K L
  | (i, o) :: r, L, K => setC r L fun L' => modC o i L' K
theorem setC_ok : ∀ {us : List (Nat × Obj)} {L : Blks} {K : Blks → Prop}, setC us L K → K (setAll us L)
  | [], _, _, h => h
  | (i, o) :: r, L, K, h => by
    have h1 := setC_ok (us := r) (L := L) (K := fun L' => modC o i L' K) h
    exact modC_ok h1
def dropC (d : Nat) : Slots → (Slots → Prop) → Prop
  | [], K => K []
  | (t, v) :: r, K => match Nat.beq t d with | true => dropC d r K | false => dropC d r fun r' => K ((t, v) :: r')
theorem dropC_ok {d : Nat} : ∀ {l : Slots} {K : Slots → Prop}, dropC d l K → K (l.filter (fun x => !(Nat.beq x.1 d)))
  | [], _, h => h
  | (t, v) :: r, K, h => by
    unfold dropC at h
    cases e : Nat.beq t d with
    | true => rw [e] at h; rw [List.filter_cons_of_neg (by simp [e])]; exact dropC_ok h
    | false => rw [e] at h; rw [List.filter_cons_of_pos (by simp [e])]; exact dropC_ok (K := fun r' => K ((t, v) :: r')) h
def putC (d : Option Nat) (v : Value) (l : Slots) (K : Slots → Prop) : Prop := match d with | some d => dropC d l fun r => K ((d, v) :: r) | none => K l
theorem putC_ok {d : Option Nat} {v : Value} {l : Slots} {K : Slots → Prop} (h : putC d v l K) : K (putS d v l) := by
  cases d with
  | none => exact h
  | some d => exact dropC_ok (K := fun r => K ((d, v) :: r)) h
/-- A value, on terms. -/
def ToldBy (x : Told) (K : Value → Prop) : Prop := ∃ v cs, x = some (v, cs) ∧ (∀ c ∈ cs, c) ∧ K v
theorem told0 {v : Value} {K : Value → Prop} (h : K v) : ToldBy (some (v, [])) K := ⟨v, [], rfl, (fun _ hx => (by cases hx)), h⟩
theorem told1 {v : Value} {c : Prop} {K : Value → Prop} (h : c ∧ K v) : ToldBy (some (v, [c])) K := ⟨v, _, rfl, fun x hx => by rw [List.mem_singleton.1 hx]; exact h.1, h.2⟩
theorem told2 {v : Value} {c d : Prop} {K : Value → Prop} (h : c ∧ d ∧ K v) : ToldBy (some (v, [c, d])) K := ⟨v, _, rfl, fun x hx => by
  simp only [List.mem_cons, List.not_mem_nil, or_false] at hx
  rcases hx with rfl | rfl
  · exact h.1
  · exact h.2.1, h.2.2⟩
theorem told3 {v : Value} {c d e : Prop} {K : Value → Prop} (h : c ∧ d ∧ e ∧ K v) : ToldBy (some (v, [c, d, e])) K := ⟨v, _, rfl, fun x hx => by
  simp only [List.mem_cons, List.not_mem_nil, or_false] at hx
  rcases hx with rfl | rfl | rfl
  · exact h.1
  · exact h.2.1
  · exact h.2.2.1, h.2.2.2⟩
def cCmp (way : Nat) (p : Prop) [Decidable p] (K : Value → Prop) : Prop :=
  match way with
  | 2 => p ∧ K (.bool true)
  | 3 => ¬ p ∧ K (.bool false)
  | _ => K (.bool (decide p))
theorem cCmp_ok {way : Nat} {p : Prop} [Decidable p] {K : Value → Prop} (h : cCmp way p K) : ToldBy (aCmp way p) K := by
  unfold cCmp at h
  unfold aCmp
  split at h
  · exact told1 h
  · exact told1 h
  · rename_i h2 h3
    split
    · exact (h2 rfl).elim
    · exact (h3 rfl).elim
    · exact told0 h
def cNat (way : Nat) (op : BinOp) (k : IntKind) (m n : Nat) (K : Value → Prop) : Prop :=
  match op with
  | .add => match way, unsg k with | 0, true => topC k fun t => K (.int k ((m + n) % t : Nat)) | _, _ => topC k fun t => m + n < t ∧ K (.int k (m + n : Nat))
  | .sub => match way, unsg k with | 0, true => topC k fun t => n ≤ t ∧ K (.int k ((m + (t - n)) % t : Nat)) | _, _ => topC k fun t => n ≤ m ∧ m - n < t ∧ K (.int k (m - n : Nat))
  | .mul => match way, unsg k with | 0, true => topC k fun t => K (.int k ((m * n) % t : Nat)) | _, _ => topC k fun t => m * n < t ∧ K (.int k (m * n : Nat))
  | .quo => topC k fun t => n ≠ 0 ∧ m / n < t ∧ K (.int k (m / n : Nat))
  | .rem => n ≠ 0 ∧ K (.int k (m % n : Nat))
  | .and => topC k fun t => m < t ∧ n < t ∧ K (.int k (m &&& n : Nat))
  | .or => topC k fun t => m < t ∧ n < t ∧ K (.int k (m ||| n : Nat))
  | .xor => topC k fun t => m < t ∧ n < t ∧ K (.int k (m ^^^ n : Nat))
  | .eql => cCmp way (m = n) K
  | .neq => cCmp way (m ≠ n) K
  | .lss => cCmp way (m < n) K
  | .leq => cCmp way (m ≤ n) K
  | .gtr => cCmp way (m > n) K
  | .geq => cCmp way (m ≥ n) K
  | _ => False
theorem cNat_ok {way : Nat} {op : BinOp} {k : IntKind} {m n : Nat} {K : Value → Prop} (h : cNat way op k m n K) : ToldBy (aNat way op k m n) K := by
  cases op <;> simp only [cNat] at h <;> simp only [aNat] <;> first | exact h.elim | exact cCmp_ok h | skip
  case add =>
    split at h
    · rename_i e
      rw [e]
      exact told0 (topC_ok h)
    · rename_i h1
      split
      · exact (h1 rfl (by assumption)).elim
      · exact told1 (topC_ok h)
  case sub =>
    split at h
    · rename_i e
      rw [e]
      exact told1 (topC_ok h)
    · rename_i h1
      split
      · exact (h1 rfl (by assumption)).elim
      · exact told2 (topC_ok h)
  case mul =>
    split at h
    · rename_i e
      rw [e]
      exact told0 (topC_ok h)
    · rename_i h1
      split
      · exact (h1 rfl (by assumption)).elim
      · exact told1 (topC_ok h)
  case quo => exact told2 (topC_ok h)
  case rem => exact told1 h
  case and => exact told2 (topC_ok h)
  case or => exact told2 (topC_ok h)
  case xor => exact told2 (topC_ok h)
def cInt (way : Nat) (op : BinOp) (k : IntKind) (x y : Int) (K : Value → Prop) : Prop :=
  match op with
  | .add => match unsg k with | false => topC k fun t => -(t : Int) ≤ x + y ∧ x + y < (t : Nat) ∧ K (.int k (x + y)) | true => False
  | .sub => match unsg k with | false => topC k fun t => -(t : Int) ≤ x - y ∧ x - y < (t : Nat) ∧ K (.int k (x - y)) | true => False
  | .mul => match unsg k with | false => topC k fun t => -(t : Int) ≤ x * y ∧ x * y < (t : Nat) ∧ K (.int k (x * y)) | true => False
  | .eql => cCmp (way - 4) (x = y) K
  | .neq => cCmp (way - 4) (x ≠ y) K
  | .lss => cCmp (way - 4) (x < y) K
  | .leq => cCmp (way - 4) (x ≤ y) K
  | .gtr => cCmp (way - 4) (x > y) K
  | .geq => cCmp (way - 4) (x ≥ y) K
  | _ => False
theorem cInt_ok {way : Nat} {op : BinOp} {k : IntKind} {x y : Int} {K : Value → Prop} (h : cInt way op k x y K) : ToldBy (aInt way op k x y) K := by
  cases op <;> simp only [cInt] at h <;> simp only [aInt] <;> first | exact h.elim | exact cCmp_ok h | skip
  all_goals
    split at h
    · rename_i e
      rw [e]
      have h1 := topC_ok h
      exact told2 h1
    · exact h.elim
def cRest (way : Nat) (op : BinOp) (k k' : IntKind) (x y : Int) (K : Value → Prop) : Prop :=
  match decide (k = k'), Nat.ble 4 way with
  | false, _ => False
  | true, true => cInt way op k x y K
  | true, false => match x, y with
    | .ofNat m, .ofNat n => cNat way op k m n K
    | _, _ => False
def aRest (way : Nat) (op : BinOp) (k k' : IntKind) (x y : Int) : Told :=
  match decide (k = k'), Nat.ble 4 way with
  | false, _ => none
  | true, true => aInt way op k x y
  | true, false => match x, y with
    | .ofNat m, .ofNat n => aNat way op k m n
    | _, _ => none
theorem cRest_ok {way : Nat} {op : BinOp} {k k' : IntKind} {x y : Int} {K : Value → Prop} (h : cRest way op k k' x y K) : ToldBy (aRest way op k k' x y) K := by
  unfold cRest at h
  unfold aRest
  cases e1 : decide (k = k') <;> cases e2 : Nat.ble 4 way <;> rw [e1, e2] at h <;> dsimp only at h ⊢
  · cases x <;> cases y <;> first | exact cNat_ok h | exact h.elim
  · exact cInt_ok h
def cBin (way : Nat) (op : BinOp) (x y : Value) (K : Value → Prop) : Prop :=
  match x, y with
  | .int k x, .int k' y =>
    match op, x, y with
    | .shl, .ofNat m, .ofNat n => match unsg k with | true => topC k fun t => K (.int k (m * 2 ^ n % t : Nat)) | false => topC k fun t => m * 2 ^ n < t ∧ n ≤ k.bits ∧ K (.int k (m * 2 ^ n : Nat))
    | .shr, .ofNat m, .ofNat n => n ≤ k.bits ∧ K (.int k (m / 2 ^ n : Nat))
    | .shl, _, _ | .shr, _, _ => False
    | op, x, y => cRest way op k k' x y K
  | .string s, .string u =>
    match op with
    | .add => s.size + u.size ≤ 9223372036854775807 ∧ K (.string (s ++ u))
    | .eql => cCmp way (s = u) K
    | .neq => cCmp way (s ≠ u) K
    | _ => False
  | _, _ => False
theorem cBin_ok {way : Nat} {op : BinOp} {x y : Value} {K : Value → Prop} (h : cBin way op x y K) : ToldBy (aBin way op x y) K := by
  unfold cBin at h
  unfold aBin
  split at h
  · rename_i k x k' y
    cases op <;> first | exact cRest_ok h | skip
    case shl =>
      cases x <;> cases y <;> first | exact h.elim | skip
      dsimp only at h ⊢
      split at h
      · rename_i e
        rw [e]
        have h1 := topC_ok h
        exact told0 h1
      · rename_i e
        rw [e]
        have h1 := topC_ok h
        exact told2 h1
    case shr =>
      cases x <;> cases y <;> first | exact h.elim | skip
      exact told1 h
  · dsimp only
    split at h
    · exact told1 h
    · exact cCmp_ok h
    · exact cCmp_ok h
    · exact h.elim
  · exact h.elim
def cUn (op : UnOp) (x : Value) (K : Value → Prop) : Prop :=
  match op, x with
  | .neg, .int k (.ofNat m) => match unsg k with | true => topC k fun t => m ≤ t ∧ K (.int k ((t - m) % t : Nat)) | false => topC k fun t => m < t ∧ K (.int k (-(m : Int)))
  | .not, .bool b => match b with | true => K (.bool false) | false => K (.bool true)
  | _, _ => False
theorem cUn_ok {op : UnOp} {x : Value} {K : Value → Prop} (h : cUn op x K) : ToldBy (aUn op x) K := by
  unfold cUn at h
  unfold aUn
  split at h
  · dsimp only
    split at h
    · rename_i e
      rw [e]
      have h1 := topC_ok h
      exact told1 h1
    · rename_i e
      rw [e]
      have h1 := topC_ok h
      exact told1 h1
  · split at h <;> exact told0 h
  · exact h.elim
/-- What an operation comes to, on terms. -/
def Fits (r : Res) (kv : Value → Prop) (kn : Obj → (Nat → Value) → Prop) (ku : Value → List (Nat × Obj) → Prop) : Prop :=
  (r.new = none ∧ r.ups = [] ∧ kv (r.val 0)) ∨ (∃ ob, r.new = some ob ∧ r.ups = [] ∧ kn ob r.val) ∨ (r.new = none ∧ ku (r.val 0) r.ups)
def ResBy (x : Option (Res × List Prop)) (kv : Value → Prop) (kn : Obj → (Nat → Value) → Prop) (ku : Value → List (Nat × Obj) → Prop) : Prop :=
  ∃ r cs, x = some (r, cs) ∧ (∀ c ∈ cs, c) ∧ Fits r kv kn ku
section
variable {kv : Value → Prop} {kn : Obj → (Nat → Value) → Prop} {ku : Value → List (Nat × Obj) → Prop}
theorem res_v {v : Value} {cs : List Prop} (h : allC cs (kv v)) : ResBy (some (rv v, cs)) kv kn ku := by
  obtain ⟨h1, h2⟩ := allC_iff.1 h
  exact ⟨rv v, cs, rfl, h1, .inl ⟨rfl, rfl, h2⟩⟩
theorem res_u {v : Value} {us : List (Nat × Obj)} {cs : List Prop} (h : allC cs (ku v us)) : ResBy (some (⟨fun _ => v, none, us⟩, cs)) kv kn ku := by
  obtain ⟨h1, h2⟩ := allC_iff.1 h
  exact ⟨_, cs, rfl, h1, .inr (.inr ⟨rfl, h2⟩)⟩
theorem res_n {ob : Obj} {mk : Nat → Value} {cs : List Prop} (h : allC cs (kn ob mk)) : ResBy (some (⟨mk, some ob, []⟩, cs)) kv kn ku := by
  obtain ⟨h1, h2⟩ := allC_iff.1 h
  exact ⟨_, cs, rfl, h1, .inr (.inl ⟨ob, rfl, rfl, h2⟩)⟩
/-- Told in another spelling. -/
def tellC (vs : List Value) (v : Value) (K : Value → Prop) : Prop := match vs with | [] => K v | v' :: _ => v = v' ∧ K v'
theorem tellC_ok {vs : List Value} {x : Told} (h : ToldBy x fun v => tellC vs v kv) : ResBy (tell vs x) kv kn ku := by
  obtain ⟨v, cs, rfl, h1, h2⟩ := h
  cases vs with
  | nil => exact res_v (allC_iff.2 ⟨h1, h2⟩)
  | cons v' r =>
    refine res_v (allC_iff.2 ⟨fun c hc => ?_, h2.2⟩)
    rcases List.mem_append.1 hc with h | h
    · exact h1 c h
    · rw [List.mem_singleton.1 h]; exact h2.1
end
end Go.Proofs.Ytniplfjnpjihoaa
namespace Go.Proofs.Ytniplfjnpjihoaa
open Go.RowKit
section
variable {P : Program} {l : Slots} {L : Blks} {kv : Value → Prop} {kn : Obj → (Nat → Value) → Prop} {ku : Value → List (Nat × Obj) → Prop}
/-- A type's size. -/
def szC (P : Program) (t : TypeId) (K : Nat → Prop) : Prop := match P.info? t with | some ⟨_, _, s, _, _, _, _, _, _, _⟩ => K s | none => False
theorem szC_ok {t : TypeId} {K : Nat → Prop} (h : szC P t K) : ∃ s, szOf P t = some s ∧ P.cellsOf t = s ∧ K s := by
  unfold szC at h
  split at h
  · rename_i e
    exact ⟨_, by rw [szOf, e]; rfl, by rw [Program.cellsOf, e]; rfl, h⟩
  · exact h.elim
def mulC (i s : Nat) (K : Nat → Prop) : Prop := match s with | 1 => K i | s => K (i * s)
theorem mulC_ok {i s : Nat} {K : Nat → Prop} (h : mulC i s K) : K (mulSz i s) := by
  unfold mulC at h
  unfold mulSz
  split at h
  · exact h
  · split
    · rename_i h1; exact (h1 rfl).elim
    · exact h
def addC (way off i : Nat) (K : Nat → Prop) : Prop := match way, off with | 1, 0 => K i | _, off => K (off + i)
theorem addC_ok {way off i : Nat} {K : Nat → Prop} (h : addC way off i K) : K (addOff way off i) := by
  rw [addOff_eq]
  unfold addC at h
  split at h
  · rw [Nat.zero_add]; exact h
  · exact h
def natAtC (l : Slots) (x : Option Operand) (K : Option Nat → Prop) : Prop := match x with | none => K none | some x => evC l x fun v => match v with | .int .i64 (.ofNat n) => K (some n) | _ => False
theorem natAtC_ok {x : Option Operand} {K : Option Nat → Prop} (h : natAtC l x K) : ∃ n, natAt l x = some n ∧ K n := by
  cases x with
  | none => exact ⟨none, rfl, h⟩
  | some x =>
    obtain ⟨v, h1, h2⟩ := evC_ok h
    split at h2
    · rename_i n
      exact ⟨some n, by simp [natAt, h1], h2⟩
    · exact h2.elim
def orC (x : Option Nat) (d : Nat) (K : Nat → Prop) : Prop := match x with | some n => K n | none => K d
theorem orC_ok {x : Option Nat} {d : Nat} {K : Nat → Prop} (h : orC x d K) : K (x.getD d) := by cases x <;> exact h
def subC (x : Option Nat) (a : Nat) (K : Nat → Prop) : Prop := match x with | some n => K (a - n) | none => K a
theorem subC_ok {x : Option Nat} {a : Nat} {K : Nat → Prop} (h : subC x a K) : K (a - x.getD 0) := by cases x <;> exact h
def cSlice (P : Program) (way : Nat) (t : TypeId) (x : Value) (lo hi : Option Nat) (K : Value → Prop) : Prop :=
  match P.underlying t, x with
  | some (.array n e), .pointer (some ⟨b, off, none⟩) => orC lo 0 fun a => orC hi n fun z => szC P e fun s => mulC a s fun m => subC lo z fun u => subC lo n fun c =>
    match way, off with
    | 2, 0 => a ≤ z ∧ z ≤ n ∧ a < n ∧ K (.slice (some ⟨b, m, none⟩) u c)
    | _, off => a ≤ z ∧ z ≤ n ∧ a < n ∧ K (.slice (some ⟨b, off + m, none⟩) u c)
  | some (.slice e), .slice (some ⟨b, off, none⟩) len cap => orC lo 0 fun a => orC hi len fun z => orC hi 0 fun z0 => szC P e fun s => mulC a s fun m => subC lo z fun u => subC lo cap fun c =>
    match way with
    | 1 => a ≤ z ∧ z0 ≤ cap ∧ a = cap ∧ K (.slice (some ⟨b, off, none⟩) u c)
    | _ => a ≤ z ∧ z0 ≤ cap ∧ a < cap ∧ K (.slice (some ⟨b, off + m, none⟩) u c)
  | some .string, .string s => orC lo 0 fun a => orC hi s.size fun z => orC hi 0 fun z0 => a ≤ z ∧ z0 ≤ s.size ∧ K (.string (s.extract a z))
  | _, _ => False
theorem cSlice_ok {way : Nat} {t : TypeId} {x : Value} {lo hi : Option Nat} {K : Value → Prop} (h : cSlice P way t x lo hi K) : ToldBy (aSlice P way t x lo hi) K := by
  unfold cSlice at h
  unfold aSlice
  split at h
  · rename_i hu
    rw [hu]
    dsimp only
    obtain ⟨s, h1, _, h⟩ := szC_ok (orC_ok (orC_ok h))
    have h := subC_ok (subC_ok (mulC_ok h))
    rw [h1]
    split at h
    · exact told3 h
    · split
      · simp_all
      · simp only [Option.some.injEq] at *
        subst_vars
        exact told3 (by assumption)
      · simp_all
  · rename_i hu
    rw [hu]
    dsimp only
    obtain ⟨s, h1, _, h⟩ := szC_ok (orC_ok (orC_ok (orC_ok h)))
    have h := subC_ok (subC_ok (mulC_ok h))
    rw [h1]
    split at h
    · exact told3 h
    · split
      · simp_all
      · simp only [Option.some.injEq] at *
        subst_vars
        exact told3 (by assumption)
      · simp_all
  · rename_i hu
    rw [hu]
    have h := orC_ok (orC_ok (orC_ok h))
    exact told2 h
  · exact h.elim
def cIdxAddr (P : Program) (way : Nat) (t : TypeId) (x : Value) (i : Nat) (K : Value → Prop) : Prop :=
  match P.underlying t, x with
  | some (.array n e), .pointer (some ⟨b, off, none⟩) => szC P e fun s => mulC i s fun m => addC way off m fun o => i < n ∧ K (.pointer (some ⟨b, o, none⟩))
  | some (.slice e), .slice (some ⟨b, off, none⟩) len _ => szC P e fun s => mulC i s fun m => addC way off m fun o => i < len ∧ K (.pointer (some ⟨b, o, none⟩))
  | _, _ => False
theorem cIdxAddr_ok {way : Nat} {t : TypeId} {x : Value} {i : Nat} {K : Value → Prop} (h : cIdxAddr P way t x i K) : ToldBy (aIdxAddr P way t x i) K := by
  unfold cIdxAddr at h
  unfold aIdxAddr
  split at h
  · rename_i hu
    rw [hu]
    dsimp only
    obtain ⟨s, h1, _, h⟩ := szC_ok h
    have h := addC_ok (mulC_ok h)
    rw [h1]
    exact told1 h
  · rename_i hu
    rw [hu]
    dsimp only
    obtain ⟨s, h1, _, h⟩ := szC_ok h
    have h := addC_ok (mulC_ok h)
    rw [h1]
    exact told1 h
  · exact h.elim
def nthC {α : Type} : Nat → List α → (α → Prop) → Prop
  | 0, x :: _, K => K x
  | i + 1, _ :: r, K => nthC i r K
  | _, [], _ => False
theorem nthC_ok {α : Type} : ∀ {i : Nat} {xs : List α} {K : α → Prop}, nthC i xs K → ∃ x, xs[i]? = some x ∧ K x
  | 0, x :: _, _, h => ⟨x, rfl, h⟩
  | i + 1, _ :: r, K, h => by
    obtain ⟨x, h1, h2⟩ := nthC_ok (i := i) (xs := r) (K := K) h
    exact ⟨x, by simpa using h1, h2⟩
  | 0, [], _, h => h.elim
  | _ + 1, [], _, h => h.elim
def cField (P : Program) (s : TypeId) (x : Value) (f : Nat) (K : Value → Prop) : Prop :=
  match P.underlying s, x with
  | some (.struct fs), .pointer (some ⟨b, off, none⟩) => nthC f fs.toList fun g => match g with
    | ⟨_, t, o, _, _, _, _⟩ => szC P t fun z => match z with | _ + 1 => K (.pointer (some ⟨b, off + o, none⟩)) | 0 => False
  | _, _ => False
theorem cField_ok {s : TypeId} {x : Value} {f : Nat} {K : Value → Prop} (h : cField P s x f K) : ToldBy (aField P s x f) K := by
  unfold cField at h
  unfold aField
  split at h
  · rename_i hu
    rw [hu]
    dsimp only
    obtain ⟨g, h1, h⟩ := nthC_ok h
    obtain ⟨z, h2, _, h⟩ := szC_ok h
    rw [Array.getElem?_toList] at h1
    rw [h1]
    dsimp only
    rw [h2]
    cases z with
    | zero => exact h.elim
    | succ z => exact told0 h
  · exact h.elim
def cLen (P : Program) (t : TypeId) (x : Value) (K : Value → Prop) : Prop :=
  match P.underlying t, x with
  | some .string, .string s => K (.int .i64 (s.size : Nat))
  | some (.slice _), .slice _ n _ => K (.int .i64 (n : Nat))
  | _, _ => False
theorem cLen_ok {t : TypeId} {x : Value} {K : Value → Prop} (h : cLen P t x K) : ToldBy (aLen P t x) K := by
  unfold cLen at h
  unfold aLen
  split at h
  · rename_i hu
    rw [hu]
    exact told0 h
  · rename_i hu
    rw [hu]
    exact told0 h
  · exact h.elim
def cConv (P : Program) (L : Blks) (way i : Nat) (vs : List Value) (src dst : TypeId) (x : Value) (K : Value → Prop) : Prop :=
  match P.underlying src, P.underlying dst, x with
  | some _, some (.int k), .int _ (.ofNat m) => match way, unsg k with | 0, true => topC k fun t => tellC vs (.int k (m % t : Nat)) K | _, _ => topC k fun t => m < t ∧ tellC vs (.int k (m : Nat)) K
  | some _, some .string, .string s => tellC vs (.string s) K
  | some (.slice e), some .string, .slice (some ⟨b, off, none⟩) len _ =>
    match P.underlying e, vs with
    | some (.int .u8), .string s :: _ => atC i L fun b' o => match o with | .cells cs _ _ => b' = b ∧ StrAt cs off len s ∧ K (.string s) | _ => False
    | _, _ => False
  | _, _, _ => False
theorem cConv_ok {us : List (Nat × Obj)} {way i : Nat} {vs : List Value} {src dst : TypeId} {x : Value} (h : cConv P L way i vs src dst x kv) : ResBy (aConv P L (way, i, vs, us) src dst x) kv kn ku := by
  unfold cConv at h
  unfold aConv
  split at h
  · rename_i q k kk m e1 e2
    rw [e1, e2]
    dsimp only
    split at h
    · rename_i e
      rw [e]
      have h1 := topC_ok h
      exact tellC_ok (told0 h1)
    · rename_i h1
      have h2 := topC_ok h
      split
      · rename_i e; exact (h1 rfl e).elim
      · exact tellC_ok (told1 h2)
  · rename_i e1 e2
    rw [e1, e2]
    exact tellC_ok (told0 h)
  · rename_i e b off len c e1 e2
    rw [e1, e2]
    dsimp only
    split at h
    · rename_i e3
      rw [e3]
      obtain ⟨b', o, h1, h⟩ := atC_ok h
      cases o with
      | cells cs T fr =>
        rw [h1]
        exact res_v (cs := [_, _]) h
      | _ => exact h.elim
    · exact h.elim
  · exact h.elim
end
end Go.Proofs.Ytniplfjnpjihoaa
namespace Go.Proofs.Ytniplfjnpjihoaa
open Go.RowKit
section
variable {P : Program} {l : Slots} {L : Blks} {kv : Value → Prop} {kn : Obj → (Nat → Value) → Prop} {ku : Value → List (Nat × Obj) → Prop}
def cIdx (P : Program) (vs : List Value) (t : TypeId) (x : Value) (i : Nat) (K : Value → Prop) : Prop :=
  match P.underlying t, x, vs with
  | some .string, .string s, .int .u8 (.ofNat v) :: _ => i < s.size ∧ (nl s).getD i 0 = v ∧ K (.int .u8 (v : Nat))
  | some (.array n e), .agg cs, v :: _ =>
    match P.underlying e with
    | some d => szC P e fun s => match s, d.isRow with | 1, false => i < n ∧ cs[i]? = some v ∧ K v | _, _ => False
    | none => False
  | _, _, _ => False
theorem cIdx_ok {way j : Nat} {us : List (Nat × Obj)} {vs : List Value} {t : TypeId} {x : Value} {i : Nat} (h : cIdx P vs t x i kv) : ResBy (aIdx P (way, j, vs, us) t x i) kv kn ku := by
  unfold cIdx at h
  unfold aIdx
  split at h
  · rename_i hu
    rw [hu]
    exact res_v (cs := [_, _]) h
  · rename_i hu
    rw [hu]
    dsimp only
    split at h
    · rename_i d he
      obtain ⟨s, h1, hcz, h⟩ := szC_ok h
      split at h
      · rename_i hd
        simp only [he, h1, hd]
        exact res_v (cs := [_, _]) h
      · exact h.elim
    · exact h.elim
  · exact h.elim
def cLoad (P : Program) (L : Blks) (j : Nat) (vs : List Value) (t : TypeId) (p : Value) (K : Value → Prop) : Prop :=
  match p with
  | .pointer (some ⟨b, off, none⟩) => atC j L fun b' o => match o with
    | .cells cs _ _ => match P.underlying t with
      | some d => match d.isRow, vs with
        | true, [] => (match off with | 0 => szC P t fun s => b' = b ∧ cs.size = s ∧ K (.agg cs) | _ => False)
        | true, .agg ps :: _ => szC P t fun s => b' = b ∧ PartAt cs off ps ∧ ps.size = s ∧ K (.agg ps)
        | false, v :: _ => b' = b ∧ cs[off]? = some v ∧ K v
        | _, _ => False
      | none => False
    | _ => False
  | _ => False
theorem cLoad_ok {way j : Nat} {us : List (Nat × Obj)} {vs : List Value} {t : TypeId} {p : Value} (h : cLoad P L j vs t p kv) : ResBy (aLoad P L (way, j, vs, us) t p) kv kn ku := by
  unfold cLoad at h
  unfold aLoad
  split at h
  · obtain ⟨b', o, h1, h⟩ := atC_ok h
    split at h
    · split at h
      · rename_i d hu
        rw [show L[(way, j, vs, us).2.1]? = _ from h1, hu]
        dsimp only
        cases hd : d.isRow with
        | true =>
          rw [hd] at h
          cases vs with
          | nil =>
            dsimp only at h ⊢
            split at h
            · obtain ⟨s, _, h2, h⟩ := szC_ok h
              refine res_v (cs := [_, _]) ?_
              rw [h2]
              exact h
            · exact h.elim
          | cons v r =>
            cases v with
            | agg ps =>
              obtain ⟨s, _, h2, h⟩ := szC_ok h
              refine res_v (cs := [_, _, _]) ?_
              rw [h2]
              exact h
            | _ => exact h.elim
        | false =>
          rw [hd] at h
          cases vs with
          | nil => exact h.elim
          | cons v r => exact res_v (cs := [_, _]) h
      · exact h.elim
    · exact h.elim
  · exact h.elim
def cStore (P : Program) (L : Blks) (j : Nat) (us : List (Nat × Obj)) (t : TypeId) (p x : Value) (K : Value → List (Nat × Obj) → Prop) : Prop :=
  match p with
  | .pointer (some ⟨b, off, none⟩) => atC j L fun b' o => match o with
    | .cells cs T fr => szC P t fun k => match x, us with
      | .agg vs, [] => (match off with | 0 => b' = b ∧ cs.size = k ∧ vs.size = k ∧ vs.all (·.oneCell') = true ∧ fr.2 = 0 ∧ K undef [(j, .cells vs T fr)] | _ => False)
      | .agg vs, (_, .cells cs' _ _) :: _ => b' = b ∧ off + vs.size ≤ cs.size ∧ vs.size = k ∧ vs.all (·.oneCell') = true ∧ fr.2 = 0 ∧ setFrom cs off vs.toList = cs' ∧ K undef [(j, .cells cs' T fr)]
      | v, us => match v.oneCell', Nat.beq k 1, us with
        | true, true, [] => b' = b ∧ off < cs.size ∧ (fr.2 = 0 ∨ off < fr.1) ∧ K undef [(j, .cells (cs.setIfInBounds off v) T fr)]
        | true, true, (_, .cells cs' _ _) :: _ => b' = b ∧ off < cs.size ∧ (fr.2 = 0 ∨ off < fr.1) ∧ cs.setIfInBounds off v = cs' ∧ K undef [(j, .cells cs' T fr)]
        | _, _, _ => False
    | _ => False
  | _ => False
theorem cStore_ok {way j : Nat} {us : List (Nat × Obj)} {vs : List Value} {t : TypeId} {p x : Value} (h : cStore P L j us t p x ku) : ResBy (aStore P L (way, j, vs, us) t p x) kv kn ku := by
  unfold cStore at h
  unfold aStore
  split at h
  · obtain ⟨b', o, h1, h⟩ := atC_ok h
    split at h
    · obtain ⟨k, h2, _, h⟩ := szC_ok h
      rw [show L[(way, j, vs, us).2.1]? = _ from h1, h2]
      dsimp only
      split at h
      · split at h
        · exact res_u (cs := [_, _, _, _, _]) h
        · exact h.elim
      · exact res_u (cs := [_, _, _, _, _, _]) h
      · rename_i q1 q2
        split
        · exact (q1 _ rfl rfl).elim
        · exact (q2 _ _ _ _ _ _ rfl rfl).elim
        · cases e1 : x.oneCell' with
          | false => rw [e1] at h; exact h.elim
          | true =>
            cases e2 : Nat.beq k 1 with
            | false => rw [e1, e2] at h; exact h.elim
            | true =>
              rw [e1, e2] at h
              cases us with
              | nil => exact res_u (cs := [_, _, _]) h
              | cons u r =>
                obtain ⟨i, o⟩ := u
                cases o with
                | cells c T f => exact res_u (cs := [_, _, _, _]) h
                | _ => exact h.elim
    · exact h.elim
  · exact h.elim
/-- A new block, told in another spelling. -/
def newC (us : List (Nat × Obj)) (ob : Obj) (mk : Nat → Value) (K : Obj → (Nat → Value) → Prop) : Prop := match us with | [] => K ob mk | (_, ob') :: _ => ob = ob' ∧ K ob' mk
theorem newC_ok {us : List (Nat × Obj)} {ob : Obj} {mk : Nat → Value} (h : newC us ob mk kn) : kn ob mk := by
  cases us with
  | nil => exact h
  | cons u r => obtain ⟨i, o⟩ := u; obtain ⟨rfl, h⟩ := h; exact h
def cBuildS (P : Program) (us : List (Nat × Obj)) (t : TypeId) (len : Nat) (parts : List (Nat × Value)) (K : Obj → (Nat → Value) → Prop) : Prop :=
  match us with
  | (_, ob) :: _ => aBuildS P t len parts = some (⟨fun b => .slice (some ⟨b, 0, none⟩) len len, some ob, []⟩, []) ∧ K ob fun b => .slice (some ⟨b, 0, none⟩) len len
  | [] => False
theorem cBuildS_ok {us : List (Nat × Obj)} {t : TypeId} {len : Nat} {parts : List (Nat × Value)} (h : cBuildS P us t len parts kn) : ResBy (aBuildS P t len parts) kv kn ku := by
  unfold cBuildS at h
  split at h
  · rw [h.1]
    exact res_n (cs := []) h.2
  · exact h.elim
def cCall (P : Program) (l : Slots) (L : Blks) (way : Nat) (vs : List Value) (us : List (Nat × Obj)) (c : Call) (kv : Value → Prop) (ku : Value → List (Nat × Obj) → Prop) : Prop :=
  match c.callee with
  | .builtin .len => match c.args.toList, c.argTypes.toList with
    | [x], [t] => evC l x fun v => cLen P t v fun v => tellC vs v kv
    | _, _ => False
  | .value (.func f) => evAllC l c.args.toList fun args => match vs, us with
    | v :: _, [] => (match way with | 0 => CallP P f args [] v ∧ kv v | _ => CallP P f args L v ∧ kv v)
    | v :: _, us => CallU P f args L v us ∧ ku v us
    | _, _ => False
  | _ => False
theorem cCall_ok {way j : Nat} {us : List (Nat × Obj)} {vs : List Value} {c : Call} (h : cCall P l L way vs us c kv ku) : ResBy (aCall P l L (way, j, vs, us) c) kv kn ku := by
  unfold cCall at h
  unfold aCall
  split at h
  · split at h
    · rename_i e _ _ x t e1 e2
      obtain ⟨v, h1, h⟩ := evC_ok h
      rw [e]
      dsimp only
      rw [e1, e2]
      dsimp only
      rw [h1]
      exact tellC_ok (cLen_ok h)
    · exact h.elim
  · rename_i f e
    obtain ⟨args, h1, h⟩ := evAllC_ok h
    rw [e]
    dsimp only
    rw [h1]
    cases vs with
    | nil => exact h.elim
    | cons v r =>
      cases us with
      | nil =>
        dsimp only at h ⊢
        split at h
        · exact res_v (cs := [_]) h
        · split
          · rename_i q; exact (q rfl).elim
          · exact res_v (cs := [_]) h
      | cons u us => exact res_u (cs := [_]) h
  · exact h.elim
theorem cells_one {v : Value} (q : ∀ cs, v = .agg cs → False) : v.cells = #[v] := by cases v <;> first | rfl | exact (q _ rfl).elim
/-- One operation. -/
def cev (P : Program) (l : Slots) (L : Blks) (h : Hint) (o : Oper) (kv : Value → Prop) (kn : Obj → (Nat → Value) → Prop) (ku : Value → List (Nat × Obj) → Prop) : Prop :=
  match h with
  | (7, _, vs, _) => match vs with | v :: _ => RunV P l L o v ∧ kv v | [] => False
  | (8, _, vs, us) => match vs, us with | v :: _, (_, ob) :: _ => RunN P l L o (mkOf v) ob ∧ kn ob (mkOf v) | _, _ => False
  | (9, _, vs, us) => match vs with | v :: _ => RunU P l L o v us ∧ ku v us | [] => False
  | (way, i, vs, us) => match o.op with
    | .move x => evC l x fun v => tellC vs v kv
    | .assign x => evC l x fun v => tellC vs v kv
    | .pick c x y => evC l c fun b => evC l x fun u => evC l y fun v => match b with | .bool true => tellC vs u kv | .bool false => tellC vs v kv | _ => False
    | .alloc t => match P.info? t with | some ⟨_, _, _, _, _, _, _, some z, _, _⟩ => (match z with | .agg cs => newC us (.cells cs t) (fun b => .pointer (some ⟨b, 0, none⟩)) kn | z => newC us (.cells #[z] t) (fun b => .pointer (some ⟨b, 0, none⟩)) kn) | _ => False
    | .box t x => evC l x fun v => match v with | .agg cs => newC us (.cells cs t) (fun b => .pointer (some ⟨b, 0, none⟩)) kn | v => newC us (.cells #[v] t) (fun b => .pointer (some ⟨b, 0, none⟩)) kn
    | .build t ps => evPartsC l ps.toList fun xs => match vs with | .agg cs :: _ => P.built t xs = some cs ∧ kv (.agg cs) | _ => False
    | .buildSlice t len ps => evPartsC l ps.toList fun xs => cBuildS P us t len xs kn
    | .load t x => evC l x fun p => cLoad P L i vs t p kv
    | .store t x y => match o.dst with | none => evC l x fun p => evC l y fun v => cStore P L i us t p v ku | some _ => False
    | .nilCheck x => evC l x fun v => match v with | .pointer (some p) => tellC vs (.pointer (some p)) kv | _ => False
    | .binOp op _ x y _ => evC l x fun u => evC l y fun v => cBin way op u v fun z => tellC vs z kv
    | .unOp op _ x => evC l x fun v => cUn op v fun z => tellC vs z kv
    | .convert src dst x => evC l x fun v => cConv P L way i vs src dst v kv
    | .sliceToArrayPointer t x => match P.underlying t with | some (.array n _) => evC l x fun v => (match v with | .slice p len _ => n ≤ len ∧ tellC vs (.pointer p) kv | _ => False) | _ => False
    | .slice t x lo hi none => evC l x fun v => natAtC l lo fun lo => natAtC l hi fun hi => cSlice P way t v lo hi fun z => tellC vs z kv
    | .fieldAddr s x f => evC l x fun v => cField P s v f fun z => tellC vs z kv
    | .indexAddr t x y => evC l x fun v => evC l y fun i => match i with | .int .i64 (.ofNat i) => cIdxAddr P way t v i fun z => tellC vs z kv | _ => False
    | .index t x y => evC l x fun v => evC l y fun i => match i with | .int .i64 (.ofNat i) => cIdx P vs t v i kv | _ => False
    | .extract x i => evC l x fun v => match v with | .tuple ts => nthC i ts.toList fun v => tellC vs v kv | _ => False
    | .call c => cCall P l L way vs us c kv ku
    | _ => False
theorem cev_ok {h : Hint} {o : Oper} (g : cev P l L h o kv kn ku) : ResBy (aev P l L h o) kv kn ku := by
  unfold cev at g
  unfold aev
  split at g
  · split at g
    · exact res_v (cs := [_]) g
    · exact g.elim
  · split at g
    · exact res_n (cs := [_]) g
    · exact g.elim
  · split at g
    · exact res_u (cs := [_]) g
    · exact g.elim
  · rename_i way i vs us q7 q8 q9
    dsimp only
    split
    · exact (q7 rfl).elim
    · exact (q8 rfl).elim
    · exact (q9 rfl).elim
    · split at g <;> first | exact g.elim | skip
      all_goals rename_i e; rw [e]; dsimp only
      · obtain ⟨v, h1, g⟩ := evC_ok g
        rw [h1]; exact tellC_ok (told0 g)
      · obtain ⟨v, h1, g⟩ := evC_ok g
        rw [h1]; exact tellC_ok (told0 g)
      · obtain ⟨b, h1, g⟩ := evC_ok g
        obtain ⟨u, h2, g⟩ := evC_ok g
        obtain ⟨v, h3, g⟩ := evC_ok g
        rw [h1, h2, h3]
        split at g
        · exact tellC_ok (told0 g)
        · exact tellC_ok (told0 g)
        · exact g.elim
      · split at g
        · rename_i e2
          rw [e2]
          dsimp only
          split at g
          · exact res_n (cs := []) (newC_ok g)
          · rename_i q
            unfold rp
            rw [cells_one q]
            exact res_n (cs := []) (newC_ok g)
        · exact g.elim
      · obtain ⟨v, h1, g⟩ := evC_ok g
        rw [h1]
        dsimp only
        split at g
        · exact res_n (cs := []) (newC_ok g)
        · rename_i q
          unfold rp
          rw [cells_one q]
          exact res_n (cs := []) (newC_ok g)
      · obtain ⟨xs, h1, g⟩ := evPartsC_ok g
        rw [h1]
        dsimp only
        split at g
        · unfold aBuild
          rw [g.1]
          exact tellC_ok (told0 ⟨rfl, g.2⟩)
        · exact g.elim
      · obtain ⟨xs, h1, g⟩ := evPartsC_ok g
        rw [h1]
        exact cBuildS_ok g
      · obtain ⟨p, h1, g⟩ := evC_ok g
        rw [h1]
        exact cLoad_ok g
      · split at g
        · rename_i hd
          obtain ⟨p, h1, g⟩ := evC_ok g
          obtain ⟨v, h2, g⟩ := evC_ok g
          rw [hd, h1, h2]
          exact cStore_ok g
        · exact g.elim
      · obtain ⟨v, h1, g⟩ := evC_ok g
        rw [h1]
        split at g
        · exact tellC_ok (told0 g)
        · exact g.elim
      · obtain ⟨u, h1, g⟩ := evC_ok g
        obtain ⟨v, h2, g⟩ := evC_ok g
        rw [h1, h2]
        exact tellC_ok (cBin_ok g)
      · obtain ⟨v, h1, g⟩ := evC_ok g
        rw [h1]
        exact tellC_ok (cUn_ok g)
      · obtain ⟨v, h1, g⟩ := evC_ok g
        rw [h1]
        exact cConv_ok g
      · split at g
        · rename_i e2
          obtain ⟨v, h1, g⟩ := evC_ok g
          rw [e2, h1]
          split at g
          · exact tellC_ok (told1 g)
          · exact g.elim
        · exact g.elim
      · obtain ⟨v, h1, g⟩ := evC_ok g
        obtain ⟨lo, h2, g⟩ := natAtC_ok g
        obtain ⟨hi, h3, g⟩ := natAtC_ok g
        rw [h1, h2, h3]
        exact tellC_ok (cSlice_ok g)
      · obtain ⟨v, h1, g⟩ := evC_ok g
        rw [h1]
        exact tellC_ok (cField_ok g)
      · obtain ⟨v, h1, g⟩ := evC_ok g
        obtain ⟨i, h2, g⟩ := evC_ok g
        rw [h1, h2]
        split at g
        · exact tellC_ok (cIdxAddr_ok g)
        · exact g.elim
      · obtain ⟨v, h1, g⟩ := evC_ok g
        obtain ⟨i, h2, g⟩ := evC_ok g
        rw [h1, h2]
        split at g
        · exact cIdx_ok g
        · exact g.elim
      · obtain ⟨v, h1, g⟩ := evC_ok g
        rw [h1]
        split at g
        · obtain ⟨u, h2, g⟩ := nthC_ok g
          dsimp only
          rw [h2]
          exact tellC_ok (told0 g)
        · exact g.elim
      · exact cCall_ok g
end
/-- Is it wanted? -/
def wantC (ops : List Oper) (l : Slots) (o : Oper) (K : Bool → Prop) : Prop :=
  match o.guard with
  | none => K true
  | some (j, bv) => nthC j ops fun q => match q.dst with
    | some d => lookC d (fun v => match v with
      | .bool true => (match bv with | true => K true | false => K false)
      | .bool false => (match bv with | true => K false | false => K true)
      | .tuple _ => K false
      | _ => False) l
    | none => False
theorem wantC_ok {ops : List Oper} {l : Slots} {o : Oper} {K : Bool → Prop} (h : wantC ops l o K) : ∃ c, wantOf ops l o = some c ∧ K c := by
  unfold wantC at h
  unfold wantOf
  split at h
  · rename_i e
    rw [e]
    exact ⟨true, rfl, h⟩
  · rename_i j bv e
    rw [e]
    obtain ⟨q, h1, h⟩ := nthC_ok h
    split at h
    · rename_i d hd
      obtain ⟨v, h2, h⟩ := lookC_ok h
      have h3 : (ops[j]?).bind (·.dst) = some d := by rw [h1]; exact hd
      dsimp only
      rw [h3]
      dsimp only
      rw [h2]
      split at h
      · cases bv <;> exact ⟨_, rfl, h⟩
      · cases bv <;> exact ⟨_, rfl, h⟩
      · exact ⟨_, rfl, h⟩
      · exact h.elim
    · exact h.elim
/-- Which slots are kept: those below m that are not among ds, and xs. -/
def kpB (m : Nat) (xs ds : List Nat) (t : Nat) : Bool := match Nat.blt t m, memB t ds with | true, false => true | _, _ => memB t xs
def kpC (m : Nat) (xs ds : List Nat) : Slots → (Slots → Prop) → Prop
  | [], K => K []
  | (t, v) :: r, K => match kpB m xs ds t with | true => kpC m xs ds r fun r' => K ((t, v) :: r') | false => kpC m xs ds r K
theorem kpC_ok {m : Nat} {xs ds : List Nat} : ∀ {l : Slots} {K : Slots → Prop}, kpC m xs ds l K → K (l.filter (fun x => kpB m xs ds x.1))
  | [], _, h => h
  | (t, v) :: r, K, h => by
    unfold kpC at h
    cases e : kpB m xs ds t with
    | true => rw [e] at h; rw [List.filter_cons_of_pos (by simp [e])]; exact kpC_ok (K := fun r' => K ((t, v) :: r')) h
    | false => rw [e] at h; rw [List.filter_cons_of_neg (by simp [e])]; exact kpC_ok h
/-- A row of operations; a hint stands behind the number of those that want none. -/
def cwp (P : Program) (ops : List Oper) (m : Nat) (xs ds : List Nat) (K : Slots → Blks → Prop) : List Oper → List (Nat × Hint) → Slots → Blks → Prop
  | [], _, l, L => kpC m xs ds l fun l' => K l' L
  | o :: rest, hs, l, L =>
    let go := fun (h : Hint) (hs' : List (Nat × Hint)) => wantC ops l o fun c => match c with
      | true => cev P l L h o (fun v => putC o.dst v l fun l' => cwp P ops m xs ds K rest hs' l' L)
        (fun ob mk => ∀ b, putC o.dst (mk b) l fun l' => cwp P ops m xs ds K rest hs' l' ((b, ob) :: L))
        (fun v us => putC o.dst v l fun l' => setC us L fun L' => cwp P ops m xs ds K rest hs' l' L')
      | false => putC o.dst undef l fun l' => cwp P ops m xs ds K rest hs' l' L
    match hs with
    | [] => go o_ []
    | (0, h) :: r => go h r
    | (k + 1, h) :: r => go o_ ((k, h) :: r)
section
variable {P : Program} {ops : Array Oper} {a : Act} {w0 w : World} {Q : Exit → Act → World → Prop} {n : Nat} {l : Slots} {L : Blks} {S : Nat → Prop} {R : List Row}
theorem Fr.kp (F : Fr n a l) (m : Nat) (xs ds : List Nat) : Fr n a (l.filter (fun x => kpB m xs ds x.1)) := ⟨F.defers, F.size, fun x hx => F.has x (List.mem_filter.1 hx).1⟩
theorem cwp_ok {rest : List Oper} {m : Nat} {xs ds : List Nat} {K : Slots → Blks → Prop} (hK : ∀ l' L' a' w', K l' L' → Fr n a' l' → MemS S w0 w' L' R → wpList P ops Q rest a' w') :
    ∀ (pre : List Oper) (hs : List (Nat × Hint)) (l : Slots) (L : Blks) (a : Act) (w : World), dstsB n pre = true → cwp P ops.toList m xs ds K pre hs l L → Fr n a l → MemS S w0 w L R → wpList P ops Q (pre ++ rest) a w
  | [], _, l, L, a, w, _, h, F, M => hK _ _ a w (kpC_ok h) (F.kp m xs ds) M
  | o :: pre, hs, l, L, a, w, hd, h, F, M => by
    have hd1 : dstsB n [o] = true := by simp only [dstsB, List.all_cons, Bool.and_eq_true, List.all_nil, Bool.and_true] at hd ⊢; exact hd.1
    have hd2 : dstsB n pre = true := by simp only [dstsB, List.all_cons, Bool.and_eq_true] at hd ⊢; exact hd.2
    have key : ∀ (hh : Hint) (hs' : List (Nat × Hint)), (wantC ops.toList l o fun c => match c with
        | true => cev P l L hh o (fun v => putC o.dst v l fun l' => cwp P ops.toList m xs ds K pre hs' l' L)
          (fun ob mk => ∀ b, putC o.dst (mk b) l fun l' => cwp P ops.toList m xs ds K pre hs' l' ((b, ob) :: L))
          (fun v us => putC o.dst v l fun l' => setC us L fun L' => cwp P ops.toList m xs ds K pre hs' l' L')
        | false => putC o.dst undef l fun l' => cwp P ops.toList m xs ds K pre hs' l' L) → wpList P ops Q (o :: pre ++ rest) a w := fun hh hs' h => by
      obtain ⟨c, hw, h⟩ := wantC_ok h
      refine wpList_step fun K' hK' => ?_
      cases c with
      | true =>
        rw [if_pos (wanted_iff hw F.lk)]
        obtain ⟨r, cs, h2, h3, h4⟩ := cev_ok h
        refine aev_ok F.agr M.hasL h2 h3 _ _ fun b w' p => hK' _ _ ?_
        have M' := M.post p
        obtain ⟨val, new, ups⟩ := r
        rcases h4 with ⟨e1, e2, h4⟩ | ⟨ob, e1, e2, h4⟩ | ⟨e1, h4⟩ <;> dsimp only at e1 h4
        · dsimp only at e2
          subst e1 e2
          obtain rfl := p.zero rfl
          exact cwp_ok hK pre hs' _ _ _ _ hd2 (putC_ok h4) (F.putS _ hd1) M'
        · dsimp only at e2
          subst e1 e2
          exact cwp_ok hK pre hs' _ _ _ _ hd2 (putC_ok (h4 b)) (F.putS _ hd1) M'
        · subst e1
          obtain rfl := p.zero rfl
          have h5 := setC_ok (putC_ok h4)
          refine cwp_ok (m := m) (xs := xs) (ds := ds) hK pre hs' _ (newL 0 ⟨val, none, ups⟩ L) _ _ hd2 ?_ (F.putS _ hd1) M'
          cases ups <;> exact h5
      | false =>
        rw [if_neg (by rw [wanted_iff hw F.lk]; decide)]
        exact hK' _ _ (cwp_ok hK pre hs' _ _ _ _ hd2 (putC_ok h) (F.putS _ hd1) M)
    unfold cwp at h
    match hs, h with
    | [], h => exact key _ _ h
    | (0, hh) :: r, h => exact key _ _ h
    | (k + 1, hh) :: r, h => exact key _ _ h
/-- A region in its row. -/
theorem rg_c {id : Nat} (F : Fr n a l) (M : MemS S w0 w L R) (hs : List (Nat × Hint)) (m : Nat) (xs ds : List Nat)
    (g : cwp P ops.toList m xs ds (fun l' L' => ∀ a' w', Fr n a' l' → MemS S w0 w' L' R → Q .normal a' w') ops.toList hs l L) (hd : dstsB n ops.toList = true := by kernel_rfl) : (Code.region id ops false).wp P Q a w := by
  refine wp_region_list ?_
  have := cwp_ok (P := P) (ops := ops) (Q := Q) (w0 := w0) (S := S) (R := R) (n := n) (rest := []) (K := fun l' L' => ∀ a' w', Fr n a' l' → MemS S w0 w' L' R → Q .normal a' w') (fun l' L' a' w' hK F M => hK a' w' F M) ops.toList hs l L a w hd g F M
  rwa [List.append_nil] at this
/-- The first k of a row. -/
theorem rp_c (k : Nat) {os : List Oper} (F : Fr n a l) (M : MemS S w0 w L R) (hs : List (Nat × Hint)) (m : Nat) (xs ds : List Nat)
    (g : cwp P ops.toList m xs ds (fun l' L' => ∀ a' w', Fr n a' l' → MemS S w0 w' L' R → wpList P ops Q (os.drop k) a' w') (os.take k) hs l L) (hd : dstsB n (os.take k) = true := by kernel_rfl) : wpList P ops Q os a w := by
  have := cwp_ok (P := P) (ops := ops) (Q := Q) (w0 := w0) (S := S) (R := R) (n := n) (rest := os.drop k) (K := fun l' L' => ∀ a' w', Fr n a' l' → MemS S w0 w' L' R → wpList P ops Q (os.drop k) a' w') (fun l' L' a' w' hK F M => hK a' w' F M) (os.take k) hs l L a w hd g F M
  rwa [List.take_append_drop] at this
end
end Go.Proofs.Ytniplfjnpjihoaa
namespace Go.Proofs.Ytniplfjnpjihoaa
open Go.RowKit
/-- On which operations one hangs. -/
def edgC : List Edge → (List Nat → Prop) → Prop
  | [], K => K []
  | ⟨j, g⟩ :: r, K => match Region.binds .any ⟨j, g⟩ with | true => edgC r fun js => K (j :: js) | false => edgC r K
theorem edgC_ok : ∀ {es : List Edge} {K : List Nat → Prop}, edgC es K → K ((es.filter (Region.binds .any ·)).map (·.on))
  | [], _, h => h
  | ⟨j, g⟩ :: r, K, h => by
    unfold edgC at h
    split at h
    · rename_i e
      rw [List.filter_cons_of_pos e]
      exact edgC_ok (K := fun js => K (j :: js)) h
    · rename_i e
      rw [List.filter_cons_of_neg (by rw [e]; decide)]
      exact edgC_ok h
/-- What they have come to. -/
def depC (ops : List Oper) (vs : List Value) : List Nat → (Slots → Prop) → Prop
  | [], K => K []
  | j :: r, K => nthC j ops fun q => match q.dst with | some d => nthC j vs fun v => depC ops vs r fun l => K ((d, v) :: l) | none => False
theorem depC_ok {ops : List Oper} {vs : List Value} (more : List Value) (nb : Nat → Nat) : ∀ {js : List Nat} {K : Slots → Prop}, depC ops vs js K → K (depSlots ops ((vs ++ more).map .inl) nb js)
  | [], _, h => h
  | j :: r, K, h => by
    unfold depC at h
    obtain ⟨q, h1, h⟩ := nthC_ok h
    split at h
    · rename_i d hd
      obtain ⟨v, h2, h⟩ := nthC_ok h
      have h3 := depC_ok more nb (K := fun l => K ((d, v) :: l)) h
      unfold depSlots
      have e1 : (ops[j]?).bind (·.dst) = some d := by rw [h1]; exact hd
      have e2 : ((vs ++ more).map Sum.inl : List Item)[j]? = some (.inl v) := by
        have hj : j < vs.length := (List.getElem?_eq_some_iff.1 h2).1
        rw [List.getElem?_map, List.getElem?_append_left hj, h2]
        rfl
      rw [e1, e2]
      exact h3
    · exact h.elim
theorem depBlks_inl (vs : List Value) (nb : Nat → Nat) : ∀ js : List Nat, depBlks (vs.map .inl) nb js = []
  | [] => rfl
  | j :: r => by
    unfold depBlks
    rw [List.getElem?_map]
    cases vs[j]? with
    | none => exact depBlks_inl vs nb r
    | some v => exact depBlks_inl vs nb r
def appC : Slots → Slots → (Slots → Prop) → Prop
  | [], z, K => K z
  | x :: r, z, K => appC r z fun l => K (x :: l)
theorem appC_ok : ∀ {l z : Slots} {K : Slots → Prop}, appC l z K → K (l ++ z)
  | [], _, _, h => h
  | x :: r, _, K, h => appC_ok (l := r) (K := fun l => K (x :: l)) h
def snocC (v : Value) : List Value → (List Value → Prop) → Prop
  | [], K => K [v]
  | x :: r, K => snocC v r fun l => K (x :: l)
theorem snocC_ok {v : Value} : ∀ {l : List Value} {K : List Value → Prop}, snocC v l K → K (l ++ [v])
  | [], _, h => h
  | x :: r, K, h => snocC_ok (l := r) (K := fun l => K (x :: l)) h
def dropsC : List Oper → Slots → (Slots → Prop) → Prop
  | [], l, K => K l
  | o :: r, l, K => match o.dst with | some d => dropC d l fun l' => dropsC r l' K | none => dropsC r l K
theorem dropS_filter (d : Nat) (ds : List Nat) : ∀ l : Slots, dropS ds (l.filter fun x => !(Nat.beq x.1 d)) = dropS (d :: ds) l
  | [] => rfl
  | x :: r => by
    have ih := dropS_filter d ds r
    cases e : Nat.beq x.1 d with
    | true =>
      rw [List.filter_cons_of_neg (by simp [e]), ih]
      have e' : Nat.beq d x.1 = true := by rw [Nat.eq_of_beq_eq_true e]; exact Nat.beq_refl _
      conv => rhs; unfold dropS
      simp only [memB, e']
    | false =>
      rw [List.filter_cons_of_pos (by simp [e])]
      have e' : Nat.beq d x.1 = false := by
        cases q : Nat.beq d x.1 with
        | false => rfl
        | true => rw [Nat.eq_of_beq_eq_true q, Nat.beq_refl] at e; cases e
      conv => lhs; unfold dropS
      conv => rhs; unfold dropS
      simp only [memB, e', ih]
theorem dropsC_ok : ∀ {os : List Oper} {l : Slots} {K : Slots → Prop}, dropsC os l K → K (dropS (dstsOf os) l)
  | [], l, K, h => by
    have : ∀ l : Slots, dropS [] l = l := fun l => by
      induction l with
      | nil => rfl
      | cons x r ih => unfold dropS; simp only [memB, ih]
    rw [dstsOf, this]; exact h
  | o :: r, l, K, h => by
    unfold dropsC at h
    unfold dstsOf
    split at h
    · rename_i d e
      rw [e]
      have h1 := dropsC_ok (dropC_ok h)
      rw [dropS_filter] at h1
      exact h1
    · rename_i e
      rw [e]
      exact dropsC_ok h
def pairsC : List Oper → List Value → Slots → (Slots → Prop) → Prop
  | o :: r, v :: vs, l, K => putC o.dst v l fun l' => pairsC r vs l' K
  | _, _, l, K => K l
theorem pairsC_ok : ∀ {os : List Oper} {vs : List Value} {l : Slots} {K : Slots → Prop}, pairsC os vs l K → K (pairsOf os vs l)
  | o :: r, v :: vs, l, K, h => by
    have h1 := pairsC_ok (os := r) (vs := vs) (putC_ok h)
    unfold pairsOf
    exact h1
  | [], _, _, _, h => h
  | _ :: _, [], _, _, h => h
/-- The drawn operations, one by one. -/
def drC (P : Program) (ops : List Oper) (lo : Slots) (L : Blks) : List Oper → List (Nat × Hint) → List Value → (List Value → Prop) → Prop
  | [], _, acc, K => K acc
  | o :: rest, hs, acc, K =>
    let go := fun (h : Hint) (hs' : List (Nat × Hint)) => edgC o.after.toList fun js => depC ops acc js fun l => appC l lo fun env => wantC ops env o fun c => match c with
      | true => cev P env L h o (fun v => snocC v acc fun acc' => drC P ops lo L rest hs' acc' K) (fun _ _ => False) (fun _ _ => False)
      | false => snocC undef acc fun acc' => drC P ops lo L rest hs' acc' K
    match hs with
    | [] => go o_ []
    | (0, h) :: r => go h r
    | (k + 1, h) :: r => go o_ ((k, h) :: r)
theorem drC_ok {P : Program} {ops : List Oper} {lo : Slots} {L : Blks} : ∀ (rest : List Oper) (hs : List (Nat × Hint)) (acc : List Value) (K : List Value → Prop), drC P ops lo L rest hs acc K →
    ∃ (vs : List Value) (hh : List Hint) (cs : List Prop), vs.length = rest.length ∧ K (acc ++ vs) ∧ (∀ c ∈ cs, c) ∧ ∀ nb, dres P ops ((acc ++ vs).map .inl) nb lo L rest hh = some (vs.map .inl, cs)
  | [], _, acc, K, h => ⟨[], [], [], rfl, by rw [List.append_nil]; exact h, (fun _ h => (by cases h)), fun _ => rfl⟩
  | o :: rest, hs, acc, K, h => by
    have key : ∀ (hh : Hint) (hs' : List (Nat × Hint)), (edgC o.after.toList fun js => depC ops acc js fun l => appC l lo fun env => wantC ops env o fun c => match c with
        | true => cev P env L hh o (fun v => snocC v acc fun acc' => drC P ops lo L rest hs' acc' K) (fun _ _ => False) (fun _ _ => False)
        | false => snocC undef acc fun acc' => drC P ops lo L rest hs' acc' K) →
        ∃ (vs : List Value) (hh : List Hint) (cs : List Prop), vs.length = (o :: rest).length ∧ K (acc ++ vs) ∧ (∀ c ∈ cs, c) ∧ ∀ nb, dres P ops ((acc ++ vs).map .inl) nb lo L (o :: rest) hh = some (vs.map .inl, cs) := fun hh hs' h => by
      have h0 := edgC_ok h
      -- whatever follows, the slots are these
      have hd : ∀ more nb, ∃ c, wantOf ops (depSlots ops ((acc ++ more).map .inl) nb (depsOf o) ++ lo) o = some c ∧ (match c with
        | true => cev P (depSlots ops ((acc ++ more).map .inl) nb (depsOf o) ++ lo) L hh o (fun v => snocC v acc fun acc' => drC P ops lo L rest hs' acc' K) (fun _ _ => False) (fun _ _ => False)
        | false => snocC undef acc fun acc' => drC P ops lo L rest hs' acc' K) := fun more nb => wantC_ok (appC_ok (depC_ok more nb h0))
      have same : ∀ more nb, depSlots ops ((acc ++ more).map .inl) nb (depsOf o) = depSlots ops (acc.map .inl) (fun _ => 0) (depsOf o) := fun more nb => by
        have e1 := depC_ok (K := fun l => ∀ more nb, depSlots ops ((acc ++ more).map .inl) nb (depsOf o) = l) [] (fun _ => 0) (show depC ops acc (depsOf o) _ from by
          have : ∀ (js : List Nat) (K K' : Slots → Prop), (∀ l, (∀ more nb, depSlots ops ((acc ++ more).map .inl) nb js = l) → K l → K' l) → depC ops acc js K → depC ops acc js K' := fun js => by
            induction js with
            | nil => exact fun K K' h1 h2 => h1 [] (fun _ _ => rfl) h2
            | cons j r ih =>
              intro K K' h1 h2
              unfold depC at h2 ⊢
              obtain ⟨q, q1, h2⟩ := nthC_ok h2
              have back : ∀ {α : Type} {i : Nat} {xs : List α} {x : α} {J : α → Prop}, xs[i]? = some x → J x → nthC i xs J := fun {α} {i} => by
                induction i with
                | zero => intro xs x J e hJ; cases xs with | nil => cases e | cons y r => cases e; exact hJ
                | succ i ihi => intro xs x J e hJ; cases xs with | nil => cases e | cons y r => exact ihi (by simpa using e) hJ
              refine back q1 ?_
              split at h2
              · rename_i d hd
                obtain ⟨v, q2, h2⟩ := nthC_ok h2
                refine back q2 (ih _ _ (fun l hl hk => h1 _ (fun more nb => ?_) hk) h2)
                have e1 : (ops[j]?).bind (·.dst) = some d := by rw [q1]; exact hd
                have e2 : ((acc ++ more).map Sum.inl : List Item)[j]? = some (.inl v) := by
                  rw [List.getElem?_map, List.getElem?_append_left (List.getElem?_eq_some_iff.1 q2).1, q2]; rfl
                unfold depSlots
                rw [e1, e2]
                show (d, v) :: _ = _
                rw [hl more nb]
              · exact h2.elim
          exact this _ _ _ (fun l hl _ => hl) h0)
        have := e1 more nb
        rw [this, List.append_nil]
      obtain ⟨c, hw, hc⟩ := hd [] (fun _ => 0)
      rw [same] at hw
      cases c with
      | true =>
        dsimp only at hc
        rw [same] at hc
        obtain ⟨r, cs1, h2, h3, h4⟩ := cev_ok hc
        rcases h4 with ⟨e1, e2, h4⟩ | ⟨ob, _, _, h4⟩ | ⟨_, h4⟩
        · obtain ⟨vs, hh', cs2, q1, q2, q3, q4⟩ := drC_ok rest hs' _ _ (snocC_ok h4)
          refine ⟨r.val 0 :: vs, hh :: hh', cs1 ++ cs2, by rw [List.length_cons, q1, List.length_cons], by rw [List.append_assoc] at q2; exact q2, fun c hc => (List.mem_append.1 hc).elim (h3 c) (q3 c), fun nb => ?_⟩
          have q4 := q4 nb
          rw [List.append_assoc] at q4
          unfold dres
          rw [show acc ++ (r.val 0 :: vs) = acc ++ ([r.val 0] ++ vs) from rfl, q4]
          dsimp only
          rw [same, hw]
          dsimp only
          rw [depBlks_inl, List.nil_append, h2]
          dsimp only
          have hi : itemOf r = some (.inl (r.val 0)) := by unfold itemOf; rw [e1, e2]
          rw [hi]
          rfl
        · exact h4.elim
        · exact h4.elim
      | false =>
        dsimp only at hc
        obtain ⟨vs, hh', cs2, q1, q2, q3, q4⟩ := drC_ok rest hs' _ _ (snocC_ok hc)
        refine ⟨undef :: vs, hh :: hh', cs2, by rw [List.length_cons, q1, List.length_cons], by rw [List.append_assoc] at q2; exact q2, q3, fun nb => ?_⟩
        have q4 := q4 nb
        rw [List.append_assoc] at q4
        unfold dres
        rw [show acc ++ (undef :: vs) = acc ++ ([undef] ++ vs) from rfl, q4]
        dsimp only
        rw [same, hw]
        rfl
    unfold drC at h
    match hs, h with
    | [], h => exact key _ _ h
    | (0, hh) :: r, h => exact key _ _ h
    | (k + 1, hh) :: r, h => exact key _ _ h
theorem valsOf_inl : ∀ (vs : List Value) (nb : Nat → Nat) (k : Nat), valsOf (vs.map .inl) nb k = vs
  | [], _, _ => rfl
  | v :: vs, nb, k => by rw [List.map_cons, valsOf, valsOf_inl vs nb (k + 1)]; rfl
section
variable {P : Program} {ops : Array Oper} {a : Act} {w0 w : World} {Q : Exit → Act → World → Prop} {n : Nat} {l : Slots} {L : Blks} {S : Nat → Prop} {R : List Row}
/-- A region that draws the order of its first m operations. -/
theorem rg_dc {id : Nat} (m : Nat) (F : Fr n a l) (M : MemS S w0 w L R) (hs hs' : List (Nat × Hint)) (b : Nat) (xs ds : List Nat)
    (g : dropsC (ops.toList.take m) l fun lo => drC P ops.toList lo L (ops.toList.take m) hs [] fun vs => pairsC (ops.toList.take m) vs l fun l' =>
      cwp P ops.toList b xs ds (fun l' L' => ∀ a' w', Fr n a' l' → MemS S w0 w' L' R → Q .normal a' w') (ops.toList.drop m) hs' l' L)
    (hm : P.follows .mixedOrders = true := by kernel_rfl) (hG : goodB ops.toList m n = true := by kernel_rfl) (hd : dstsB n ops.toList = true := by kernel_rfl) : (Code.region id ops true).wp P Q a w := by
  obtain ⟨vs, hh, cs, q1, q2, q3, q4⟩ := drC_ok _ _ _ _ (dropsC_ok g)
  have hle := (good_of hG).le
  have hvm : vs.length = m := by rw [q1, List.length_take]; omega
  rw [List.nil_append] at q2
  have q2 := pairsC_ok q2
  have hlen : (vs.map Sum.inl : List Item).length = m := by rw [List.length_map, hvm]
  have hd1 : dstsB n (ops.toList.take m) = true := by
    unfold dstsB at hd ⊢
    rw [List.all_eq_true] at hd ⊢
    exact fun o ho => hd o (List.mem_of_mem_take ho)
  have hd2 : dstsB n (ops.toList.drop m) = true := by
    unfold dstsB at hd ⊢
    rw [List.all_eq_true] at hd ⊢
    exact fun o ho => hd o (List.mem_of_mem_drop ho)
  refine region_list w.heap.size (vs.map .inl) [] (C := fun w' => Below w.heap.size w w') hm (by rw [F.size, hlen]; exact hG) ⟨rfl, rfl, rfl, Nat.le_refl _, fun _ _ => rfl⟩ (fun w1 w2 h h' => h.trans (h'.mono h.size)) (fun i hi => by simp at hi) ?_ ?_
  · have hk : ∀ nb, dres P ops.toList (vs.map .inl) nb (dropS (dstsOf (ops.toList.take (vs.map Sum.inl : List Item).length)) l) L (ops.toList.take (vs.map Sum.inl : List Item).length) hh = some (vs.map .inl, cs) := by rw [hlen]; exact q4
    exact draw_hall F M (vs.map .inl) [] hh (fun _ => cs) (by rw [hlen]; exact hG) hk trivial (fun _ => allC_iff.2 ⟨q3, trivial⟩)
  · intro nb w' hC hfacts hne
    rw [hlen]
    have F' := Fr.putAll (ops.toList.take m) vs a l F hd1
    have := cwp_ok (P := P) (ops := ops) (Q := Q) (w0 := w0) (S := S) (R := R) (n := n) (rest := []) (K := fun l' L' => ∀ a' w', Fr n a' l' → MemS S w0 w' L' R → Q .normal a' w') (fun l' L' a' w' hK F M => hK a' w' F M) (ops.toList.drop m) hs' _ _ _ w' hd2 q2 F' (M.keep hC)
    rw [List.append_nil] at this
    rw [valsOf_inl]
    exact this
end
end Go.Proofs.Ytniplfjnpjihoaa
namespace Go.Proofs.Ytniplfjnpjihoaa
open Go.RowKit
section
variable {P : Program} {l : Slots} {L : Blks}
end
section
variable {P : Program} {ops : Array Oper} {a : Act} {w0 w : World} {Q : Exit → Act → World → Prop} {n : Nat} {l : Slots} {L : Blks} {S : Nat → Prop} {R : List Row}
end
/-- The lesser of two numbers. -/
theorem min_ok {P : Program} {l : Slots} {L : Blks} {o : Oper} {x y : Operand} {t u : TypeId} {k : IntKind} {m n r : Nat} (ho : o.op = .call ⟨.builtin .min, #[x, y], #[t, u]⟩) (hx : evO l x = some (.int k (m : Nat))) (hy : evO l y = some (.int k (n : Nat))) (hr : min m n = r) : RunV P l L o (.int k (r : Nat)) := fun ρ w A _ => by
  have h1 := A x _ hx
  have h2 := A y _ hy
  have h3 := run_min_int2 (P := P) w #[t, u] o.type k k (m : Int) (n : Int)
  have h4 : (if (n : Int) < (m : Int) then (n : Int) else (m : Int)) = ((r : Nat) : Int) := by split <;> omega
  rw [h4] at h3
  simp [execOp, ho, resolve, invoke, builtin, h1, h2, h3]
/-- Four values answered together. -/
theorem ret_tup4 {P : Program} {n : Nat} {a : Act} {l : Slots} {w : World} {fn : Func} {R : Ending → World → Prop} {t u s r : Nat} {x y z v : Value} (F : Fr n a l) (i j k m : Nat) (hf : fn.results = #[.tmp t, .tmp u, .tmp s, .tmp r]) (h1 : l[i]? = some (t, x)) (h2 : l[j]? = some (u, y)) (h3 : l[k]? = some (s, z)) (h4 : l[m]? = some (r, v))
    (hR : R (.returned (.tuple #[x, y, z, v])) w) : bodyPost P fn R .ret a w :=
  bodyPost_ret (v := .tuple #[x, y, z, v]) (by simp [results, hf, F.get i h1, F.get j h2, F.get k h3, F.get m h4]) F.defers hR
end Go.Proofs.Ytniplfjnpjihoaa
namespace Go.Proofs.Ytniplfjnpjihoaa
def le8 (X : List Nat) : Nat := X.getD 0 0 + X.getD 1 0 * 256 + X.getD 2 0 * 65536 + X.getD 3 0 * 16777216 + X.getD 4 0 * 4294967296 + X.getD 5 0 * 1099511627776 + X.getD 6 0 * 281474976710656 + X.getD 7 0 * 72057594037927936
theorem le8_lt (X : List Nat) (hX : ∀ i, X.getD i 0 < 256) : le8 X < 18446744073709551616 := by
  have h0 := hX 0; have h1 := hX 1; have h2 := hX 2; have h3 := hX 3; have h4 := hX 4; have h5 := hX 5; have h6 := hX 6; have h7 := hX 7
  unfold le8; omega
theorem mul32 {x y : Nat} (hx : x < 4294967296) (hy : y < 4294967296) : x * y ≤ 18446744065119617025 := by
  have := Nat.mul_le_mul (Nat.le_of_lt_succ hx) (Nat.le_of_lt_succ hy)
  omega
theorem mul64_eq (x y : Nat) : x * y = x / 4294967296 * (y / 4294967296) * 18446744073709551616 + (x / 4294967296 * (y % 4294967296) + x % 4294967296 * (y / 4294967296)) * 4294967296 + x % 4294967296 * (y % 4294967296) := by
  have hx := Nat.div_add_mod x 4294967296
  have hy := Nat.div_add_mod y 4294967296
  generalize x / 4294967296 = a at *
  generalize x % 4294967296 = b at *
  generalize y / 4294967296 = c at *
  generalize y % 4294967296 = d at *
  rw [← hx, ← hy]
  grind
theorem mul64_hi {x y : Nat} (hx : x < 18446744073709551616) (hy : y < 18446744073709551616) :
    x / 4294967296 * (y / 4294967296) + (x / 4294967296 * (y % 4294967296) + x % 4294967296 * (y % 4294967296) / 4294967296) / 4294967296 + ((x / 4294967296 * (y % 4294967296) + x % 4294967296 * (y % 4294967296) / 4294967296) % 4294967296 + x % 4294967296 * (y / 4294967296)) / 4294967296 = x * y / 18446744073709551616 ∧
    x * y / 18446744073709551616 < 18446744073709551616 := by
  have e := mul64_eq x y
  have h1 := mul32 (x := x / 4294967296) (y := y / 4294967296) (by omega) (by omega)
  have h2 := mul32 (x := x / 4294967296) (y := y % 4294967296) (by omega) (by omega)
  have h3 := mul32 (x := x % 4294967296) (y := y / 4294967296) (by omega) (by omega)
  have h4 := mul32 (x := x % 4294967296) (y := y % 4294967296) (by omega) (by omega)
  rw [e]
  generalize x / 4294967296 * (y / 4294967296) = p at *
  generalize x / 4294967296 * (y % 4294967296) = q at *
  generalize x % 4294967296 * (y / 4294967296) = r at *
  generalize x % 4294967296 * (y % 4294967296) = s at *
  clear e hx hy
  constructor <;> omega
theorem mul64_le {x y : Nat} (hx : x < 18446744073709551616) (hy : y < 18446744073709551616) : x * y ≤ 340282366920938463426481119284349108225 := by
  have := Nat.mul_le_mul (Nat.le_of_lt_succ hx) (Nat.le_of_lt_succ hy)
  omega
/-- What is beyond 2^130 comes back 5 times. -/
def foldN (N : Nat) : Nat := N % 1361129467683753853853498429727072845824 + 5 * (N / 1361129467683753853853498429727072845824)
theorem times_words (p00 p01 p02 p10 p11 p12 : Nat) (h00 : p00 ≤ 21267647932558653966460912964485513216) (h01 : p01 ≤ 21267647932558653966460912964485513216) (h10 : p10 ≤ 21267647932558653966460912964485513216) (h11 : p11 ≤ 21267647932558653966460912964485513216) (h02 : p02 ≤ 6917529027641081856) (h12 : p12 ≤ 6917529027641081856) :
    p02 + (p01 + p00 / 18446744073709551616) / 18446744073709551616 < 18446744073709551616 ∧ p12 + (p11 + (p02 + (p01 + p00 / 18446744073709551616) / 18446744073709551616) + ((p10 + ((p01 + p00 / 18446744073709551616) % 18446744073709551616)) / 18446744073709551616)) / 18446744073709551616 < 9223372036854775808 ∧
    p00 % 18446744073709551616 + (p10 + ((p01 + p00 / 18446744073709551616) % 18446744073709551616)) % 18446744073709551616 * 18446744073709551616 + (p11 + (p02 + (p01 + p00 / 18446744073709551616) / 18446744073709551616) + ((p10 + ((p01 + p00 / 18446744073709551616) % 18446744073709551616)) / 18446744073709551616)) % 18446744073709551616 * 340282366920938463463374607431768211456 + (p12 + (p11 + (p02 + (p01 + p00 / 18446744073709551616) / 18446744073709551616) + ((p10 + ((p01 + p00 / 18446744073709551616) % 18446744073709551616)) / 18446744073709551616)) / 18446744073709551616) * 6277101735386680763835789423207666416102355444464034512896 = p00 + (p01 + p10) * 18446744073709551616 + (p02 + p11) * 340282366920938463463374607431768211456 + p12 * 6277101735386680763835789423207666416102355444464034512896 := by
  refine ⟨?_, ?_, ?_⟩ <;> omega
theorem fold_words (a b c d : Nat) (ha : a < 18446744073709551616) (hb : b < 18446744073709551616) (hc : c < 18446744073709551616) (hd : d < 9223372036854775808) :
    (5 * (c / 4 + d % 4 * 4611686018427387904) + a) % 18446744073709551616 = foldN (a + b * 18446744073709551616 + c * 340282366920938463463374607431768211456 + d * 6277101735386680763835789423207666416102355444464034512896) % 18446744073709551616 ∧
    (5 * (d / 4) + b + (5 * (c / 4 + d % 4 * 4611686018427387904) + a) / 18446744073709551616) % 18446744073709551616 = foldN (a + b * 18446744073709551616 + c * 340282366920938463463374607431768211456 + d * 6277101735386680763835789423207666416102355444464034512896) / 18446744073709551616 % 18446744073709551616 ∧
    c % 4 + (5 * (d / 4) + b + (5 * (c / 4 + d % 4 * 4611686018427387904) + a) / 18446744073709551616) / 18446744073709551616 = foldN (a + b * 18446744073709551616 + c * 340282366920938463463374607431768211456 + d * 6277101735386680763835789423207666416102355444464034512896) / 340282366920938463463374607431768211456 % 18446744073709551616 := by
  have e : foldN (a + b * 18446744073709551616 + c * 340282366920938463463374607431768211456 + d * 6277101735386680763835789423207666416102355444464034512896) = a + b * 18446744073709551616 + c % 4 * 340282366920938463463374607431768211456 + 5 * (c / 4 + d * 4611686018427387904) := by unfold foldN; omega
  rw [e]
  have e2 : a + b * 18446744073709551616 + c % 4 * 340282366920938463463374607431768211456 + 5 * (c / 4 + d * 4611686018427387904) = (5 * (c / 4 + d % 4 * 4611686018427387904) + a) % 18446744073709551616 + ((5 * (d / 4) + b + (5 * (c / 4 + d % 4 * 4611686018427387904) + a) / 18446744073709551616) % 18446744073709551616) * 18446744073709551616 + (c % 4 + (5 * (d / 4) + b + (5 * (c / 4 + d % 4 * 4611686018427387904) + a) / 18446744073709551616) / 18446744073709551616) * 340282366920938463463374607431768211456 := by omega
  rw [e2]
  have h1 : (5 * (c / 4 + d % 4 * 4611686018427387904) + a) % 18446744073709551616 < 18446744073709551616 := Nat.mod_lt _ (by decide)
  have h2 : (5 * (d / 4) + b + (5 * (c / 4 + d % 4 * 4611686018427387904) + a) / 18446744073709551616) % 18446744073709551616 < 18446744073709551616 := Nat.mod_lt _ (by decide)
  have h3 : c % 4 + (5 * (d / 4) + b + (5 * (c / 4 + d % 4 * 4611686018427387904) + a) / 18446744073709551616) / 18446744073709551616 < 18446744073709551616 := by omega
  generalize (5 * (c / 4 + d % 4 * 4611686018427387904) + a) % 18446744073709551616 = x at *
  generalize (5 * (d / 4) + b + (5 * (c / 4 + d % 4 * 4611686018427387904) + a) / 18446744073709551616) % 18446744073709551616 = y at *
  generalize c % 4 + (5 * (d / 4) + b + (5 * (c / 4 + d % 4 * 4611686018427387904) + a) / 18446744073709551616) / 18446744073709551616 = z at *
  clear e e2
  refine ⟨?_, ?_, ?_⟩ <;> omega
/-- Three words of a number. -/
theorem plus_words (x0 x1 x2 y0 y1 y2 : Nat) (M N : Nat) (h0 : x0 = M % 18446744073709551616) (h1 : x1 = M / 18446744073709551616 % 18446744073709551616) (h2 : x2 = M / 340282366920938463463374607431768211456 % 18446744073709551616) (k0 : y0 = N % 18446744073709551616) (k1 : y1 = N / 18446744073709551616 % 18446744073709551616) (k2 : y2 = N / 340282366920938463463374607431768211456 % 18446744073709551616) :
    (x0 + y0) % 18446744073709551616 = (M + N) % 18446744073709551616 ∧ (x1 + y1 + (x0 + y0) / 18446744073709551616) % 18446744073709551616 = (M + N) / 18446744073709551616 % 18446744073709551616 ∧ (x2 + y2 + (x1 + y1 + (x0 + y0) / 18446744073709551616) / 18446744073709551616) % 18446744073709551616 = (M + N) / 340282366920938463463374607431768211456 % 18446744073709551616 := by
  have e : ∀ n : Nat, n / 340282366920938463463374607431768211456 = n / 18446744073709551616 / 18446744073709551616 := fun n => by rw [Nat.div_div_eq_div_mul]
  rw [e] at h2 k2 ⊢
  refine ⟨by omega, by omega, by omega⟩
theorem ch0 (x z : Nat) : x ^^^ (0 &&& z) = x := by simp
theorem ch1 {x y : Nat} (hx : x < 18446744073709551616) (hy : y < 18446744073709551616) : x ^^^ (18446744073709551615 &&& (x ^^^ y)) = y := by
  have h : x ^^^ y < 2 ^ 64 := Nat.xor_lt_two_pow hx hy
  have e : 18446744073709551615 &&& (x ^^^ y) = x ^^^ y := by
    rw [Nat.and_comm]
    exact (Nat.and_two_pow_sub_one_eq_mod _ 64).trans (Nat.mod_eq_of_lt h)
  rw [e, ← Nat.xor_assoc, Nat.xor_self, Nat.zero_xor]
theorem xor64 {x y : Nat} (hx : x < 18446744073709551616) (hy : y < 18446744073709551616) : x ^^^ y < 18446744073709551616 := Nat.xor_lt_two_pow (n := 64) hx hy
theorem and64 {x y : Nat} (hx : x < 18446744073709551616) : x &&& y < 18446744073709551616 := Nat.lt_of_le_of_lt Nat.and_le_left hx
def tagTo (N i : Nat) : List Nat := (List.range 16).map fun j => if j % 8 < i then N / 256 ^ j % 256 else 0
theorem tagTo_len (N i : Nat) : (tagTo N i).length = 16 := by simp [tagTo]
theorem tagTo_get (N i : Nat) {j : Nat} (h : j < 16) : (tagTo N i).getD j 0 = if j % 8 < i then N / 256 ^ j % 256 else 0 := by simp [tagTo, h]
theorem tagTo_zero (N : Nat) : List.replicate 16 0 = tagTo N 0 := by
  refine ext_getD (by simp [tagTo]) fun i hi => ?_
  simp only [List.length_replicate] at hi
  rw [tagTo_get N 0 hi, if_neg (by omega), List.getD_eq_getElem?_getD, List.getElem?_replicate, if_pos hi]
  rfl
theorem tagTo_all (N : Nat) : tagTo N 8 = leB 16 N := by
  refine ext_getD (by simp [tagTo, leB]) fun i hi => ?_
  rw [tagTo_len] at hi
  rw [tagTo_get N 8 hi, leB_get hi, if_pos (by omega)]
theorem byte_lo (N i : Nat) (h : i < 8) : N % 18446744073709551616 / 2 ^ (8 * i) % 256 = N / 256 ^ i % 256 := by
  have : i = 0 ∨ i = 1 ∨ i = 2 ∨ i = 3 ∨ i = 4 ∨ i = 5 ∨ i = 6 ∨ i = 7 := by omega
  rcases this with rfl | rfl | rfl | rfl | rfl | rfl | rfl | rfl <;> simp <;> omega
theorem byte_hi (N i : Nat) (h : i < 8) : N / 18446744073709551616 % 18446744073709551616 / 2 ^ (8 * i) % 256 = N / 256 ^ (i + 8) % 256 := by
  rw [byte_lo _ i h, Nat.div_div_eq_div_mul, Nat.pow_add, Nat.mul_comm (256 ^ i)]
theorem tagTo_step (N i : Nat) (h : i < 8) : ((tagTo N i).set i (N % 18446744073709551616 / 2 ^ (8 * i) % 256)).set (i + 8) (N / 18446744073709551616 % 18446744073709551616 / 2 ^ (8 * i) % 256) = tagTo N (i + 1) := by
  rw [byte_lo N i h, byte_hi N i h]
  refine ext_getD (by simp [tagTo]) fun j hj => ?_
  simp only [List.length_set, tagTo_len] at hj
  rw [getD_set, getD_set, tagTo_get N i hj, tagTo_get N (i + 1) hj]
  simp only [List.length_set, tagTo_len]
  by_cases e : i + 8 = j
  · subst e; rw [if_pos (by omega), if_pos (by omega)]
  · rw [if_neg (by omega)]
    by_cases e2 : i = j
    · subst e2; rw [if_pos (by omega), if_pos (by omega)]
    · rw [if_neg (by omega)]
      by_cases e3 : j % 8 < i
      · rw [if_pos e3, if_pos (by omega)]
      · rw [if_neg e3, if_neg (by omega)]
end Go.Proofs.Ytniplfjnpjihoaa
namespace Go.Proofs.Ytniplfjnpjihoaa
theorem le8_leV (A : List Nat) (h : A.length = 8) : le8 A = leV A := by
  match A, h with
  | [a, b, c, d, e, f, g, i], _ => simp [le8, leV]; omega
/-- A block's number: its bytes and a byte 1 behind them. -/
def numR (R : List Nat) : Nat := leV (R ++ [1])
def padR (R : List Nat) : List Nat := R ++ List.replicate (17 - R.length) 0
theorem padR_len {R : List Nat} (h : R.length ≤ 16) : (padR R).length = 17 := by simp [padR]; omega
theorem padR_lt {R : List Nat} (h : ∀ i, R.getD i 0 < 256) : ∀ i, (padR R).getD i 0 < 256 := pad_lt R h _
theorem padR_set {R : List Nat} (h : R.length ≤ 16) : (padR R).set R.length 1 = R ++ [1] ++ List.replicate (16 - R.length) 0 := by
  have : 17 - R.length = (16 - R.length) + 1 := by omega
  rw [padR, this, List.replicate_succ, List.set_append_right _ _ (Nat.le_refl _), Nat.sub_self, List.set_cons_zero]
  simp
theorem num_words {R : List Nat} (h : R.length ≤ 16) (hR : ∀ i, R.getD i 0 < 256) :
    le8 ((((padR R).set R.length 1).drop 0).take 8) = numR R % 18446744073709551616 ∧
    le8 ((((padR R).set R.length 1).drop 8).take 8) = numR R / 18446744073709551616 % 18446744073709551616 ∧
    ((padR R).set R.length 1).getD 16 0 = numR R / 340282366920938463463374607431768211456 % 18446744073709551616 := by
  have hY : ((padR R).set R.length 1).length = 17 := by rw [List.length_set, padR_len h]
  have hb : ∀ i, ((padR R).set R.length 1).getD i 0 < 256 := fun i => by
    rw [getD_set]
    split
    · decide
    · exact padR_lt hR i
  have hV : leV ((padR R).set R.length 1) = numR R := by
    rw [padR_set h, leV_app (R ++ [1]), leV_zeros, Nat.mul_zero, Nat.add_zero]; rfl
  generalize (padR R).set R.length 1 = Y at *
  have l1 : (Y.take 8).length = 8 := by simp; omega
  have l2 : ((Y.drop 8).take 8).length = 8 := by simp; omega
  have s1 : Y = Y.take 8 ++ ((Y.drop 8).take 8 ++ Y.drop 16) := by
    rw [← List.append_assoc]
    have : Y.take 8 ++ (Y.drop 8).take 8 = Y.take 16 := by rw [← List.take_add]
    rw [this, List.take_append_drop]
  have e3 : leV (Y.drop 16) = Y.getD 16 0 := by
    have : Y.drop 16 = [Y.getD 16 0] := by
      refine List.ext_getElem (by simp; omega) fun i h1 h2 => ?_
      simp at h2
      subst h2
      simp [hY]
    rw [this]; simp [leV]
  have hv : numR R = leV (Y.take 8) + 18446744073709551616 * (leV ((Y.drop 8).take 8) + 18446744073709551616 * Y.getD 16 0) := by
    rw [← hV]
    conv => lhs; rw [s1]
    rw [leV_app, leV_app, l1, l2, e3]
  have b1 : leV (Y.take 8) < 18446744073709551616 := by
    have := leV_lt (Y.take 8) (fun i => by have := cut_lt Y hb 8 0 i; simpa using this)
    rwa [l1] at this
  have b2 : leV ((Y.drop 8).take 8) < 18446744073709551616 := by
    have := leV_lt ((Y.drop 8).take 8) (fun i => by
      simp only [List.getD_eq_getElem?_getD, List.getElem?_take, List.getElem?_drop]
      split
      · have := hb (8 + i); rwa [List.getD_eq_getElem?_getD] at this
      · decide)
    rwa [l2] at this
  have b3 := hb 16
  rw [List.drop_zero, le8_leV _ l1, le8_leV _ l2, hv]
  generalize leV (Y.take 8) = a at *
  generalize leV ((Y.drop 8).take 8) = b at *
  generalize Y.getD 16 0 = c at *
  clear hv hV s1
  refine ⟨by omega, by omega, by omega⟩
theorem numR_lt {R : List Nat} (h : R.length ≤ 16) (hR : ∀ i, R.getD i 0 < 256) : numR R < 680564733841876926926749214863536422912 := by
  unfold numR
  rw [leV_app]
  have h1 := leV_lt R hR
  have h2 : 256 ^ R.length ≤ 256 ^ 16 := Nat.pow_le_pow_right (by decide) h
  simp only [leV]
  omega
/-- h behind k blocks of 16 bytes. -/
def hK (r : Nat) (T : List Nat) : Nat → Nat
  | 0 => 0
  | k + 1 => foldN ((hK r T k + numR ((T.drop (16 * k)).take 16)) * r)
def remT (T : List Nat) : List Nat := T.drop (16 * (T.length / 16))
def hT (r : Nat) (T : List Nat) : Nat := hK r T (T.length / 16)
def hAll (r : Nat) (T : List Nat) : Nat := if 0 < (remT T).length then foldN ((hT r T + numR (remT T)) * r) else hT r T
theorem remT_len (T : List Nat) : (remT T).length = T.length % 16 := by simp [remT]; omega
theorem remT_lt {T : List Nat} (h : ∀ i, T.getD i 0 < 256) (i : Nat) : (remT T).getD i 0 < 256 := by
  simp only [remT, List.getD_eq_getElem?_getD, List.getElem?_drop]
  have := h (16 * (T.length / 16) + i); rwa [List.getD_eq_getElem?_getD] at this
theorem hK_app (r : Nat) (T Z : List Nat) : ∀ k, 16 * k ≤ T.length → hK r (T ++ Z) k = hK r T k
  | 0, _ => rfl
  | k + 1, h => by
    have : ((T ++ Z).drop (16 * k)).take 16 = (T.drop (16 * k)).take 16 := by
      rw [List.drop_append_of_le_length (by omega), List.take_append_of_le_length (by simp; omega)]
    rw [hK, hK, this, hK_app r T Z k (by omega)]
theorem foldN_lt {x r : Nat} (hx : x < 2381976568446569244243622252022377480192) (hr : r < 21267647932558653966460912964485513216) : foldN (x * r) < 1701411834604692317316873037158841057280 := by
  have : x * r ≤ 2381976568446569244243622252022377480192 * 21267647932558653966460912964485513216 := Nat.mul_le_mul (Nat.le_of_lt hx) (Nat.le_of_lt hr)
  unfold foldN
  omega
theorem hK_lt {r : Nat} (hr : r < 21267647932558653966460912964485513216) {T : List Nat} (hT : ∀ i, T.getD i 0 < 256) : ∀ k, hK r T k < 1701411834604692317316873037158841057280
  | 0 => by show 0 < _; decide
  | k + 1 => by
    have ih := hK_lt hr hT k
    have hn := numR_lt (R := (T.drop (16 * k)).take 16) (by simp; omega) (fun i => by
      simp only [List.getD_eq_getElem?_getD, List.getElem?_take, List.getElem?_drop]
      split
      · have := hT (16 * k + i); rwa [List.getD_eq_getElem?_getD] at this
      · decide)
    exact foldN_lt (by omega) hr
/-- A piece more: within a block. -/
theorem step_in (r : Nat) (T Z : List Nat) (h : (remT T ++ Z).length < 16) : hT r (T ++ Z) = hT r T ∧ remT (T ++ Z) = remT T ++ Z := by
  rw [List.length_append, remT_len] at h
  have e : (T ++ Z).length / 16 = T.length / 16 := by rw [List.length_append]; omega
  refine ⟨by rw [hT, e, hK_app r T Z _ (by omega)]; rfl, ?_⟩
  rw [remT, e, List.drop_append_of_le_length (by omega)]; rfl
/-- A piece more: a block is full. -/
theorem step_full (r : Nat) (T Z : List Nat) (h : (remT T ++ Z).length = 16) : hT r (T ++ Z) = foldN ((hT r T + numR (remT T ++ Z)) * r) ∧ remT (T ++ Z) = [] := by
  rw [List.length_append, remT_len] at h
  have e : (T ++ Z).length / 16 = T.length / 16 + 1 := by rw [List.length_append]; omega
  refine ⟨?_, ?_⟩
  · rw [hT, e, hK, hK_app r T Z _ (by omega)]
    have : ((T ++ Z).drop (16 * (T.length / 16))).take 16 = remT T ++ Z := by
      rw [List.drop_append_of_le_length (by omega)]
      exact List.take_of_length_le (by rw [List.length_append]; change (remT T).length + _ ≤ 16; rw [remT_len]; omega)
    rw [this]; rfl
  · rw [remT, e]
    exact List.drop_eq_nil_of_le (by rw [List.length_append]; omega)
def fac0 (K : List Nat) : Nat := le8 ((K.drop 0).take 8) &&& 1152921487695413247
def fac1 (K : List Nat) : Nat := le8 ((K.drop 8).take 8) &&& 1152921487695413244
def rOf (K : List Nat) : Nat := fac0 K + fac1 K * 18446744073709551616
def sOf (K : List Nat) : Nat := le8 ((K.drop 16).take 8) + le8 ((K.drop 24).take 8) * 18446744073709551616
theorem fac0_lt (K : List Nat) : fac0 K < 1152921504606846976 := Nat.lt_of_le_of_lt Nat.and_le_right (by decide)
theorem fac1_lt (K : List Nat) : fac1 K < 1152921504606846976 := Nat.lt_of_le_of_lt Nat.and_le_right (by decide)
theorem rOf_lt (K : List Nat) : rOf K < 21267647932558653966460912964485513216 := by
  have := fac0_lt K; have := fac1_lt K; unfold rOf; omega
theorem hAll_lt {K T : List Nat} (hT' : ∀ i, T.getD i 0 < 256) : hAll (rOf K) T < 2722258935367507707706996859454145691638 := by
  unfold hAll
  have h1 := hK_lt (rOf_lt K) hT' (T.length / 16)
  split
  · have hn := numR_lt (R := remT T) (by rw [remT_len]; omega) (remT_lt hT')
    have := foldN_lt (x := hT (rOf K) T + numR (remT T)) (by unfold hT; omega) (rOf_lt K)
    omega
  · unfold hT; omega
/-- The tag. -/
def polyN (K T : List Nat) : List Nat := tagTo (hAll (rOf K) T % 1361129467683753853853498429727072845819 + sOf K) 8
end Go.Proofs.Ytniplfjnpjihoaa
namespace Go.Proofs.Ytniplfjnpjihoaa
theorem poly_leB (K T : List Nat) : polyN K T = leB 16 (hAll (rOf K) T % 1361129467683753853853498429727072845819 + sOf K) := by unfold polyN; rw [tagTo_all]
end Go.Proofs.Ytniplfjnpjihoaa
namespace Go.Proofs.Ytniplfjnpjihoaa
def q3 (i : Nat) : Bool := decide (i % 4 = 3)
def q0 (i : Nat) : Bool := decide (i % 4 = 0 ∧ i ≠ 0)
end Go.Proofs.Ytniplfjnpjihoaa
namespace Go.Proofs.Ytniplfjnpjihoaa
open Go.RowKit
theorem ent17 : Enters Try.prog 74 := fun args w => by simp [go_sem]
theorem ent18 : Enters Try.prog 75 := fun args w => by simp [go_sem]
theorem ent19 : Enters Try.prog 76 := fun args w => by simp [go_sem]
theorem ent20 : Enters Try.prog 77 := fun args w => by simp [go_sem]
theorem ent21 : Enters Try.prog 78 := fun args w => by simp [go_sem]
theorem ent22 : Enters Try.prog 79 := fun args w => by simp [go_sem]
theorem ent23 : Enters Try.prog 80 := fun args w => by simp [go_sem]
theorem ent24 : Enters Try.prog 81 := fun args w => by simp [go_sem]
theorem ent30 : Enters Try.prog 89 := fun args w => by simp [go_sem]
theorem ent31 : Enters Try.prog 90 := fun args w => by simp [go_sem]
theorem ent32 : Enters Try.prog 91 := fun args w => by simp [go_sem]
theorem ent34 : Enters Try.prog 93 := fun args w => by simp [go_sem]
theorem ent36 : Enters Try.prog 64 := fun args w => by simp [go_sem]
theorem run_add64p (args : Array Value) (w : World) : (callFunc 92 args).run Try.prog w = ((add64Entry args).run Try.prog w).andThen fun v w' => .ok (.value v) w' :=
  run_callFunc_extern Try.func92 (by kernel_rfl) (by kernel_rfl) (by kernel_rfl) (by kernel_rfl) args w
theorem add64p_ok {l : Slots} {L : Blks} {o : Oper} {p q r : Operand} {x y c : Nat} {at_ : Array TypeId} (ho : o.op = .call ⟨.value (.func 92), #[p, q, r], at_⟩) (hp : evO l p = some (iW x)) (hq : evO l q = some (iW y)) (hr : evO l r = some (iW c)) (hc : c ≤ 1) :
    RunV Try.prog l L o (.tuple #[iW ((x + y + c) % 18446744073709551616), iW ((x + y + c) / 18446744073709551616)]) := fun ρ w A _ => by
  have h1 := A p _ hp
  have h2 := A q _ hq
  have h3 := A r _ hr
  have h4 := A (.func 92) _ rfl
  have e := run_add64 (P := Try.prog) x y c (by omega) (by omega) (by omega) (by omega) w
  simp only [← Int.natCast_add] at e
  simp [execOp, ho, resolve, Deferred.ofValue, invoke, h1, h2, h3, h4, run_add64p, e]
set_option maxRecDepth 100000 in
theorem word_any (X : List Nat) (hX : Bytes 8 X) (w0 : World) :
    Calls Try.prog 89 #[.agg (cn .u8 X)] w0 fun e w' => e = .returned (iW (le8 X)) ∧ Below w0.heap.size w0 w' := by
  refine enter_fr Try.func89 rfl Try.ntmps89 (by simp) fun ac (FF : Fr 41 ac [(0, .agg (cn .u8 X))]) => ?_
  have MM := MemS.start w0
  refine wp_seq (rg_c FF MM [(0, s_ 0 (.cells (cn .u8 X) 158))] 3 [] [0] (⟨(by kernel_rfl), fun b1 => fun _ _ FF1 MM1 => then_n ?_⟩))
  refine wp_seq (rg_c FF1 MM1 ((0, w_ 1) :: (0, l_ 0 (iB (X.getD 0 0))) :: (0, w_ 1) :: (0, w_ 1) :: (0, l_ 0 (iB (X.getD 1 0))) :: (0, w_ 1) :: (0, t_ (iW (X.getD 1 0 * 256))) :: (0, t_ (iW (X.getD 0 0 + X.getD 1 0 * 256))) :: (0, w_ 1) :: (0, l_ 0 (iB (X.getD 2 0))) :: (0, w_ 1) :: (0, t_ (iW (X.getD 2 0 * 65536))) :: (0, t_ (iW (X.getD 0 0 + X.getD 1 0 * 256 + X.getD 2 0 * 65536))) :: (0, w_ 1) :: (0, l_ 0 (iB (X.getD 3 0))) :: (0, w_ 1) :: (0, t_ (iW (X.getD 3 0 * 16777216))) :: (0, t_ (iW (X.getD 0 0 + X.getD 1 0 * 256 + X.getD 2 0 * 65536 + X.getD 3 0 * 16777216))) :: (0, w_ 1) :: (0, l_ 0 (iB (X.getD 4 0))) :: (0, w_ 1) :: (0, t_ (iW (X.getD 4 0 * 4294967296))) :: (0, t_ (iW (X.getD 0 0 + X.getD 1 0 * 256 + X.getD 2 0 * 65536 + X.getD 3 0 * 16777216 + X.getD 4 0 * 4294967296))) :: (0, w_ 1) :: (0, l_ 0 (iB (X.getD 5 0))) :: (0, w_ 1) :: (0, t_ (iW (X.getD 5 0 * 1099511627776))) :: (0, t_ (iW (X.getD 0 0 + X.getD 1 0 * 256 + X.getD 2 0 * 65536 + X.getD 3 0 * 16777216 + X.getD 4 0 * 4294967296 + X.getD 5 0 * 1099511627776))) :: (0, w_ 1) :: (0, l_ 0 (iB (X.getD 6 0))) :: (0, w_ 1) :: (0, t_ (iW (X.getD 6 0 * 281474976710656))) :: (0, t_ (iW (X.getD 0 0 + X.getD 1 0 * 256 + X.getD 2 0 * 65536 + X.getD 3 0 * 16777216 + X.getD 4 0 * 4294967296 + X.getD 5 0 * 1099511627776 + X.getD 6 0 * 281474976710656))) :: (0, w_ 1) :: (0, l_ 0 (iB (X.getD 7 0))) :: (0, w_ 1) :: (0, t_ (iW (X.getD 7 0 * 72057594037927936))) :: (0, t_ (iW (X.getD 0 0 + X.getD 1 0 * 256 + X.getD 2 0 * 65536 + X.getD 3 0 * 16777216 + X.getD 4 0 * 4294967296 + X.getD 5 0 * 1099511627776 + X.getD 6 0 * 281474976710656 + X.getD 7 0 * 72057594037927936))) :: []) 0 [2] [] (⟨by decide, rfl, (cn_get _ _ _ (by rw [hX.len]; decide)), (by have := hX.lt 0; omega), by decide, rfl, (cn_get _ _ _ (by rw [hX.len]; decide)), (by have := hX.lt 1; omega), (vI (Nat.mod_eq_of_lt (by have := hX.lt 1; omega))), (by have := hX.lt 0; omega), (by have := hX.lt 1; omega), (vI (or_shl 8 (by have := hX.lt 0; have := hX.lt 1; omega))), by decide, rfl, (cn_get _ _ _ (by rw [hX.len]; decide)), (by have := hX.lt 2; omega), (vI (Nat.mod_eq_of_lt (by have := hX.lt 2; omega))), (by have := hX.lt 0; have := hX.lt 1; omega), (by have := hX.lt 2; omega), (vI (or_shl 16 (by have := hX.lt 0; have := hX.lt 1; have := hX.lt 2; omega))), by decide, rfl, (cn_get _ _ _ (by rw [hX.len]; decide)), (by have := hX.lt 3; omega), (vI (Nat.mod_eq_of_lt (by have := hX.lt 3; omega))), (by have := hX.lt 0; have := hX.lt 1; have := hX.lt 2; omega), (by have := hX.lt 3; omega), (vI (or_shl 24 (by have := hX.lt 0; have := hX.lt 1; have := hX.lt 2; have := hX.lt 3; omega))), by decide, rfl, (cn_get _ _ _ (by rw [hX.len]; decide)), (by have := hX.lt 4; omega), (vI (Nat.mod_eq_of_lt (by have := hX.lt 4; omega))), (by have := hX.lt 0; have := hX.lt 1; have := hX.lt 2; have := hX.lt 3; omega), (by have := hX.lt 4; omega), (vI (or_shl 32 (by have := hX.lt 0; have := hX.lt 1; have := hX.lt 2; have := hX.lt 3; have := hX.lt 4; omega))), by decide, rfl, (cn_get _ _ _ (by rw [hX.len]; decide)), (by have := hX.lt 5; omega), (vI (Nat.mod_eq_of_lt (by have := hX.lt 5; omega))), (by have := hX.lt 0; have := hX.lt 1; have := hX.lt 2; have := hX.lt 3; have := hX.lt 4; omega), (by have := hX.lt 5; omega), (vI (or_shl 40 (by have := hX.lt 0; have := hX.lt 1; have := hX.lt 2; have := hX.lt 3; have := hX.lt 4; have := hX.lt 5; omega))), by decide, rfl, (cn_get _ _ _ (by rw [hX.len]; decide)), (by have := hX.lt 6; omega), (vI (Nat.mod_eq_of_lt (by have := hX.lt 6; omega))), (by have := hX.lt 0; have := hX.lt 1; have := hX.lt 2; have := hX.lt 3; have := hX.lt 4; have := hX.lt 5; omega), (by have := hX.lt 6; omega), (vI (or_shl 48 (by have := hX.lt 0; have := hX.lt 1; have := hX.lt 2; have := hX.lt 3; have := hX.lt 4; have := hX.lt 5; have := hX.lt 6; omega))), by decide, rfl, (cn_get _ _ _ (by rw [hX.len]; decide)), (by have := hX.lt 7; omega), (vI (Nat.mod_eq_of_lt (by have := hX.lt 7; omega))), (by have := hX.lt 0; have := hX.lt 1; have := hX.lt 2; have := hX.lt 3; have := hX.lt 4; have := hX.lt 5; have := hX.lt 6; omega), (by have := hX.lt 7; omega), (vI (or_shl 56 (by have := hX.lt 0; have := hX.lt 1; have := hX.lt 2; have := hX.lt 3; have := hX.lt 4; have := hX.lt 5; have := hX.lt 6; have := hX.lt 7; omega))), fun _ _ FF2 MM2 => then_n ?_⟩))
  refine wp_ret ?_
  repeat first | refine then_ret ?_ | refine inb_ret ?_
  exact (ret_fr FF2 0 Try.results89 rfl ⟨rfl, MM2.below⟩)
set_option maxRecDepth 100000 in
theorem mul64_any (x y : Nat) (hx : x < 18446744073709551616) (hy : y < 18446744073709551616) (w0 : World) :
    Calls Try.prog 64 #[iW x, iW y] w0 fun e w' => e = .returned (.tuple #[iW (x * y / 18446744073709551616), iW (x * y % 18446744073709551616)]) ∧ Below w0.heap.size w0 w' := by
  refine enter_fr Try.func64 rfl Try.ntmps64 (by simp) fun ac (FF : Fr 51 ac [(0, iW x), (1, iW y)]) => ?_
  have MM := MemS.start w0
  refine wp_seq (rg_c FF MM [] 6 [] [] (fun _ _ FF1 MM1 => then_n ?_))
  refine wp_seq (rg_c FF1 MM1 [(1, t_ (iW (x % 4294967296)))] 7 [] [] (⟨(by have := hx; omega), by decide, (vI (and_low 32 _)), fun _ _ FF2 MM2 => then_n ?_⟩))
  refine wp_seq (rg_c FF2 MM2 [(1, t_ (iW (x / 4294967296)))] 8 [] [] (⟨by decide, rfl, fun _ _ FF3 MM3 => then_n ?_⟩))
  refine wp_seq (rg_c FF3 MM3 [(1, t_ (iW (y % 4294967296)))] 9 [] [] (⟨(by have := hy; omega), by decide, (vI (and_low 32 _)), fun _ _ FF4 MM4 => then_n ?_⟩))
  refine wp_seq (rg_c FF4 MM4 [(1, t_ (iW (y / 4294967296)))] 9 [9] [] (⟨by decide, rfl, fun _ _ FF5 MM5 => then_n ?_⟩))
  refine wp_seq (rg_c FF5 MM5 [(2, w_ 1)] 11 [] [] (⟨(by have := mul32 (x := x % 4294967296) (y := y % 4294967296) (by omega) (by omega); omega), fun _ _ FF6 MM6 => then_n ?_⟩))
  refine wp_seq (rg_c FF6 MM6 [(2, w_ 1), (1, t_ (iW (((x % 4294967296) * (y % 4294967296)) / 4294967296))), (0, w_ 1)] 10 [11] [] (⟨(by have := mul32 (x := x / 4294967296) (y := y % 4294967296) (by omega) (by omega); omega), by decide, rfl, (by have := mul32 (x := x / 4294967296) (y := y % 4294967296) (by omega) (by omega); have := mul32 (x := x % 4294967296) (y := y % 4294967296) (by omega) (by omega); omega), fun _ _ FF7 MM7 => then_n ?_⟩))
  refine wp_seq (rg_c FF7 MM7 [(1, t_ (iW (((x / 4294967296) * (y % 4294967296) + (x % 4294967296) * (y % 4294967296) / 4294967296) % 4294967296)))] 13 [] [] (⟨(by have := mul32 (x := x / 4294967296) (y := y % 4294967296) (by omega) (by omega); have := mul32 (x := x % 4294967296) (y := y % 4294967296) (by omega) (by omega); omega), by decide, (vI (and_low 32 _)), fun _ _ FF8 MM8 => then_n ?_⟩))
  refine wp_seq (rg_c FF8 MM8 [(1, t_ (iW ((((x / 4294967296) * (y % 4294967296)) + (((x % 4294967296) * (y % 4294967296)) / 4294967296)) / 4294967296)))] 14 [] [] (⟨by decide, rfl, fun _ _ FF9 MM9 => then_n ?_⟩))
  refine wp_seq (rg_c FF9 MM9 [(3, w_ 1), (0, w_ 1)] 14 [] [] (⟨(by have := mul32 (x := x % 4294967296) (y := y / 4294967296) (by omega) (by omega); omega), (by have := mul32 (x := x % 4294967296) (y := y / 4294967296) (by omega) (by omega); omega), fun _ _ FF10 MM10 => then_n ?_⟩))
  refine wp_seq (rg_c FF10 MM10 [(2, w_ 1), (1, w_ 1), (1, t_ (iW (((((x / 4294967296) * (y % 4294967296) + (x % 4294967296) * (y % 4294967296) / 4294967296) % 4294967296) + ((x % 4294967296) * (y / 4294967296))) / 4294967296))), (0, u_ 1 (iW (x * y / 18446744073709551616)))] 13 [] [] (⟨(by have := mul32 (x := x / 4294967296) (y := y / 4294967296) (by omega) (by omega); omega), (by have := mul64_hi hx hy; omega), by decide, rfl, (by have := mul64_hi hx hy; omega), (vI (mul64_hi hx hy).1), fun _ _ FF11 MM11 => then_n ?_⟩))
  refine wp_seq (rg_c FF11 MM11 [] 13 [] [] (fun _ _ FF12 MM12 => then_n ?_))
  refine wp_ret ?_
  repeat first | refine then_ret ?_ | refine inb_ret ?_
  exact (ret_tup2 FF12 1 0 Try.results64 rfl rfl ⟨rfl, MM12.below⟩)
set_option maxRecDepth 100000 in
theorem mulAdd_any (n m s t : Nat) (hn : n < 18446744073709551616) (hm : m < 18446744073709551616) (hs : s < 18446744073709551616) (ht : t < 18446744073709551616) (w0 : World) :
    Calls Try.prog 90 #[iW n, iW m, iW s, iW t] w0 fun e w' => e = .returned (.tuple #[iW ((n * m + s + t) / 18446744073709551616), iW ((n * m + s + t) % 18446744073709551616)]) ∧ Below w0.heap.size w0 w' := by
  refine enter_fr Try.func90 rfl Try.ntmps90 (by simp) fun ac (FF : Fr 36 ac [(0, iW n), (1, iW m), (2, iW s), (3, iW t)]) => ?_
  have MM := MemS.start w0
  have hnm := mul64_le hn hm
  refine wp_seq (rg_c FF MM [] 9 [9] [] (fun _ _ FF1 MM1 => then_n ?_))
  refine wp_seq (rg_c FF1 MM1 [(2, t_ (.tuple #[iW (n * m / 18446744073709551616), iW (n * m % 18446744073709551616)]))] 9 [9] [0, 1] (⟨(callP_of ent36 (mul64_any _ _ (by have := hn; omega) (by have := hm; omega)) _), fun _ _ FF2 MM2 => then_n ?_⟩))
  refine wp_seq (rg_c FF2 MM2 [(2, f_ (.tuple #[iW (((n * m % 18446744073709551616) + s + 0) % 18446744073709551616), iW (((n * m % 18446744073709551616) + s + 0) / 18446744073709551616)]))] 11 [] [2] (⟨(add64p_ok (p := (.tmp 19)) (q := (.tmp 20)) (r := (.const (.int .u64 0))) (x := n * m % 18446744073709551616) (y := s) (c := 0) (at_ := #[135, 135, 135]) (by kernel_rfl) rfl rfl rfl (by decide)), fun _ _ FF3 MM3 => then_n ?_⟩))
  refine wp_seq (rg_c FF3 MM3 [(2, f_ (.tuple #[iW (((((n * m % 18446744073709551616) + s + 0) % 18446744073709551616) + t + 0) % 18446744073709551616), iW (((((n * m % 18446744073709551616) + s + 0) % 18446744073709551616) + t + 0) / 18446744073709551616)]))] 12 [] [3] (⟨(add64p_ok (p := (.tmp 25)) (q := (.tmp 26)) (r := (.const (.int .u64 0))) (x := ((n * m % 18446744073709551616) + s + 0) % 18446744073709551616) (y := t) (c := 0) (at_ := #[135, 135, 135]) (by kernel_rfl) rfl rfl rfl (by decide)), fun _ _ FF4 MM4 => then_n ?_⟩))
  refine wp_seq (rg_c FF4 MM4 [(2, w_ 1), (1, u_ 1 (iW ((n * m + s + t) / 18446744073709551616))), (0, t_ (iW ((n * m + s + t) % 18446744073709551616)))] 9 [9] [] (⟨by omega, by omega, (vI (by omega)), (vI (by omega)), fun _ _ FF5 MM5 => then_n ?_⟩))
  refine wp_ret ?_
  repeat first | refine then_ret ?_ | refine inb_ret ?_
  exact (ret_tup2 FF5 1 0 Try.results90 rfl rfl ⟨rfl, MM5.below⟩)
end Go.Proofs.Ytniplfjnpjihoaa
namespace Go.Proofs.Ytniplfjnpjihoaa
open Go.RowKit
/-- A number in three words. -/
def w3 (N : Nat) : Array Value := #[iW (N % 18446744073709551616), iW (N / 18446744073709551616 % 18446744073709551616), iW (N / 340282366920938463463374607431768211456 % 18446744073709551616)]
theorem w3_of {a b c N : Nat} (h : a = N % 18446744073709551616 ∧ b = N / 18446744073709551616 % 18446744073709551616 ∧ c = N / 340282366920938463463374607431768211456 % 18446744073709551616) : Value.agg #[iW a, iW b, iW c] = .agg (w3 N) := by rw [h.1, h.2.1, h.2.2]; rfl
set_option maxRecDepth 100000 in
theorem plus_any (m n : Nat) (w0 : World) :
    Calls Try.prog 78 #[.agg (w3 m), .agg (w3 n)] w0 fun e w' => e = .returned (.agg (w3 (m + n))) ∧ Below w0.heap.size w0 w' := by
  refine enter_fr Try.func78 rfl Try.ntmps78 (by simp) fun ac (FF : Fr 35 ac [(0, .agg (w3 m)), (1, .agg (w3 n))]) => ?_
  have MM := MemS.start w0
  refine wp_seq (rg_c FF MM [] 5 [] [0, 1] (fun b1 => fun b2 => fun b3 => fun _ _ FF1 MM1 => then_n ?_))
  refine wp_seq (rg_c FF1 MM1 [(1, l_ 2 (iW (m % 18446744073709551616))), (1, l_ 1 (iW (n % 18446744073709551616))), (0, f_ (.tuple #[iW (((m % 18446744073709551616) + (n % 18446744073709551616) + 0) % 18446744073709551616), iW (((m % 18446744073709551616) + (n % 18446744073709551616) + 0) / 18446744073709551616)])), (3, t_ (iW ((m % 18446744073709551616 + n % 18446744073709551616) % 18446744073709551616))), (0, t_ (iW ((m % 18446744073709551616 + n % 18446744073709551616) / 18446744073709551616)))] 7 [] [] (⟨rfl, rfl, rfl, rfl, (add64p_ok (p := (.tmp 10)) (q := (.tmp 12)) (r := (.const (.int .u64 0))) (x := m % 18446744073709551616) (y := n % 18446744073709551616) (c := 0) (at_ := #[135, 135, 135]) (by kernel_rfl) rfl rfl rfl (by decide)), (vI (by rw [Nat.add_zero])), (vI (by rw [Nat.add_zero])), fun _ _ FF2 MM2 => then_n ?_⟩))
  refine wp_seq (rg_c FF2 MM2 [(1, l_ 2 (iW (m / 18446744073709551616 % 18446744073709551616))), (1, l_ 1 (iW (n / 18446744073709551616 % 18446744073709551616))), (1, f_ (.tuple #[iW (((m / 18446744073709551616 % 18446744073709551616) + (n / 18446744073709551616 % 18446744073709551616) + ((m % 18446744073709551616 + n % 18446744073709551616) / 18446744073709551616)) % 18446744073709551616), iW (((m / 18446744073709551616 % 18446744073709551616) + (n / 18446744073709551616 % 18446744073709551616) + ((m % 18446744073709551616 + n % 18446744073709551616) / 18446744073709551616)) / 18446744073709551616)]))] 8 [] [] (⟨rfl, rfl, rfl, rfl, (add64p_ok (p := (.tmp 18)) (q := (.tmp 20)) (r := (.tmp 21)) (x := m / 18446744073709551616 % 18446744073709551616) (y := n / 18446744073709551616 % 18446744073709551616) (c := (m % 18446744073709551616 + n % 18446744073709551616) / 18446744073709551616) (at_ := #[135, 135, 135]) (by kernel_rfl) rfl rfl rfl (by omega)), fun _ _ FF3 MM3 => then_n ?_⟩))
  refine wp_seq (rg_c FF3 MM3 [(3, l_ 2 (iW (m / 340282366920938463463374607431768211456 % 18446744073709551616))), (1, l_ 1 (iW (n / 340282366920938463463374607431768211456 % 18446744073709551616))), (2, t_ (iW ((m / 340282366920938463463374607431768211456 % 18446744073709551616 + n / 340282366920938463463374607431768211456 % 18446744073709551616 + (m / 18446744073709551616 % 18446744073709551616 + n / 18446744073709551616 % 18446744073709551616 + (m % 18446744073709551616 + n % 18446744073709551616) / 18446744073709551616) / 18446744073709551616) % 18446744073709551616))), (0, t_ (.agg (w3 (m + n)))), (0, b_ 0)] 5 [6] [] (⟨rfl, rfl, rfl, rfl, (vI (by rw [Nat.mod_add_mod])), (Eq.trans (show _ = some (#[iW ((m % 18446744073709551616 + n % 18446744073709551616) % 18446744073709551616), iW (((m / 18446744073709551616 % 18446744073709551616) + (n / 18446744073709551616 % 18446744073709551616) + ((m % 18446744073709551616 + n % 18446744073709551616) / 18446744073709551616)) % 18446744073709551616), iW ((m / 340282366920938463463374607431768211456 % 18446744073709551616 + n / 340282366920938463463374607431768211456 % 18446744073709551616 + (m / 18446744073709551616 % 18446744073709551616 + n / 18446744073709551616 % 18446744073709551616 + (m % 18446744073709551616 + n % 18446744073709551616) / 18446744073709551616) / 18446744073709551616) % 18446744073709551616)] : Array Value) by kernel_rfl) (congrArg some (Value.agg.inj (w3_of (plus_words _ _ _ _ _ _ m n rfl rfl rfl rfl rfl rfl))))), rfl, rfl, rfl, (by kernel_rfl), rfl, fun _ _ FF4 MM4 => then_n ?_⟩))
  refine wp_ret ?_
  repeat first | refine then_ret ?_ | refine inb_ret ?_
  exact (retc FF4 MM4 (k := 3) (i := 0) (j := 1) Try.results78 rfl rfl Try.underlying148 rfl (by kernel_rfl) rfl ⟨rfl, MM4.below⟩)
set_option maxRecDepth 100000 in
theorem fold_any (a b c d : Nat) (ha : a < 18446744073709551616) (hb : b < 18446744073709551616) (hc : c < 18446744073709551616) (hd : d < 9223372036854775808) (w0 : World) :
    Calls Try.prog 91 #[iW a, iW b, iW c, iW d] w0 fun e w' => e = .returned (.agg (w3 (foldN (a + b * 18446744073709551616 + c * 340282366920938463463374607431768211456 + d * 6277101735386680763835789423207666416102355444464034512896)))) ∧ Below w0.heap.size w0 w' := by
  refine enter_fr Try.func91 rfl Try.ntmps91 (by simp) fun ac (FF : Fr 35 ac [(0, iW a), (1, iW b), (2, iW c), (3, iW d)]) => ?_
  have MM := MemS.start w0
  refine wp_seq (rg_c FF MM [] 9 [] [] (fun b1 => fun _ _ FF1 MM1 => then_n ?_))
  refine wp_seq (rg_c FF1 MM1 [(1, t_ (iW (c / 4))), (1, t_ (iW (d % 4 * 4611686018427387904))), (0, t_ (iW (c / 4 + d % 4 * 4611686018427387904))), (1, t_ (.tuple #[iW ((5 * (c / 4 + d % 4 * 4611686018427387904) + a + 0) / 18446744073709551616), iW ((5 * (c / 4 + d % 4 * 4611686018427387904) + a + 0) % 18446744073709551616)])), (3, t_ (iW ((5 * (c / 4 + d % 4 * 4611686018427387904) + a) / 18446744073709551616))), (0, t_ (iW ((5 * (c / 4 + d % 4 * 4611686018427387904) + a) % 18446744073709551616)))] 9 [9] [] (⟨by decide, rfl, (vI (by omega)), (by have := hc; omega), (by have := hd; omega), (vI (or_shl 62 (by omega))), (callP_of ent31 (mulAdd_any _ _ _ _ (by decide) (by have := hc; have := hd; omega) (by have := ha; omega) (by decide)) _), (vI (by rw [Nat.add_zero])), (vI (by rw [Nat.add_zero])), fun _ _ FF2 MM2 => then_n ?_⟩))
  refine wp_seq (rg_c FF2 MM2 [(1, t_ (iW (d / 4))), (2, t_ (.tuple #[iW ((5 * (d / 4) + b + ((5 * (c / 4 + d % 4 * 4611686018427387904) + a) / 18446744073709551616)) / 18446744073709551616), iW ((5 * (d / 4) + b + ((5 * (c / 4 + d % 4 * 4611686018427387904) + a) / 18446744073709551616)) % 18446744073709551616)]))] 9 [9] [] (⟨by decide, rfl, (callP_of ent31 (mulAdd_any _ _ _ _ (by decide) (by have := hd; omega) (by have := hb; omega) (by have := ha; omega)) _), fun _ _ FF3 MM3 => then_n ?_⟩))
  refine wp_seq (rg_c FF3 MM3 [(3, t_ (iW (c % 4))), (1, w_ 1), (0, t_ (.agg (w3 (foldN (a + b * 18446744073709551616 + c * 340282366920938463463374607431768211456 + d * 6277101735386680763835789423207666416102355444464034512896))))), (0, b_ 0)] 9 [9] [] (⟨(by have := hc; omega), by decide, (vI (and_low 2 _)), by omega, (Eq.trans (show _ = some (#[iW ((5 * (c / 4 + d % 4 * 4611686018427387904) + a) % 18446744073709551616), iW ((5 * (d / 4) + b + ((5 * (c / 4 + d % 4 * 4611686018427387904) + a) / 18446744073709551616)) % 18446744073709551616), iW ((c % 4) + ((5 * (d / 4) + b + ((5 * (c / 4 + d % 4 * 4611686018427387904) + a) / 18446744073709551616)) / 18446744073709551616))] : Array Value) by kernel_rfl) (congrArg some (Value.agg.inj (w3_of (fold_words a b c d ha hb hc hd))))), rfl, rfl, rfl, (by kernel_rfl), rfl, fun _ _ FF4 MM4 => then_n ?_⟩))
  refine wp_ret ?_
  repeat first | refine then_ret ?_ | refine inb_ret ?_
  exact (retc FF4 MM4 (k := 3) (i := 0) (j := 3) Try.results91 rfl rfl Try.underlying148 rfl (by kernel_rfl) rfl ⟨rfl, MM4.below⟩)
set_option maxRecDepth 100000 in
theorem times_any (x r0 r1 : Nat) (hx : x < 2381976568446569244243622252022377480192) (h0 : r0 < 1152921504606846976) (h1 : r1 < 1152921504606846976) (w0 : World) :
    Calls Try.prog 77 #[.agg (w3 x), .agg #[iW r0, iW r1]] w0 fun e w' => e = .returned (.agg (w3 (foldN (x * (r0 + r1 * 18446744073709551616))))) ∧ Below w0.heap.size w0 w' := by
  refine enter_fr Try.func77 rfl Try.ntmps77 (by simp) fun ac (FF : Fr 63 ac [(0, .agg (w3 x)), (1, aG #[iW r0, iW r1])]) => ?_
  have MM := MemS.start w0
  obtain ⟨x0, hx0⟩ : ∃ z, x % 18446744073709551616 = z := ⟨_, rfl⟩
  obtain ⟨x1, hx1⟩ : ∃ z, x / 18446744073709551616 % 18446744073709551616 = z := ⟨_, rfl⟩
  obtain ⟨x2, hx2⟩ : ∃ z, x / 340282366920938463463374607431768211456 % 18446744073709551616 = z := ⟨_, rfl⟩
  have b0 : x0 < 18446744073709551616 := by omega
  have b1 : x1 < 18446744073709551616 := by omega
  have b2 : x2 ≤ 6 := by omega
  have ex : x = x0 + x1 * 18446744073709551616 + x2 * 340282366920938463463374607431768211456 := by
    have e : x / 340282366920938463463374607431768211456 = x / 18446744073709551616 / 18446744073709551616 := by rw [Nat.div_div_eq_div_mul]
    omega
  have eW : w3 x = #[iW x0, iW x1, iW x2] := by simp only [w3, hx0, hx1, hx2]
  rw [eW] at FF
  clear eW hx0 hx1 hx2
  have q00 : r0 * x0 ≤ 21267647932558653966460912964485513216 := Nat.le_trans (Nat.mul_le_mul (Nat.le_of_lt h0) (Nat.le_of_lt b0)) (by decide)
  have q01 : r0 * x1 ≤ 21267647932558653966460912964485513216 := Nat.le_trans (Nat.mul_le_mul (Nat.le_of_lt h0) (Nat.le_of_lt b1)) (by decide)
  have q02 : r0 * x2 ≤ 6917529027641081856 := Nat.le_trans (Nat.mul_le_mul (Nat.le_of_lt h0) b2) (by decide)
  have q10 : r1 * x0 ≤ 21267647932558653966460912964485513216 := Nat.le_trans (Nat.mul_le_mul (Nat.le_of_lt h1) (Nat.le_of_lt b0)) (by decide)
  have q11 : r1 * x1 ≤ 21267647932558653966460912964485513216 := Nat.le_trans (Nat.mul_le_mul (Nat.le_of_lt h1) (Nat.le_of_lt b1)) (by decide)
  have q12 : r1 * x2 ≤ 6917529027641081856 := Nat.le_trans (Nat.mul_le_mul (Nat.le_of_lt h1) b2) (by decide)
  obtain ⟨t1, t2, t3⟩ := times_words (r0 * x0) (r0 * x1) (r0 * x2) (r1 * x0) (r1 * x1) (r1 * x2) q00 q01 q10 q11 q02 q12
  refine wp_seq (rg_c FF MM [] 5 [] [0, 1] (fun b1 => fun b2 => fun b3 => fun _ _ FF1 MM1 => then_n ?_))
  refine wp_seq (rg_c FF1 MM1 [(1, l_ 1 (iW r0)), (1, l_ 2 (iW x0)), (0, t_ (.tuple #[iW ((r0 * x0 + 0 + 0) / 18446744073709551616), iW ((r0 * x0 + 0 + 0) % 18446744073709551616)])), (3, t_ (iW (r0 * x0 / 18446744073709551616))), (0, t_ (iW (r0 * x0 % 18446744073709551616)))] 7 [] [] (⟨rfl, rfl, rfl, rfl, (callP_of ent31 (mulAdd_any _ _ _ _ (by have := h0; omega) (by have := b0; omega) (by decide) (by decide)) _), (vI (by simp only [Nat.add_zero])), (vI (by simp only [Nat.add_zero])), fun _ _ FF2 MM2 => then_n ?_⟩))
  refine wp_seq (rg_c FF2 MM2 [(1, l_ 1 (iW r0)), (1, l_ 2 (iW x1)), (1, t_ (.tuple #[iW ((r0 * x1 + (r0 * x0 / 18446744073709551616) + 0) / 18446744073709551616), iW ((r0 * x1 + (r0 * x0 / 18446744073709551616) + 0) % 18446744073709551616)])), (3, t_ (iW ((r0 * x1 + r0 * x0 / 18446744073709551616) / 18446744073709551616))), (0, t_ (iW ((r0 * x1 + r0 * x0 / 18446744073709551616) % 18446744073709551616)))] 8 [] [] (⟨rfl, rfl, rfl, rfl, (callP_of ent31 (mulAdd_any _ _ _ _ (by have := h0; omega) (by have := b1; omega) (by have := q00; omega) (by decide)) _), (vI (by simp only [Nat.add_zero])), (vI (by simp only [Nat.add_zero])), fun _ _ FF3 MM3 => then_n ?_⟩))
  refine wp_seq (rg_c FF3 MM3 [(1, l_ 1 (iW r0)), (1, l_ 2 (iW x2)), (0, w_ 1), (1, w_ 1)] 9 [] [] (⟨rfl, rfl, rfl, rfl, by omega, by omega, fun _ _ FF4 MM4 => then_n ?_⟩))
  refine wp_seq (rg_c FF4 MM4 [(1, l_ 1 (iW r1)), (1, l_ 2 (iW x0)), (1, t_ (.tuple #[iW ((r1 * x0 + ((r0 * x1 + r0 * x0 / 18446744073709551616) % 18446744073709551616) + 0) / 18446744073709551616), iW ((r1 * x0 + ((r0 * x1 + r0 * x0 / 18446744073709551616) % 18446744073709551616) + 0) % 18446744073709551616)])), (3, t_ (iW ((r1 * x0 + (r0 * x1 + r0 * x0 / 18446744073709551616) % 18446744073709551616) / 18446744073709551616))), (0, t_ (iW ((r1 * x0 + (r0 * x1 + r0 * x0 / 18446744073709551616) % 18446744073709551616) % 18446744073709551616)))] 9 [] [] (⟨rfl, rfl, rfl, rfl, (callP_of ent31 (mulAdd_any _ _ _ _ (by have := h1; omega) (by have := b0; omega) (by omega) (by decide)) _), (vI (by simp only [Nat.add_zero])), (vI (by simp only [Nat.add_zero])), fun _ _ FF5 MM5 => then_n ?_⟩))
  refine wp_seq (rg_c FF5 MM5 [(1, l_ 1 (iW r1)), (1, l_ 2 (iW x1)), (2, t_ (.tuple #[iW ((r1 * x1 + ((r0 * x2) + ((r0 * x1 + r0 * x0 / 18446744073709551616) / 18446744073709551616)) + ((r1 * x0 + (r0 * x1 + r0 * x0 / 18446744073709551616) % 18446744073709551616) / 18446744073709551616)) / 18446744073709551616), iW ((r1 * x1 + ((r0 * x2) + ((r0 * x1 + r0 * x0 / 18446744073709551616) / 18446744073709551616)) + ((r1 * x0 + (r0 * x1 + r0 * x0 / 18446744073709551616) % 18446744073709551616) / 18446744073709551616)) % 18446744073709551616)]))] 9 [] [] (⟨rfl, rfl, rfl, rfl, (callP_of ent31 (mulAdd_any _ _ _ _ (by have := h1; omega) (by have := b1; omega) (by have := h0; have := b2; have := q00; have := q01; omega) (by have := q10; omega)) _), fun _ _ FF6 MM6 => then_n ?_⟩))
  refine wp_seq (rg_c FF6 MM6 [(4, l_ 1 (iW r1)), (1, l_ 2 (iW x2)), (0, w_ 1), (1, w_ 1), (0, t_ (.agg (w3 (foldN (x * (r0 + r1 * 18446744073709551616)))))), (0, b_ 0)] 9 [] [6] (⟨rfl, rfl, rfl, rfl, by omega, by omega, (by have e : x * (r0 + r1 * 18446744073709551616) = r0 * x0 + (r0 * x1 + r1 * x0) * 18446744073709551616 + (r0 * x2 + r1 * x1) * 340282366920938463463374607431768211456 + r1 * x2 * 6277101735386680763835789423207666416102355444464034512896 := (by rw [ex]; grind); rw [e, ← t3]; exact callP_of ent32 (fold_any _ _ _ _ (Nat.mod_lt _ (by decide)) (Nat.mod_lt _ (by decide)) (Nat.mod_lt _ (by decide)) t2) _), rfl, rfl, rfl, (by kernel_rfl), rfl, fun _ _ FF7 MM7 => then_n ?_⟩))
  refine wp_ret ?_
  repeat first | refine then_ret ?_ | refine inb_ret ?_
  exact (retc FF7 MM7 (k := 3) (i := 0) (j := 3) Try.results77 rfl rfl Try.underlying148 rfl (by kernel_rfl) rfl ⟨rfl, MM7.below⟩)
end Go.Proofs.Ytniplfjnpjihoaa
namespace Go.Proofs.Ytniplfjnpjihoaa
open Go.RowKit
theorem w3_hi {x : Nat} (h1 : 1361129467683753853853498429727072845819 ≤ x) (h2 : x < 2722258935367507707706996859454145691638) : (w3 (x + 5)).setIfInBounds 2 (iW ((x + 5) / 340282366920938463463374607431768211456 % 18446744073709551616 % 4)) = w3 (x - 1361129467683753853853498429727072845819) := by
  have e : ∀ n : Nat, n / 340282366920938463463374607431768211456 = n / 18446744073709551616 / 18446744073709551616 := fun n => by rw [Nat.div_div_eq_div_mul]
  show (#[iW ((x + 5) % 18446744073709551616), iW ((x + 5) / 18446744073709551616 % 18446744073709551616), iW ((x + 5) / 340282366920938463463374607431768211456 % 18446744073709551616 % 4)] : Array Value) = w3 (x - 1361129467683753853853498429727072845819)
  unfold w3
  rw [show (x + 5) % 18446744073709551616 = (x - 1361129467683753853853498429727072845819) % 18446744073709551616 by omega, show (x + 5) / 18446744073709551616 % 18446744073709551616 = (x - 1361129467683753853853498429727072845819) / 18446744073709551616 % 18446744073709551616 by omega, show (x + 5) / 340282366920938463463374607431768211456 % 18446744073709551616 % 4 = (x - 1361129467683753853853498429727072845819) / 340282366920938463463374607431768211456 % 18446744073709551616 by rw [e, e]; omega]
set_option maxRecDepth 100000 in
theorem choose0_any (m n : Nat) (w0 : World) :
    Calls Try.prog 93 #[iW 0, .agg (w3 m), .agg (w3 n)] w0 fun e w' => e = .returned (.agg (w3 m)) ∧ Below w0.heap.size w0 w' := by
  refine enter_fr Try.func93 rfl Try.ntmps93 (by simp) fun ac (FF : Fr 41 ac [(0, iW 0), (1, .agg (w3 m)), (2, .agg (w3 n))]) => ?_
  have MM := MemS.start w0
  refine wp_seq (rg_c FF MM [] 7 [] [1, 2] (fun b1 => fun b2 => fun b3 => fun _ _ FF1 MM1 => then_n ?_))
  refine wp_seq (rg_c FF1 MM1 [(1, l_ 2 (iW (m % 18446744073709551616))), (2, l_ 2 (iW (m % 18446744073709551616))), (1, l_ 1 (iW (n % 18446744073709551616))), (2, t_ (iW (m % 18446744073709551616))), (1, s_ 2 (oC #[iW (m % 18446744073709551616), iW (m / 18446744073709551616 % 18446744073709551616), iW (m / 340282366920938463463374607431768211456 % 18446744073709551616)] 148))] 7 [] [] (⟨rfl, rfl, rfl, rfl, rfl, rfl, (Nat.mod_lt _ (by decide)), (Nat.mod_lt _ (by decide)), by decide, (xor64 (Nat.mod_lt _ (by decide)) (Nat.mod_lt _ (by decide))), (Nat.mod_lt _ (by decide)), (and64 (by decide)), (vI (ch0 _ _)), rfl, (by simp [w3]), (.inl rfl), rfl, fun _ _ FF2 MM2 => then_n ?_⟩))
  refine wp_seq (rg_c FF2 MM2 [(1, l_ 2 (iW (m / 18446744073709551616 % 18446744073709551616))), (2, l_ 2 (iW (m / 18446744073709551616 % 18446744073709551616))), (1, l_ 1 (iW (n / 18446744073709551616 % 18446744073709551616))), (2, t_ (iW (m / 18446744073709551616 % 18446744073709551616))), (1, s_ 2 (oC #[iW (m % 18446744073709551616), iW (m / 18446744073709551616 % 18446744073709551616), iW (m / 340282366920938463463374607431768211456 % 18446744073709551616)] 148))] 7 [] [] (⟨rfl, rfl, rfl, rfl, rfl, rfl, (Nat.mod_lt _ (by decide)), (Nat.mod_lt _ (by decide)), by decide, (xor64 (Nat.mod_lt _ (by decide)) (Nat.mod_lt _ (by decide))), (Nat.mod_lt _ (by decide)), (and64 (by decide)), (vI (ch0 _ _)), rfl, (by simp), (.inl rfl), rfl, fun _ _ FF3 MM3 => then_n ?_⟩))
  refine wp_seq (rg_c FF3 MM3 [(1, l_ 2 (iW (m / 340282366920938463463374607431768211456 % 18446744073709551616))), (2, l_ 2 (iW (m / 340282366920938463463374607431768211456 % 18446744073709551616))), (1, l_ 1 (iW (n / 340282366920938463463374607431768211456 % 18446744073709551616))), (2, t_ (iW (m / 340282366920938463463374607431768211456 % 18446744073709551616))), (1, s_ 2 (oC #[iW (m % 18446744073709551616), iW (m / 18446744073709551616 % 18446744073709551616), iW (m / 340282366920938463463374607431768211456 % 18446744073709551616)] 148))] 7 [] [] (⟨rfl, rfl, rfl, rfl, rfl, rfl, (Nat.mod_lt _ (by decide)), (Nat.mod_lt _ (by decide)), by decide, (xor64 (Nat.mod_lt _ (by decide)) (Nat.mod_lt _ (by decide))), (Nat.mod_lt _ (by decide)), (and64 (by decide)), (vI (ch0 _ _)), rfl, (by simp), (.inl rfl), rfl, fun _ _ FF4 MM4 => then_n ?_⟩))
  refine wp_seq (rg_c FF4 MM4 [(0, b_ 2), (0, b_ 0)] 7 [] [] (⟨rfl, rfl, rfl, rfl, rfl, (by kernel_rfl), rfl, fun _ _ FF5 MM5 => then_n ?_⟩))
  refine wp_ret ?_
  repeat first | refine then_ret ?_ | refine inb_ret ?_
  exact (retc FF5 MM5 (k := 3) (i := 0) (j := 0) Try.results93 rfl rfl Try.underlying148 rfl (by kernel_rfl) rfl ⟨rfl, MM5.below⟩)
set_option maxRecDepth 100000 in
theorem choose1_any (m n : Nat) (w0 : World) :
    Calls Try.prog 93 #[iW 18446744073709551615, .agg (w3 m), .agg (w3 n)] w0 fun e w' => e = .returned (.agg (w3 n)) ∧ Below w0.heap.size w0 w' := by
  refine enter_fr Try.func93 rfl Try.ntmps93 (by simp) fun ac (FF : Fr 41 ac [(0, iW 18446744073709551615), (1, .agg (w3 m)), (2, .agg (w3 n))]) => ?_
  have MM := MemS.start w0
  refine wp_seq (rg_c FF MM [] 7 [] [1, 2] (fun b1 => fun b2 => fun b3 => fun _ _ FF1 MM1 => then_n ?_))
  refine wp_seq (rg_c FF1 MM1 [(1, l_ 2 (iW (m % 18446744073709551616))), (2, l_ 2 (iW (m % 18446744073709551616))), (1, l_ 1 (iW (n % 18446744073709551616))), (2, t_ (iW (n % 18446744073709551616))), (1, s_ 2 (oC #[iW (n % 18446744073709551616), iW (m / 18446744073709551616 % 18446744073709551616), iW (m / 340282366920938463463374607431768211456 % 18446744073709551616)] 148))] 7 [] [] (⟨rfl, rfl, rfl, rfl, rfl, rfl, (Nat.mod_lt _ (by decide)), (Nat.mod_lt _ (by decide)), by decide, (xor64 (Nat.mod_lt _ (by decide)) (Nat.mod_lt _ (by decide))), (Nat.mod_lt _ (by decide)), (and64 (by decide)), (vI (ch1 (Nat.mod_lt _ (by decide)) (Nat.mod_lt _ (by decide)))), rfl, (by simp [w3]), (.inl rfl), rfl, fun _ _ FF2 MM2 => then_n ?_⟩))
  refine wp_seq (rg_c FF2 MM2 [(1, l_ 2 (iW (m / 18446744073709551616 % 18446744073709551616))), (2, l_ 2 (iW (m / 18446744073709551616 % 18446744073709551616))), (1, l_ 1 (iW (n / 18446744073709551616 % 18446744073709551616))), (2, t_ (iW (n / 18446744073709551616 % 18446744073709551616))), (1, s_ 2 (oC #[iW (n % 18446744073709551616), iW (n / 18446744073709551616 % 18446744073709551616), iW (m / 340282366920938463463374607431768211456 % 18446744073709551616)] 148))] 7 [] [] (⟨rfl, rfl, rfl, rfl, rfl, rfl, (Nat.mod_lt _ (by decide)), (Nat.mod_lt _ (by decide)), by decide, (xor64 (Nat.mod_lt _ (by decide)) (Nat.mod_lt _ (by decide))), (Nat.mod_lt _ (by decide)), (and64 (by decide)), (vI (ch1 (Nat.mod_lt _ (by decide)) (Nat.mod_lt _ (by decide)))), rfl, (by simp), (.inl rfl), rfl, fun _ _ FF3 MM3 => then_n ?_⟩))
  refine wp_seq (rg_c FF3 MM3 [(1, l_ 2 (iW (m / 340282366920938463463374607431768211456 % 18446744073709551616))), (2, l_ 2 (iW (m / 340282366920938463463374607431768211456 % 18446744073709551616))), (1, l_ 1 (iW (n / 340282366920938463463374607431768211456 % 18446744073709551616))), (2, t_ (iW (n / 340282366920938463463374607431768211456 % 18446744073709551616))), (1, s_ 2 (oC #[iW (n % 18446744073709551616), iW (n / 18446744073709551616 % 18446744073709551616), iW (n / 340282366920938463463374607431768211456 % 18446744073709551616)] 148))] 7 [] [] (⟨rfl, rfl, rfl, rfl, rfl, rfl, (Nat.mod_lt _ (by decide)), (Nat.mod_lt _ (by decide)), by decide, (xor64 (Nat.mod_lt _ (by decide)) (Nat.mod_lt _ (by decide))), (Nat.mod_lt _ (by decide)), (and64 (by decide)), (vI (ch1 (Nat.mod_lt _ (by decide)) (Nat.mod_lt _ (by decide)))), rfl, (by simp), (.inl rfl), rfl, fun _ _ FF4 MM4 => then_n ?_⟩))
  refine wp_seq (rg_c FF4 MM4 [(0, b_ 2), (0, b_ 0)] 7 [] [] (⟨rfl, rfl, rfl, rfl, rfl, (by kernel_rfl), rfl, fun _ _ FF5 MM5 => then_n ?_⟩))
  refine wp_ret ?_
  repeat first | refine then_ret ?_ | refine inb_ret ?_
  exact (retc FF5 MM5 (k := 3) (i := 0) (j := 0) Try.results93 rfl rfl Try.underlying148 rfl (by kernel_rfl) rfl ⟨rfl, MM5.below⟩)
theorem choose0r_any (m n : Nat) (w0 : World) : Calls Try.prog 93 #[iW 0, .agg (w3 m), .agg ((w3 n).setIfInBounds 2 (iW (n / 340282366920938463463374607431768211456 % 18446744073709551616 % 4)))] w0 fun e w' => e = .returned (.agg (w3 m)) ∧ Below w0.heap.size w0 w' := by
  have e : ∃ k, (w3 n).setIfInBounds 2 (iW (n / 340282366920938463463374607431768211456 % 18446744073709551616 % 4)) = w3 k := by
    refine ⟨n % 340282366920938463463374607431768211456 + n / 340282366920938463463374607431768211456 % 18446744073709551616 % 4 * 340282366920938463463374607431768211456, ?_⟩
    show (#[iW (n % 18446744073709551616), iW (n / 18446744073709551616 % 18446744073709551616), iW (n / 340282366920938463463374607431768211456 % 18446744073709551616 % 4)] : Array Value) = _
    unfold w3
    have e : ∀ n : Nat, n / 340282366920938463463374607431768211456 = n / 18446744073709551616 / 18446744073709551616 := fun n => by rw [Nat.div_div_eq_div_mul]
    generalize hk : n % 340282366920938463463374607431768211456 + n / 340282366920938463463374607431768211456 % 18446744073709551616 % 4 * 340282366920938463463374607431768211456 = k
    rw [show n % 18446744073709551616 = k % 18446744073709551616 by omega, show n / 18446744073709551616 % 18446744073709551616 = k / 18446744073709551616 % 18446744073709551616 by omega, show n / 340282366920938463463374607431768211456 % 18446744073709551616 % 4 = k / 340282366920938463463374607431768211456 % 18446744073709551616 by omega]
  obtain ⟨k, hk⟩ := e
  rw [hk]
  exact choose0_any m k w0
set_option maxRecDepth 100000 in
theorem settle0_any (x : Nat) (h1 : x < 1361129467683753853853498429727072845819) (w0 : World) :
    Calls Try.prog 81 #[.agg (w3 x)] w0 fun e w' => e = .returned (.agg (w3 x)) ∧ Below w0.heap.size w0 w' := by
  refine enter_fr Try.func81 rfl Try.ntmps81 (by simp) fun ac (FF : Fr 20 ac [(0, .agg (w3 x))]) => ?_
  have MM := MemS.start w0
  have e : (x + 5) / 340282366920938463463374607431768211456 = (x + 5) / 18446744073709551616 / 18446744073709551616 := by rw [Nat.div_div_eq_div_mul]
  refine wp_seq (rg_c FF MM [] 3 [] [0] (fun b1 => fun b2 => fun _ _ FF1 MM1 => then_n ?_))
  refine wp_seq (rg_c FF1 MM1 [(0, b_ 1), (0, t_ (.agg (w3 5))), (0, t_ (.agg (w3 (x + 5)))), (1, b_ 0)] 4 [] [] (⟨rfl, rfl, (Eq.trans (show _ = some (#[iW 5, iW 0, iW 0] : Array Value) by kernel_rfl) (congrArg some (Value.agg.inj rfl))), (callP_of ent21 (plus_any _ _) _), fun b3 => ⟨rfl, rfl, rfl, (by kernel_rfl), rfl, fun _ _ FF2 MM2 => then_n ?_⟩⟩))
  refine wp_seq (rg_c FF2 MM2 [(1, l_ 0 (iW ((x + 5) / 340282366920938463463374607431768211456 % 18446744073709551616))), (0, t_ (iW 0))] 5 [] [] (⟨rfl, rfl, by decide, (vI (by omega)), fun _ _ FF3 MM3 => then_n ?_⟩))
  refine wp_seq (rg_c FF3 MM3 [(1, l_ 0 (iW ((x + 5) / 340282366920938463463374607431768211456 % 18446744073709551616))), (0, t_ (iW (((x + 5) / 340282366920938463463374607431768211456 % 18446744073709551616) % 4))), (1, s_ 0 (.cells ((w3 (x + 5)).setIfInBounds 2 (iW ((x + 5) / 340282366920938463463374607431768211456 % 18446744073709551616 % 4))) 148))] 5 [] [] (⟨rfl, rfl, by omega, by decide, (vI (and_low 2 _)), rfl, (by simp [w3]), (.inl rfl), rfl, fun _ _ FF4 MM4 => then_n ?_⟩))
  refine wp_seq (rg_c FF4 MM4 [(1, t_ (iW 0)), (0, b_ 2), (0, b_ 0), (0, t_ (.agg (w3 x))), (0, b_ 1)] 4 [] [] (⟨by decide, rfl, rfl, rfl, rfl, (by simp [w3]), (callP_of ent34 (choose0r_any _ _) _), rfl, rfl, rfl, (by kernel_rfl), rfl, fun _ _ FF5 MM5 => then_n ?_⟩))
  refine wp_ret ?_
  repeat first | refine then_ret ?_ | refine inb_ret ?_
  exact (retc FF5 MM5 (k := 3) (i := 1) (j := 1) Try.results81 rfl rfl Try.underlying148 rfl (by kernel_rfl) rfl ⟨rfl, MM5.below⟩)
set_option maxRecDepth 100000 in
theorem settle1_any (x : Nat) (h1 : 1361129467683753853853498429727072845819 ≤ x) (h2 : x < 2722258935367507707706996859454145691638) (w0 : World) :
    Calls Try.prog 81 #[.agg (w3 x)] w0 fun e w' => e = .returned (.agg (w3 (x - 1361129467683753853853498429727072845819))) ∧ Below w0.heap.size w0 w' := by
  refine enter_fr Try.func81 rfl Try.ntmps81 (by simp) fun ac (FF : Fr 20 ac [(0, .agg (w3 x))]) => ?_
  have MM := MemS.start w0
  have e : (x + 5) / 340282366920938463463374607431768211456 = (x + 5) / 18446744073709551616 / 18446744073709551616 := by rw [Nat.div_div_eq_div_mul]
  refine wp_seq (rg_c FF MM [] 3 [] [0] (fun b1 => fun b2 => fun _ _ FF1 MM1 => then_n ?_))
  refine wp_seq (rg_c FF1 MM1 [(0, b_ 1), (0, t_ (.agg (w3 5))), (0, t_ (.agg (w3 (x + 5)))), (1, b_ 0)] 4 [] [] (⟨rfl, rfl, (Eq.trans (show _ = some (#[iW 5, iW 0, iW 0] : Array Value) by kernel_rfl) (congrArg some (Value.agg.inj rfl))), (callP_of ent21 (plus_any _ _) _), fun b3 => ⟨rfl, rfl, rfl, (by kernel_rfl), rfl, fun _ _ FF2 MM2 => then_n ?_⟩⟩))
  refine wp_seq (rg_c FF2 MM2 [(1, l_ 0 (iW ((x + 5) / 340282366920938463463374607431768211456 % 18446744073709551616))), (0, t_ (iW 1))] 5 [] [] (⟨rfl, rfl, by decide, (vI (by omega)), fun _ _ FF3 MM3 => then_n ?_⟩))
  refine wp_seq (rg_c FF3 MM3 [(1, l_ 0 (iW ((x + 5) / 340282366920938463463374607431768211456 % 18446744073709551616))), (0, t_ (iW (((x + 5) / 340282366920938463463374607431768211456 % 18446744073709551616) % 4))), (1, s_ 0 (.cells (w3 (x - 1361129467683753853853498429727072845819)) 148))] 5 [] [] (⟨rfl, rfl, by omega, by decide, (vI (and_low 2 _)), rfl, (by simp [w3]), (.inl rfl), (w3_hi h1 h2), fun _ _ FF4 MM4 => then_n ?_⟩))
  refine wp_seq (rg_c FF4 MM4 [(1, t_ (iW 18446744073709551615)), (0, b_ 2), (0, b_ 0), (0, t_ (.agg (w3 (x - 1361129467683753853853498429727072845819)))), (0, b_ 1)] 4 [] [] (⟨by decide, rfl, rfl, rfl, rfl, rfl, (callP_of ent34 (choose1_any _ _) _), rfl, rfl, rfl, (by kernel_rfl), rfl, fun _ _ FF5 MM5 => then_n ?_⟩))
  refine wp_ret ?_
  repeat first | refine then_ret ?_ | refine inb_ret ?_
  exact (retc FF5 MM5 (k := 3) (i := 1) (j := 1) Try.results81 rfl rfl Try.underlying148 rfl (by kernel_rfl) rfl ⟨rfl, MM5.below⟩)
theorem settle_any (x : Nat) (h : x < 2722258935367507707706996859454145691638) (w0 : World) : Calls Try.prog 81 #[.agg (w3 x)] w0 fun e w' => e = .returned (.agg (w3 (x % 1361129467683753853853498429727072845819))) ∧ Below w0.heap.size w0 w' := by
  by_cases h1 : x < 1361129467683753853853498429727072845819
  · rw [Nat.mod_eq_of_lt h1]; exact settle0_any x h1 w0
  · rw [show x % 1361129467683753853853498429727072845819 = x - 1361129467683753853853498429727072845819 by omega]; exact settle1_any x (by omega) h w0
set_option maxRecDepth 100000 in
theorem tag_any (n : Nat) (w0 : World) :
    Calls Try.prog 80 #[.agg (w3 n)] w0 fun e w' => e = .returned (.agg (cn .u8 (tagTo n 8))) ∧ Below w0.heap.size w0 w' := by
  refine enter_fr Try.func80 rfl Try.ntmps80 (by simp) fun ac (FF : Fr 27 ac [(0, .agg (w3 n))]) => ?_
  have MM := MemS.start w0
  refine wp_seq (rg_c FF MM [(1, s_ 0 (.cells (cn .u8 (List.replicate 16 0)) 109))] 3 [] [0] (fun b1 => ⟨(by kernel_rfl), fun b2 => fun _ _ FF1 MM1 => then_n ?_⟩))
  refine wp_seq (rg_c FF1 MM1 [(0, s_ 0 (.cells (cn .u8 (List.replicate 16 0)) 109))] 4 [] [] (⟨(by kernel_rfl), fun b3 => fun _ _ FF2 MM2 => then_n ?_⟩))
  rw [tagTo_zero n] at MM2
  refine wp_seq ?_
  refine wp_seq (rg_c FF2 MM2 [] 6 [] [] (fun _ _ FF3 MM3 => then_n ?_))
  refine wp_for (fun a' w' => ∃ i : Nat, i ≤ 8 ∧ Fr 27 a' [(5, iN i), (3, pT b3), (2, pT b2), (1, pT b1)] ∧ MemS (fun k => k < w0.heap.size) w0 w' [(b3, .cells (cn .u8 (tagTo n i)) 109), (b2, .cells (cn .u8 (List.replicate 16 0)) 109), (b1, .cells (w3 n) 148)] []) (fun a' _ => (8 - cnt 5 a').toNat) ⟨0, by omega, FF3.pick [0, 1, 2, 3], MM3⟩ ?_
  rintro ac4 wd4 ⟨i, hi, FF4, MM4⟩
  have hc := cnt_of (FF4.get 0 rfl)
  refine rg_c FF4 MM4 [] 7 [] [] (fun _ _ FF5 MM5 => ?_)
  by_cases hlt : i < 8
  · skip
    refine then_n (.inl ⟨(FF5.ev 0 rfl).trans (dec_t hlt), ?_⟩)
    refine wp_seq (rg_c FF5 MM5 [] 6 [] [] (fun _ _ FF6 MM6 => then_n ?_))
    refine wp_seq (rg_c FF6 MM6 [(2, l_ 2 (iW (n % 18446744073709551616))), (4, w_ 1), (0, s_ 0 (.cells (cn .u8 ((tagTo n i).set i (((n % 18446744073709551616) / (2 ^ (8 * i))) % 256))) 109))] 6 [] [] (⟨rfl, rfl, by omega, (by show _ ≤ 64; omega), by omega, rfl, (by rw [cn_size, (tagTo_len n i)]; omega), (.inl rfl), (cn_set _ _ _ _), fun _ _ FF7 MM7 => then_n ?_⟩))
    refine rg_c FF7 MM7 [(3, l_ 2 (iW (n / 18446744073709551616 % 18446744073709551616))), (4, w_ 1), (0, s_ 0 (.cells (cn .u8 (tagTo n (i + 1))) 109))] 6 [] [] (⟨by omega, rfl, rfl, by omega, (by show _ ≤ 64; omega), by omega, rfl, (by rw [cn_size, (len_set (tagTo_len n i))]; omega), (.inl rfl), ((cn_set _ _ _ _).trans (congrArg _ (tagTo_step n i hlt))), fun _ _ FF8 MM8 => ?_⟩)
    refine inb_n (then_n ?_)
    refine rg_c FF8 MM8 [] 6 [] [] (⟨by omega, fun _ _ FF9 MM9 => ?_⟩)
    have hc2 := cnt_of (FF9.get 0 rfl)
    refine then_n ⟨⟨i + 1, by omega, FF9.pick [0, 2, 3, 4], MM9⟩, ?_⟩
    rw [hc, hc2]; omega
  · skip
    refine then_n (.inr ⟨(FF5.ev 0 rfl).trans (dec_f hlt), ?_⟩)
    obtain rfl : i = 8 := by omega
    refine then_n ?_
    refine wp_seq (rg_c FF5 MM5 [(0, b_ 0), (0, b_ 1)] 6 [] [] (⟨rfl, ((cn_size _ _).trans (tagTo_len n 8)), rfl, ((cn_size _ _).trans (List.length_replicate ..)), ((cn_size _ _).trans (tagTo_len n 8)), (cn_one _ _), rfl, fun _ _ FF10 MM10 => then_n ?_⟩))
    refine wp_ret ?_
    repeat first | refine then_ret ?_ | refine inb_ret ?_
    exact (retc FF10 MM10 (k := 16) (i := 1) (j := 2) Try.results80 rfl rfl Try.underlying109 rfl (by kernel_rfl) ((cn_size _ _).trans (tagTo_len n 8)) ⟨rfl, MM10.below⟩)
end Go.Proofs.Ytniplfjnpjihoaa
namespace Go.Proofs.Ytniplfjnpjihoaa
open Go.RowKit
/-- A block: its bytes, noughts behind them, how many they are. -/
def blk (R : List Nat) : Array Value := cn .u8 (padR R) ++ (#[iN R.length] : Array Value)
theorem blk_size {R : List Nat} (h : R.length ≤ 16) : (blk R).size = 18 := by simp [blk, cn_size, padR_len h]
theorem fill_cells {R X : List Nat} (h : R.length ≤ 16) : setFrom (blk R) R.length (bcells (X.take (16 - R.length))) = cn .u8 (padR (R ++ X.take (16 - R.length))) ++ (#[iN R.length] : Array Value) := by
  have hz : (X.take (16 - R.length)).length ≤ 16 - R.length := by simp; omega
  rw [blk, setFrom_cat (by rw [padR_len h]; omega)]
  congr 2
  generalize X.take (16 - R.length) = Z at *
  unfold padR
  rw [List.take_append_of_le_length (Nat.le_refl _), List.take_length, List.drop_append, List.drop_eq_nil_of_le (by omega), List.nil_append, List.drop_replicate]
  congr 2
  simp; omega
set_option maxRecDepth 100000 in
theorem factorOf_any (K : List Nat) (hK : Bytes 32 K) (w0 : World) :
    Calls Try.prog 74 #[.agg (cn .u8 K)] w0 fun e w' => e = .returned (.agg #[iW (fac0 K), iW (fac1 K)]) ∧ Below w0.heap.size w0 w' := by
  refine enter_fr Try.func74 rfl Try.ntmps74 (by simp) fun ac (FF : Fr 14 ac [(0, .agg (cn .u8 K))]) => ?_
  have MM := MemS.start w0
  refine wp_seq (rg_c FF MM [(0, s_ 0 (.cells (cn .u8 K) 42))] 3 [] [0] (⟨(by kernel_rfl), fun b1 => fun b2 => fun _ _ FF1 MM1 => then_n ?_⟩))
  refine wp_seq (rg_dc 11 FF1 MM1 [(2, l_ 1 (.agg (cn .u8 ((K.drop 0).take 8)))), (0, t_ (iW (le8 ((K.drop 0).take 8)))), (3, l_ 1 (.agg (cn .u8 ((K.drop 8).take 8)))), (0, t_ (iW (le8 ((K.drop 8).take 8)))), (1, t_ (aG #[iW ((le8 ((K.drop 0).take 8)) &&& 1152921487695413247), iW ((le8 ((K.drop 8).take 8)) &&& 1152921487695413244)]))] [(0, b_ 0)] 0 [2] [] (⟨by decide, by decide, by decide, by decide, rfl, (part_cut hK.len (by decide)), ((cn_size _ _).trans (len_cut hK.len (by decide))), (callP_of ent30 (word_any _ ⟨(len_cut hK.len (by decide)), (cut_lt2 (off := 0) (len := 8) hK.lt)⟩) _), (by have := le8_lt _ (cut_lt2 (off := 0) (len := 8) hK.lt); omega), by decide, by decide, by decide, by decide, by decide, rfl, (part_cut hK.len (by decide)), ((cn_size _ _).trans (len_cut hK.len (by decide))), (callP_of ent30 (word_any _ ⟨(len_cut hK.len (by decide)), (cut_lt2 (off := 8) (len := 8) hK.lt)⟩) _), (by have := le8_lt _ (cut_lt2 (off := 8) (len := 8) hK.lt); omega), by decide, (by kernel_rfl), rfl, rfl, rfl, (by kernel_rfl), rfl, fun _ _ FF2 MM2 => then_n ?_⟩))
  refine wp_ret ?_
  repeat first | refine then_ret ?_ | refine inb_ret ?_
  exact (retc FF2 MM2 (k := 2) (i := 0) (j := 0) Try.results74 rfl rfl Try.underlying145 rfl (by kernel_rfl) rfl ⟨rfl, MM2.below⟩)
set_option maxRecDepth 100000 in
theorem lastHalf_any (K : List Nat) (hK : Bytes 32 K) (w0 : World) :
    Calls Try.prog 75 #[.agg (cn .u8 K)] w0 fun e w' => e = .returned (.agg (w3 (sOf K))) ∧ Below w0.heap.size w0 w' := by
  refine enter_fr Try.func75 rfl Try.ntmps75 (by simp) fun ac (FF : Fr 12 ac [(0, .agg (cn .u8 K))]) => ?_
  have MM := MemS.start w0
  refine wp_seq (rg_c FF MM [(0, s_ 0 (.cells (cn .u8 K) 42))] 3 [] [0] (⟨(by kernel_rfl), fun b1 => fun b2 => fun _ _ FF1 MM1 => then_n ?_⟩))
  refine wp_seq (rg_dc 9 FF1 MM1 [(2, l_ 1 (.agg (cn .u8 ((K.drop 16).take 8)))), (0, t_ (iW (le8 ((K.drop 16).take 8)))), (2, l_ 1 (.agg (cn .u8 ((K.drop 24).take 8)))), (0, t_ (iW (le8 ((K.drop 24).take 8)))), (0, t_ (.agg (w3 (sOf K))))] [(0, b_ 0)] 0 [2] [] (⟨by decide, by decide, by decide, by decide, rfl, (part_cut hK.len (by decide)), ((cn_size _ _).trans (len_cut hK.len (by decide))), (callP_of ent30 (word_any _ ⟨(len_cut hK.len (by decide)), (cut_lt2 (off := 16) (len := 8) hK.lt)⟩) _), by decide, by decide, by decide, by decide, rfl, (part_cut hK.len (by decide)), ((cn_size _ _).trans (len_cut hK.len (by decide))), (callP_of ent30 (word_any _ ⟨(len_cut hK.len (by decide)), (cut_lt2 (off := 24) (len := 8) hK.lt)⟩) _), (Eq.trans (show _ = some (#[iW (le8 ((K.drop 16).take 8)), iW (le8 ((K.drop 24).take 8)), iW 0] : Array Value) by kernel_rfl) (congrArg some (Value.agg.inj (w3_of (by have := (le8_lt _ (cut_lt2 (off := 16) (len := 8) hK.lt)); have := (le8_lt _ (cut_lt2 (off := 24) (len := 8) hK.lt)); unfold sOf; refine ⟨by omega, by omega, by omega⟩))))), rfl, rfl, rfl, (by kernel_rfl), rfl, fun _ _ FF2 MM2 => then_n ?_⟩))
  refine wp_ret ?_
  repeat first | refine then_ret ?_ | refine inb_ret ?_
  exact (retc FF2 MM2 (k := 3) (i := 0) (j := 0) Try.results75 rfl rfl Try.underlying148 rfl (by kernel_rfl) rfl ⟨rfl, MM2.below⟩)
set_option maxRecDepth 100000 in
theorem number_any (R : List Nat) (hR : R.length ≤ 16) (hl : ∀ i, R.getD i 0 < 256) (w0 : World) :
    Calls Try.prog 79 #[.agg (blk R)] w0 fun e w' => e = .returned (.agg (w3 (numR R))) ∧ Below w0.heap.size w0 w' := by
  refine enter_fr Try.func79 rfl Try.ntmps79 (by simp) fun ac (FF : Fr 22 ac [(0, .agg (blk R))]) => ?_
  have MM := MemS.start w0
  refine wp_seq (rg_c FF MM [(0, s_ 0 (.cells (blk R) 152))] 3 [] [0] (⟨(by kernel_rfl), fun b1 => fun b2 => fun _ _ FF1 MM1 => then_n ?_⟩))
  refine wp_seq (rg_c FF1 MM1 [(1, l_ 1 (iN R.length)), (1, w_ 1), (0, s_ 1 (.cells ((cn .u8 ((padR R).set R.length 1)) ++ (#[iN R.length] : Array Value)) 152))] 3 [] [] (⟨rfl, ((cat_r 0 ((cn_size _ _).trans (padR_len hR)) rfl).trans rfl), (by have := hR; omega), rfl, (by rw [show (blk R).size = 18 from (blk_size hR)]; omega), (.inl rfl), ((cat_set_l (by rw [cn_size, (padR_len hR)]; omega)).trans (congrArg (· ++ _) (cn_set _ _ _ _))), fun _ _ FF2 MM2 => then_n ?_⟩))
  refine wp_seq (rg_dc 15 FF2 MM2 [(3, l_ 1 (.agg (cn .u8 ((((padR R).set R.length 1).drop 0).take 8)))), (0, t_ (iW (le8 ((((padR R).set R.length 1).drop 0).take 8)))), (3, l_ 1 (.agg (cn .u8 ((((padR R).set R.length 1).drop 8).take 8)))), (0, t_ (iW (le8 ((((padR R).set R.length 1).drop 8).take 8)))), (1, w_ 1), (0, l_ 1 (iB (((padR R).set R.length 1).getD 16 0))), (0, w_ 1), (0, t_ (.agg (w3 (numR R))))] [(0, b_ 0)] 3 [] [] (⟨by decide, by decide, by decide, by decide, rfl, (part_l (part_cut (len_set (padR_len hR)) (by decide))), ((cn_size _ _).trans (len_cut (len_set (padR_len hR)) (by decide))), (callP_of ent30 (word_any _ ⟨(len_cut (len_set (padR_len hR)) (by decide)), (cut_lt2 (off := 0) (len := 8) (set_lt (j := R.length) (x := 1) (padR_lt hl) (by decide)))⟩) _), by decide, by decide, by decide, by decide, rfl, (part_l (part_cut (len_set (padR_len hR)) (by decide))), ((cn_size _ _).trans (len_cut (len_set (padR_len hR)) (by decide))), (callP_of ent30 (word_any _ ⟨(len_cut (len_set (padR_len hR)) (by decide)), (cut_lt2 (off := 8) (len := 8) (set_lt (j := R.length) (x := 1) (padR_lt hl) (by decide)))⟩) _), by decide, rfl, ((cat_l (by rw [cn_size, (len_set (padR_len hR))]; decide)).trans (cn_get _ _ _ (by rw [(len_set (padR_len hR))]; decide))), (by have := (set_lt (j := R.length) (x := 1) (padR_lt hl) (by decide)) 16; omega), (Eq.trans (show _ = some (#[iW (le8 ((((padR R).set R.length 1).drop 0).take 8)), iW (le8 ((((padR R).set R.length 1).drop 8).take 8)), iW (((padR R).set R.length 1).getD 16 0)] : Array Value) by kernel_rfl) (congrArg some (Value.agg.inj (w3_of (num_words hR hl))))), rfl, rfl, rfl, (by kernel_rfl), rfl, fun _ _ FF3 MM3 => then_n ?_⟩))
  refine wp_ret ?_
  repeat first | refine then_ret ?_ | refine inb_ret ?_
  exact (retc FF3 MM3 (k := 3) (i := 0) (j := 0) Try.results79 rfl rfl Try.underlying148 rfl (by kernel_rfl) rfl ⟨rfl, MM3.below⟩)
set_option maxRecDepth 100000 in
theorem fill_any (R X : List Nat) (b j : Nat) (hR : R.length ≤ 16) (hX : ∀ i, X.getD i 0 < 256) (L : Blks) (hj : L[j]? = some (b, .cells (blk R) 152)) (w0 : World) (H : Has w0 L) :
    Calls Try.prog 76 #[pT b, sB X] w0 fun e w' => e = .returned (sB (X.drop (16 - R.length))) ∧ Post w0 w' L ⟨fun _ => sB (X.drop (16 - R.length)), none, [(j, .cells (blk (R ++ X.take (16 - R.length))) 152)]⟩ 0 := by
  have MM := MemS.start1 (H j _ hj)
  refine enter_fr Try.func76 rfl Try.ntmps76 (by simp) fun ac (FF : Fr 27 ac [(0, pT b), (1, sB X)]) => ?_
  have hR2 : (R ++ X.take (16 - R.length)).length ≤ 16 := by simp; omega
  refine wp_seq (rg_c FF MM [(0, t_ (sB []))] 5 [] [] (⟨(by kernel_rfl), fun _ _ FF1 MM1 => then_n ?_⟩))
  refine wp_seq (rg_dc 9 FF1 MM1 [(6, l_ 0 (iN R.length)), (0, w_ 2)] [(0, r_ (iN (min X.length (16 - R.length))) [(0, .cells ((cn .u8 (padR (R ++ X.take (16 - R.length)))) ++ (#[iN R.length] : Array Value)) 152)])] 6 [] [] (⟨rfl, ((cat_r 0 ((cn_size _ _).trans (padR_len hR)) rfl).trans rfl), (by have := hR; omega), by decide, (by have := hR; omega), (copyStr_ok (p := .tmp 13) (q := .tmp 14) (t := 73) (tq := 9) (e := 5) (i := 0) (by kernel_rfl) rfl rfl hX Try.underlying73 (by kernel_rfl) rfl (by rw [blk_size hR]; omega) (fill_cells hR)), fun _ _ FF2 MM2 => then_n ?_⟩))
  refine wp_seq (rg_c FF2 MM2 [(3, l_ 0 (iN R.length)), (4, s_ 0 (.cells (blk (R ++ X.take (16 - R.length))) 152))] 6 [] [] (⟨rfl, ((cat_r 0 ((cn_size _ _).trans (padR_len hR2)) rfl).trans rfl), (by have := hR; omega), rfl, (by simp [cn_size, padR_len hR2]), (.inl rfl), ((cat_set_r 0 ((cn_size _ _).trans (padR_len hR2)) rfl).trans (congrArg (_ ++ ·) (by show (#[_] : Array Value) = #[_]; rw [show R.length + min X.length (16 - R.length) = (R ++ X.take (16 - R.length)).length by simp; omega]))), fun _ _ FF3 MM3 => then_n ?_⟩))
  refine wp_seq (rg_c FF3 MM3 [(2, t_ (sB (X.drop (16 - R.length))))] 6 [] [] (⟨(by simp only [bs_size]; omega), (Nat.zero_le _), (vS2 ((bs_from _ _).trans (congrArg bs (drop_min _ _)))), fun _ _ FF4 MM4 => then_n ?_⟩))
  refine wp_ret ?_
  repeat first | refine then_ret ?_ | refine inb_ret ?_
  exact (ret_fr FF4 0 Try.results76 rfl ⟨rfl, MM4.post1 0 rfl hj⟩)
end Go.Proofs.Ytniplfjnpjihoaa
namespace Go.Proofs.Ytniplfjnpjihoaa
open Go.RowKit
theorem fill_len {R X : List Nat} (h : R.length ≤ 16) : (R ++ X.take (16 - R.length)).length ≤ 16 := by simp; omega
theorem fill_lt {R X : List Nat} (h : ∀ i, R.getD i 0 < 256) (h' : ∀ i, X.getD i 0 < 256) (i : Nat) : (R ++ X.take (16 - R.length)).getD i 0 < 256 := app_lt h (take_lt h') i
theorem zero_blk : cn .u8 (List.replicate 17 0) ++ (#[iN 0] : Array Value) = blk (remT []) := by kernel_rfl
theorem zero_h (r : Nat) : (#[iW 0, iW 0, iW 0] : Array Value) = w3 (hT r []) := by kernel_rfl
theorem rem_le (T : List Nat) : (remT T).length ≤ 16 := by rw [remT_len]; omega
set_option maxRecDepth 100000 in
set_option maxHeartbeats 1000000 in
theorem sum_any (K : List Nat) (hK : Bytes 32 K) (Ps : List (List Nat)) (hP : ∀ X ∈ Ps, ∀ i, X.getD i 0 < 256) (hn : Ps.length < 9223372036854775808) (pb cap T9 : Nat) (fr : Nat × Nat) (cs : Array Value) (hp : ∀ j, j < Ps.length → cs[j]? = some (sB (Ps.getD j []))) (w0 : World) (hb : w0.heap[pb]? = some (.cells cs T9 fr)) :
    Calls Try.prog 60 #[.agg (cn .u8 K), .slice (some ⟨pb, 0, none⟩) Ps.length cap] w0 fun e w' => e = .returned (.agg (cn .u8 (polyN K Ps.flatten))) ∧ Below w0.heap.size w0 w' := by
  have MM := MemS.start1 hb
  refine enter_fr Try.func60 rfl Try.ntmps60 (by simp) fun ac (FF : Fr 51 ac [(0, .agg (cn .u8 K)), (1, .slice (some ⟨pb, 0, none⟩) Ps.length cap)]) => ?_
  refine wp_seq (rg_c FF MM [(0, s_ 0 (.cells (cn .u8 K) 42)), (0, s_ 0 (.cells (cn .u8 (List.replicate 16 0)) 109))] 5 [] [0] (⟨(by kernel_rfl), fun b1 => ⟨(by kernel_rfl), fun b2 => fun _ _ FF1 MM1 => then_n ?_⟩⟩))
  refine wp_seq (rg_draw FF1 MM1 [.inl (.agg (cn .u8 K)), .inl (aG #[iW (fac0 K), iW (fac1 K)]), .inl (.agg (cn .u8 K)), .inl (.agg (w3 (sOf K))), .inr (oC #[iW 0, iW 0] 145, fun b => pT b), .inr (oC #[iW 0, iW 0, iW 0] 148, fun b => pT b)] [4, 5] [b_ 1, t_ (aG #[iW (fac0 K), iW (fac1 K)]), b_ 1, t_ (.agg (w3 (sOf K))), o_, o_] [b_ 0, b_ 1] [4, 1, 5, 6] (fun nb => [b1 = b1, (cn .u8 K).size = 32, CallP Try.prog 74 [.agg (cn .u8 K)] [] (aG #[iW (fac0 K), iW (fac1 K)]), b1 = b1, (cn .u8 K).size = 32, CallP Try.prog 75 [.agg (cn .u8 K)] [] (.agg (w3 (sOf K)))]) (fun nb Kt => (nb 4) = (nb 4) ∧ (#[iW 0, iW 0] : Array Value).size = 2 ∧ (#[iW (fac0 K), iW (fac1 K)] : Array Value).size = 2 ∧ (#[iW (fac0 K), iW (fac1 K)] : Array Value).all (·.oneCell') = true ∧ (0, 0).2 = 0 ∧ (nb 5) = (nb 5) ∧ (#[iW 0, iW 0, iW 0] : Array Value).size = 3 ∧ (w3 (sOf K)).size = 3 ∧ (w3 (sOf K)).all (·.oneCell') = true ∧ (0, 0).2 = 0 ∧ Kt [(6, pT (nb 5)), (5, pT (nb 4)), (4, pT b2), (1, .slice (some ⟨pb, 0, none⟩) Ps.length cap)] [((nb 4), oC #[iW (fac0 K), iW (fac1 K)] 145), ((nb 5), .cells (w3 (sOf K)) 148), (b2, .cells (cn .u8 (List.replicate 16 0)) 109), (b1, .cells (cn .u8 K) 42), (pb, .cells cs T9 fr)]) (by kernel_rfl) (by kernel_rfl) (by kernel_rfl) (fun _ => by kernel_rfl) (fun _ _ => by kernel_rfl) ⟨⟨_, rfl⟩, rfl, ⟨⟨_, rfl⟩, rfl, trivial⟩⟩ (fun nb => ⟨rfl, ((cn_size _ _).trans hK.len), (callP_of ent17 (factorOf_any K hK) _), rfl, ((cn_size _ _).trans hK.len), (callP_of ent18 (lastHalf_any K hK) _), trivial⟩) (fun nb => ⟨rfl, rfl, rfl, (by kernel_rfl), rfl, rfl, rfl, rfl, (by kernel_rfl), rfl, fun _ _ FF2 MM2 => then_n ?_⟩))
  generalize nb 4 = br at *
  generalize nb 5 = bl at *
  refine wp_seq (rg_c FF2 MM2 [] 8 [] [] (fun bh => fun _ _ FF3 MM3 => then_n ?_))
  refine wp_seq (rg_c FF3 MM3 [(0, s_ 0 (.cells ((cn .u8 (List.replicate 17 0)) ++ (#[iN 0] : Array Value)) 152))] 9 [] [] (⟨(by kernel_rfl), fun bb => fun _ wd4 FF4 MM4 => then_n ?_⟩))
  have hn0 : ∀ i, ([] : List Nat).getD i 0 < 256 := fun i => by simp
  have MMs : MemS (fun k => k < w0.heap.size ∧ k ≠ pb) w0 wd4 [(bb, .cells (blk (remT [])) 152), (bh, .cells (w3 (hT (rOf K) [])) 148), (br, oC #[iW (fac0 K), iW (fac1 K)] 145), (bl, .cells (w3 (sOf K)) 148), (b2, .cells (cn .u8 (List.replicate 16 0)) 109), (b1, .cells (cn .u8 K) 42), (pb, .cells cs T9 fr)] [] := by rw [← zero_blk, ← zero_h (rOf K)]; exact MM4
  refine wp_seq ?_
  refine wp_seq (rg_c FF4 MMs [] 18 [] [1] (fun _ _ FF5 MM5 => then_n ?_))
  refine wp_for (fun a' w' => ∃ j : Nat, j ≤ Ps.length ∧ Fr 51 a' [(17, iN j), (16, iN Ps.length), (15, .slice (some ⟨pb, 0, none⟩) Ps.length cap), (8, pT bb), (7, pT bh), (6, pT bl), (5, pT br), (4, pT b2)] ∧ MemS (fun k => k < w0.heap.size ∧ k ≠ pb) w0 w' [(bb, .cells (blk (remT ((Ps.take j).flatten))) 152), (bh, .cells (w3 (hT (rOf K) ((Ps.take j).flatten))) 148), (br, oC #[iW (fac0 K), iW (fac1 K)] 145), (bl, .cells (w3 (sOf K)) 148), (b2, .cells (cn .u8 (List.replicate 16 0)) 109), (b1, .cells (cn .u8 K) 42), (pb, .cells cs T9 fr)] []) (fun a' _ => (Ps.length - cnt 17 a').toNat) ⟨0, by omega, FF5.pick [0, 1, 2, 3, 4, 5, 6, 7], MM5⟩ ?_
  rintro ac6 wd6 ⟨j, hj, FF6, MM6⟩
  have hc := cnt_of (FF6.get 0 rfl)
  refine rg_c FF6 MM6 [] 19 [] [] (fun _ _ FF7 MM7 => ?_)
  by_cases hlt : j < Ps.length
  · skip
    refine then_n (.inl ⟨(FF7.ev 0 rfl).trans (dec_t hlt), ?_⟩)
    have hPj : ∀ i, (Ps.getD j []).getD i 0 < 256 := hP _ (by rw [List.getD_eq_getElem?_getD, List.getElem?_eq_getElem hlt]; exact List.getElem_mem hlt)
    refine wp_seq (rg_c FF7 MM7 [(0, w_ 1), (0, l_ 6 (sB (Ps.getD j [])))] 18 [] [] (⟨by omega, rfl, (hp j hlt), fun _ _ FF8 MM8 => then_n ?_⟩))
    refine wp_for2w (fun a' w' => ∃ C : List Nat, ∃ X : List Nat, C ++ X = (Ps.take j).flatten ++ Ps.getD j [] ∧ (∀ i, C.getD i 0 < 256) ∧ (∀ i, X.getD i 0 < 256) ∧ Fr 51 a' [(10, sB X), (17, iN j), (16, iN Ps.length), (15, .slice (some ⟨pb, 0, none⟩) Ps.length cap), (8, pT bb), (7, pT bh), (6, pT bl), (5, pT br), (4, pT b2)] ∧ MemS (fun k => k < w0.heap.size ∧ k ≠ pb) w0 w' [(bb, .cells (blk (remT C)) 152), (bh, .cells (w3 (hT (rOf K) C)) 148), (br, oC #[iW (fac0 K), iW (fac1 K)] 145), (bl, .cells (w3 (sOf K)) 148), (b2, .cells (cn .u8 (List.replicate 16 0)) 109), (b1, .cells (cn .u8 K) 42), (pb, .cells cs T9 fr)] []) (fun a' _ => strLen 10 a') ⟨(Ps.take j).flatten, Ps.getD j [], rfl, flat_lt (fun Y hY => hP Y (List.mem_of_mem_take hY)), hPj, FF8.pick [0, 1, 2, 3, 4, 5, 6, 7, 8], MM8⟩ ?_
    rintro ac9 wd9 ⟨C, X, hC, hCl, hXl, FF9, MM9⟩
    have hm1 := strLen_of (FF9.get 0 rfl)
    refine rg_c FF9 MM9 [(1, t_ (iN X.length))] 18 [23] [] (⟨(vI (bs_size _)), fun _ _ FF10 MM10 => ?_⟩)
    by_cases hX0 : X.length > 0
    · skip
      refine then_n (.inl ⟨(FF10.ev 0 rfl).trans (dec_t hX0), ?_⟩)
      refine wp_seq (rg_c FF10 MM10 [(1, c_ (sB (X.drop (16 - (remT C).length))) [(0, .cells (blk ((remT C) ++ X.take (16 - (remT C).length))) 152)])] 18 [] [] (⟨⟨ent19, fun w H => fill_any _ _ _ 0 (rem_le _) hXl _ rfl w H⟩, fun _ _ FF11 MM11 => then_n ?_⟩))
      refine wp_seq (rg_c FF11 MM11 [(1, l_ 0 (iN (((remT C) ++ X.take (16 - (remT C).length)).length)))] 18 [28] [] (⟨rfl, ((cat_r 0 ((cn_size _ _).trans (padR_len (fill_len (rem_le _)))) rfl).trans rfl), fun _ wd12 FF12 MM12 => then_n ?_⟩))
      by_cases hs28 : (((remT C) ++ X.take (16 - (remT C).length)).length) = 16
      · refine wp_cond_true ((FF12.ev 0 rfl).trans (dec_t hs28)) ?_
        refine wp_seq (rg_dc 6 FF12 MM12 [(0, b_ 1), (0, b_ 0), (0, t_ (.agg (w3 (numR ((remT C) ++ X.take (16 - (remT C).length)))))), (0, t_ (.agg (w3 ((hT (rOf K) C) + (numR ((remT C) ++ X.take (16 - (remT C).length))))))), (0, b_ 2), (0, t_ (.agg (w3 (foldN (((hT (rOf K) C) + (numR ((remT C) ++ X.take (16 - (remT C).length)))) * rOf K)))))] [(0, b_ 1)] 18 [] [] (⟨rfl, rfl, rfl, (blk_size (fill_len (rem_le _))), (callP_of ent22 (number_any _ (fill_len (rem_le _)) (fill_lt (remT_lt hCl) hXl)) _), (callP_of ent21 (plus_any _ _) _), rfl, rfl, (callP_of ent20 (times_any _ _ _ (by have := hK_lt (rOf_lt K) hCl (C.length / 16); have := numR_lt (fill_len (rem_le C)) (fill_lt (remT_lt hCl) hXl); unfold hT; omega) (fac0_lt K) (fac1_lt K)) _), rfl, rfl, rfl, (by kernel_rfl), rfl, fun _ _ FF13 MM13 => then_n ?_⟩))
        refine rg_c FF13 MM13 [(0, t_ (.agg ((cn .u8 (List.replicate 17 0)) ++ (#[iN 0] : Array Value)))), (0, b_ 0)] 18 [] [] (⟨(by kernel_rfl), rfl, (blk_size (fill_len (rem_le _))), (by simp [cn_size]), (one_app (cn_one _ _) (by kernel_rfl)), rfl, fun _ wd14 FF14 MM14 => ?_⟩)
        refine inb_n ?_
        have hst := step_full (rOf K) C (X.take (16 - (remT C).length)) hs28
        have hl2 : ∀ i, (C ++ X.take (16 - (remT C).length)).getD i 0 < 256 := app_lt hCl (take_lt hXl)
        have MMx : MemS (fun k => k < w0.heap.size ∧ k ≠ pb) w0 wd14 [(bb, .cells (blk (remT (C ++ X.take (16 - (remT C).length)))) 152), (bh, .cells (w3 (hT (rOf K) (C ++ X.take (16 - (remT C).length)))) 148), (br, oC #[iW (fac0 K), iW (fac1 K)] 145), (bl, .cells (w3 (sOf K)) 148), (b2, .cells (cn .u8 (List.replicate 16 0)) 109), (b1, .cells (cn .u8 K) 42), (pb, .cells cs T9 fr)] [] := by rw [hst.1, hst.2]; exact MM14
        have hm2 := strLen_of (FF14.get 0 rfl)
        refine then_n ⟨⟨C ++ X.take (16 - (remT C).length), X.drop (16 - (remT C).length), by rw [List.append_assoc, List.take_append_drop, hC], hl2, drop_lt hXl, FF14.pick [0, 1, 2, 3, 4, 5, 6, 7, 8], MMx⟩, ?_⟩
        rw [hm1, hm2, bs_size, bs_size, List.length_drop]; have := remT_len C; omega
      · refine wp_cond_false ((FF12.ev 0 rfl).trans (dec_f hs28)) ?_
        refine wp_skip ?_
        refine inb_n ?_
        have hst := step_in (rOf K) C (X.take (16 - (remT C).length)) (by have := fill_len (X := X) (rem_le C); omega)
        have hl2 : ∀ i, (C ++ X.take (16 - (remT C).length)).getD i 0 < 256 := app_lt hCl (take_lt hXl)
        have MMx : MemS (fun k => k < w0.heap.size ∧ k ≠ pb) w0 wd12 [(bb, .cells (blk (remT (C ++ X.take (16 - (remT C).length)))) 152), (bh, .cells (w3 (hT (rOf K) (C ++ X.take (16 - (remT C).length)))) 148), (br, oC #[iW (fac0 K), iW (fac1 K)] 145), (bl, .cells (w3 (sOf K)) 148), (b2, .cells (cn .u8 (List.replicate 16 0)) 109), (b1, .cells (cn .u8 K) 42), (pb, .cells cs T9 fr)] [] := by rw [hst.1, hst.2]; exact MM12
        have hm2 := strLen_of (FF12.get 1 rfl)
        refine then_n ⟨⟨C ++ X.take (16 - (remT C).length), X.drop (16 - (remT C).length), by rw [List.append_assoc, List.take_append_drop, hC], hl2, drop_lt hXl, FF12.pick [1, 2, 3, 4, 5, 6, 7, 8, 9], MMx⟩, ?_⟩
        rw [hm1, hm2, bs_size, bs_size, List.length_drop]; have := remT_len C; omega
    · skip
      refine then_n (.inr ⟨(FF10.ev 0 rfl).trans (dec_f hX0), ?_⟩)
      obtain rfl : X = [] := List.eq_nil_of_length_eq_zero (by omega)
      rw [List.append_nil] at hC
      rw [← flat_take Ps j hlt] at hC
      subst hC
      refine inb_n (then_n ?_)
      refine rg_c FF10 MM10 [] 18 [] [] (⟨by omega, fun _ _ FF15 MM15 => ?_⟩)
      have hc2 := cnt_of (FF15.get 0 rfl)
      refine then_n ⟨⟨j + 1, by omega, FF15.pick [0, 2, 3, 4, 5, 6, 7, 8], MM15⟩, ?_⟩
      rw [hc, hc2]; omega
  · skip
    refine then_n (.inr ⟨(FF7.ev 0 rfl).trans (dec_f hlt), ?_⟩)
    obtain rfl : j = Ps.length := by omega
    rw [List.take_length] at MM7
    have hTl : ∀ i, Ps.flatten.getD i 0 < 256 := flat_lt hP
    refine then_n ?_
    refine wp_seq ?_
    refine wp_seq (rg_c FF7 MM7 [(1, l_ 0 (iN ((remT Ps.flatten).length)))] 18 [39] [] (⟨rfl, ((cat_r 0 ((cn_size _ _).trans (padR_len (rem_le _))) rfl).trans rfl), fun _ wd16 FF16 MM16 => then_n ?_⟩))
    by_cases hs39 : ((remT Ps.flatten).length) > 0
    · refine wp_cond_true ((FF16.ev 0 rfl).trans (dec_t hs39)) ?_
      refine rg_dc 6 FF16 MM16 [(0, b_ 1), (0, b_ 0), (0, t_ (.agg (w3 (numR (remT Ps.flatten))))), (0, t_ (.agg (w3 ((hT (rOf K) Ps.flatten) + (numR (remT Ps.flatten)))))), (0, b_ 2), (0, t_ (.agg (w3 (foldN (((hT (rOf K) Ps.flatten) + (numR (remT Ps.flatten))) * rOf K)))))] [(0, b_ 1)] 18 [] [] (⟨rfl, rfl, rfl, (blk_size (rem_le _)), (callP_of ent22 (number_any _ (rem_le _) (remT_lt hTl)) _), (callP_of ent21 (plus_any _ _) _), rfl, rfl, (callP_of ent20 (times_any _ _ _ (by have := hK_lt (rOf_lt K) hTl (Ps.flatten.length / 16); have := numR_lt (rem_le _) (remT_lt hTl); unfold hT; omega) (fac0_lt K) (fac1_lt K)) _), rfl, rfl, rfl, (by kernel_rfl), rfl, fun _ wd17 FF17 MM17 => ?_⟩)
      refine then_n ?_
      have MMz : MemS (fun k => k < w0.heap.size ∧ k ≠ pb) w0 wd17 [(bb, .cells (blk (remT Ps.flatten)) 152), (bh, .cells (w3 (hAll (rOf K) Ps.flatten)) 148), (br, oC #[iW (fac0 K), iW (fac1 K)] 145), (bl, .cells (w3 (sOf K)) 148), (b2, .cells (cn .u8 (List.replicate 16 0)) 109), (b1, .cells (cn .u8 K) 42), (pb, .cells cs T9 fr)] [] := by rw [hAll, if_pos hs39]; exact MM17
      refine wp_seq (rg_dc 5 FF17 MMz [(0, b_ 1), (0, t_ (.agg (w3 ((hAll (rOf K) Ps.flatten) % 1361129467683753853853498429727072845819)))), (0, b_ 3), (0, t_ (.agg (w3 (((hAll (rOf K) Ps.flatten) % 1361129467683753853853498429727072845819) + (sOf K))))), (0, t_ (.agg (cn .u8 (tagTo (((hAll (rOf K) Ps.flatten) % 1361129467683753853853498429727072845819) + (sOf K)) 8))))] [(0, b_ 4)] 18 [] [] (⟨rfl, rfl, (callP_of ent24 (settle_any _ (hAll_lt hTl)) _), rfl, rfl, (callP_of ent21 (plus_any _ _) _), (callP_of ent23 (tag_any _) _), rfl, ((cn_size _ _).trans (List.length_replicate ..)), ((cn_size _ _).trans (tagTo_len _ _)), (cn_one _ _), rfl, fun _ _ FF18 MM18 => then_n ?_⟩))
      refine wp_ret ?_
      repeat first | refine then_ret ?_ | refine inb_ret ?_
      exact (retc FF18 MM18 (k := 16) (i := 4) (j := 7) Try.results60 rfl rfl Try.underlying109 rfl (by kernel_rfl) ((cn_size _ _).trans (tagTo_len _ _)) ⟨rfl, MM18.below1 6 rfl hb⟩)
    · refine wp_cond_false ((FF16.ev 0 rfl).trans (dec_f hs39)) ?_
      refine wp_skip ?_
      refine then_n ?_
      have MMz : MemS (fun k => k < w0.heap.size ∧ k ≠ pb) w0 wd16 [(bb, .cells (blk (remT Ps.flatten)) 152), (bh, .cells (w3 (hAll (rOf K) Ps.flatten)) 148), (br, oC #[iW (fac0 K), iW (fac1 K)] 145), (bl, .cells (w3 (sOf K)) 148), (b2, .cells (cn .u8 (List.replicate 16 0)) 109), (b1, .cells (cn .u8 K) 42), (pb, .cells cs T9 fr)] [] := by rw [hAll, if_neg hs39]; exact MM16
      refine wp_seq (rg_dc 5 FF16 MMz [(0, b_ 1), (0, t_ (.agg (w3 ((hAll (rOf K) Ps.flatten) % 1361129467683753853853498429727072845819)))), (0, b_ 3), (0, t_ (.agg (w3 (((hAll (rOf K) Ps.flatten) % 1361129467683753853853498429727072845819) + (sOf K))))), (0, t_ (.agg (cn .u8 (tagTo (((hAll (rOf K) Ps.flatten) % 1361129467683753853853498429727072845819) + (sOf K)) 8))))] [(0, b_ 4)] 18 [] [] (⟨rfl, rfl, (callP_of ent24 (settle_any _ (hAll_lt hTl)) _), rfl, rfl, (callP_of ent21 (plus_any _ _) _), (callP_of ent23 (tag_any _) _), rfl, ((cn_size _ _).trans (List.length_replicate ..)), ((cn_size _ _).trans (tagTo_len _ _)), (cn_one _ _), rfl, fun _ _ FF19 MM19 => then_n ?_⟩))
      refine wp_ret ?_
      repeat first | refine then_ret ?_ | refine inb_ret ?_
      exact (retc FF19 MM19 (k := 16) (i := 4) (j := 7) Try.results60 rfl rfl Try.underlying109 rfl (by kernel_rfl) ((cn_size _ _).trans (tagTo_len _ _)) ⟨rfl, MM19.below1 6 rfl hb⟩)
end Go.Proofs.Ytniplfjnpjihoaa
