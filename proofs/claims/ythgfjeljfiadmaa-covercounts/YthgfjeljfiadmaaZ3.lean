/- Several texts in one: A region in its row, told in the words that come out: numbers, values, lists are taken apart and put together anew on the way, so that what comes out need not be written down. What any operation comes to, in the words that come out; a region so. A region in its row, in the words that come out. A region that draws its order, whose operations make no new block, in the words that come out. The library: bits of a word, which is less, products of words. The library: decimal digits of a word. Package nat: rows trimmed, numbers of a word, of bytes. Package nat: what a number is, which is less. Sums of words. No program in this text. Package nat: sums. Package nat: sums of rows of numbers. -/
import Derived.Test.YthgfjeljfiadmaaZ2
import Derived.Test.YthgfjeljfiadmaaProg
import Derived.Lib.Mul64
import Derived.Laws.StructEq
import Derived.Laws.Small
import Derived.Laws.BitsAllLaws
namespace Go.Proofs.Ythgfjeljfiadmaa
open Go.RowKit
def topC (k : IntKind) (K : Nat → Prop) : Prop :=
  match k with
  | .u8 => K 256 | .u16 => K 65536 | .u32 => K 4294967296 | .u64 => K 18446744073709551616
  | .i8 => K 128 | .i16 => K 32768 | .i32 => K 2147483648 | .i64 => K 9223372036854775808
theorem topC_ok {k : IntKind} {K : Nat → Prop} (h : topC k K) : K (top k) := by cases k <;> exact h
def lookC (t : Nat) (K : Value → Prop) : Slots → Prop
  | [] => False
  | (t', v) :: r => match Nat.beq t' t with | true => K v | false => lookC t K r
theorem lookC_ok {t : Nat} {K : Value → Prop} : ∀ {l : Slots}, lookC t K l → ∃ v, look t l = some v ∧ K v
  | [], h => h.elim
  | (t', v) :: r, h => by
    unfold lookC at h
    unfold look
    cases e : Nat.beq t' t with
    | true => rw [e] at h; exact ⟨v, rfl, h⟩
    | false => rw [e] at h; exact lookC_ok h
/-- A constant's number, as a natural one. -/
def normV (v : Value) (K : Value → Prop) : Prop := match v with | .int k (.ofNat m) => K (.int k ((@OfNat.ofNat Nat m (instOfNatNat m) : Nat) : Int)) | v => K v
theorem normV_ok {v : Value} {K : Value → Prop} (h : normV v K) : K v := by
  unfold normV at h
  split at h <;> exact h
def evC (l : Slots) (x : Operand) (K : Value → Prop) : Prop :=
  match x with
  | .tmp t => lookC t K l
  | .const v => normV v K
  | .func f => K (.func (.func f) #[] #[])
  | .global g => K (.pointer (some ⟨g, 0, none⟩))
theorem evC_ok {l : Slots} {x : Operand} {K : Value → Prop} (h : evC l x K) : ∃ v, evO l x = some v ∧ K v := by
  cases x with
  | tmp t => exact lookC_ok h
  | const v => exact ⟨v, rfl, normV_ok h⟩
  | func f => exact ⟨_, rfl, h⟩
  | global g => exact ⟨_, rfl, h⟩
def evAllC (l : Slots) : List Operand → (List Value → Prop) → Prop
  | [], K => K []
  | x :: r, K => evC l x fun v => evAllC l r fun vs => K (v :: vs)
theorem evAllC_ok {l : Slots} : ∀ {xs : List Operand} {K : List Value → Prop}, evAllC l xs K → ∃ vs, evAll l xs = some vs ∧ K vs
  | [], _, h => ⟨[], rfl, h⟩
  | x :: r, K, h => by
    obtain ⟨v, h1, h2⟩ := evC_ok h
    obtain ⟨vs, h3, h4⟩ := evAllC_ok h2
    exact ⟨v :: vs, by simp [evAll, h1, h3], h4⟩
def evPartsC (l : Slots) : List (Nat × Operand) → (List (Nat × Value) → Prop) → Prop
  | [], K => K []
  | (i, x) :: r, K => evC l x fun v => evPartsC l r fun vs => K ((i, v) :: vs)
theorem evPartsC_ok {l : Slots} : ∀ {xs : List (Nat × Operand)} {K : List (Nat × Value) → Prop}, evPartsC l xs K → ∃ vs, evParts l xs = some vs ∧ K vs
  | [], _, h => ⟨[], rfl, h⟩
  | (i, x) :: r, K, h => by
    obtain ⟨v, h1, h2⟩ := evC_ok h
    obtain ⟨vs, h3, h4⟩ := evPartsC_ok h2
    exact ⟨(i, v) :: vs, by simp [evParts, h1, h3], h4⟩
/-- The block at a place. -/
def atC : Nat → Blks → (Nat → Obj → Prop) → Prop
  | 0, (b, o) :: _, K => K b o
  | i + 1, _ :: r, K => atC i r K
  | _, [], _ => False
theorem atC_ok : ∀ {i : Nat} {L : Blks} {K : Nat → Obj → Prop}, atC i L K → ∃ b o, L[i]? = some (b, o) ∧ K b o
  | 0, (b, o) :: _, _, h => ⟨b, o, rfl, h⟩
  | i + 1, _ :: r, K, h => by
    obtain ⟨b, o, h1, h2⟩ := atC_ok (i := i) (L := r) (K := K) h
    exact ⟨b, o, by simpa using h1, h2⟩
  | 0, [], _, h => h.elim
  | _ + 1, [], _, h => h.elim
def modC (o : Obj) : Nat → Blks → (Blks → Prop) → Prop
  | 0, (b, _) :: r, K => K ((b, o) :: r)
  | i + 1, x :: r, K => modC o i r fun r' => K (x :: r')
  | _, [], K => K []
theorem modC_ok {o : Obj} : ∀ {i : Nat} {L : Blks} {K : Blks → Prop}, modC o i L K → K (modAt o i L)
  | 0, (_, _) :: _, _, h => h
  | i + 1, x :: r, K, h => modC_ok (i := i) (L := r) (K := fun r' => K (x :: r')) h
  | 0, [], _, h => h
  | _ + 1, [], _, h => h
def setC : List (Nat × Obj) → Blks → (Blks → Prop) → Prop
  | [], L, K => K L
  | (i, o) :: r, L, K => setC r L fun L' => modC o i L' K
theorem setC_ok : ∀ {us : List (Nat × Obj)} {L : Blks} {K : Blks → Prop}, setC us L K → K (setAll us L)
  | [], _, _, h => h
  | (i, o) :: r, L, K, h => by
    have h1 := setC_ok (us := r) (L := L) (K := fun L' => modC o i L' K) h
    exact modC_ok h1
def dropC (d : Nat) : Slots → (Slots → Prop) → Prop
  | [], K => K []
  | (t, v) :: r, K => match Nat.beq t d with | true => dropC d r K | false => dropC d r fun r' => K ((t, v) :: r')
theorem dropC_ok {d : Nat} : ∀ {l : Slots} {K : Slots → Prop}, dropC d l K → K (l.filter (fun x => !(Nat.beq x.1 d)))
  | [], _, h => h
  | (t, v) :: r, K, h => by
    unfold dropC at h
    cases e : Nat.beq t d with
    | true => rw [e] at h; rw [List.filter_cons_of_neg (by simp [e])]; exact dropC_ok h
    | false => rw [e] at h; rw [List.filter_cons_of_pos (by simp [e])]; exact dropC_ok (K := fun r' => K ((t, v) :: r')) h
def putC (d : Option Nat) (v : Value) (l : Slots) (K : Slots → Prop) : Prop := match d with | some d => dropC d l fun r => K ((d, v) :: r) | none => K l
theorem putC_ok {d : Option Nat} {v : Value} {l : Slots} {K : Slots → Prop} (h : putC d v l K) : K (putS d v l) := by
  cases d with
  | none => exact h
  | some d => exact dropC_ok (K := fun r => K ((d, v) :: r)) h
/-- A value, on terms. -/
def ToldBy (x : Told) (K : Value → Prop) : Prop := ∃ v cs, x = some (v, cs) ∧ (∀ c ∈ cs, c) ∧ K v
theorem told0 {v : Value} {K : Value → Prop} (h : K v) : ToldBy (some (v, [])) K := ⟨v, [], rfl, (fun _ hx => (by cases hx)), h⟩
theorem told1 {v : Value} {c : Prop} {K : Value → Prop} (h : c ∧ K v) : ToldBy (some (v, [c])) K := ⟨v, _, rfl, fun x hx => by rw [List.mem_singleton.1 hx]; exact h.1, h.2⟩
theorem told2 {v : Value} {c d : Prop} {K : Value → Prop} (h : c ∧ d ∧ K v) : ToldBy (some (v, [c, d])) K := ⟨v, _, rfl, fun x hx => by
  simp only [List.mem_cons, List.not_mem_nil, or_false] at hx
  rcases hx with rfl | rfl
  · exact h.1
  · exact h.2.1, h.2.2⟩
theorem told3 {v : Value} {c d e : Prop} {K : Value → Prop} (h : c ∧ d ∧ e ∧ K v) : ToldBy (some (v, [c, d, e])) K := ⟨v, _, rfl, fun x hx => by
  simp only [List.mem_cons, List.not_mem_nil, or_false] at hx
  rcases hx with rfl | rfl | rfl
  · exact h.1
  · exact h.2.1
  · exact h.2.2.1, h.2.2.2⟩
def cCmp (way : Nat) (p : Prop) [Decidable p] (K : Value → Prop) : Prop :=
  match way with
  | 2 => p ∧ K (.bool true)
  | 3 => ¬ p ∧ K (.bool false)
  | _ => K (.bool (decide p))
theorem cCmp_ok {way : Nat} {p : Prop} [Decidable p] {K : Value → Prop} (h : cCmp way p K) : ToldBy (aCmp way p) K := by
  unfold cCmp at h
  unfold aCmp
  split at h
  · exact told1 h
  · exact told1 h
  · rename_i h2 h3
    split
    · exact (h2 rfl).elim
    · exact (h3 rfl).elim
    · exact told0 h
def cNat (way : Nat) (op : BinOp) (k : IntKind) (m n : Nat) (K : Value → Prop) : Prop :=
  match op with
  | .add => match way, unsg k with | 0, true => topC k fun t => K (.int k ((m + n) % t : Nat)) | _, _ => topC k fun t => m + n < t ∧ K (.int k (m + n : Nat))
  | .sub => match way, unsg k with | 0, true => topC k fun t => n ≤ t ∧ K (.int k ((m + (t - n)) % t : Nat)) | _, _ => topC k fun t => n ≤ m ∧ m - n < t ∧ K (.int k (m - n : Nat))
  | .mul => match way, unsg k with | 0, true => topC k fun t => K (.int k ((m * n) % t : Nat)) | _, _ => topC k fun t => m * n < t ∧ K (.int k (m * n : Nat))
  | .quo => topC k fun t => n ≠ 0 ∧ m / n < t ∧ K (.int k (m / n : Nat))
  | .rem => n ≠ 0 ∧ K (.int k (m % n : Nat))
  | .and => topC k fun t => m < t ∧ n < t ∧ K (.int k (m &&& n : Nat))
  | .or => topC k fun t => m < t ∧ n < t ∧ K (.int k (m ||| n : Nat))
  | .xor => topC k fun t => m < t ∧ n < t ∧ K (.int k (m ^^^ n : Nat))
  | .eql => cCmp way (m = n) K
  | .neq => cCmp way (m ≠ n) K
  | .lss => cCmp way (m < n) K
  | .leq => cCmp way (m ≤ n) K
  | .gtr => cCmp way (m > n) K
  | .geq => cCmp way (m ≥ n) K
  | _ => False
theorem cNat_ok {way : Nat} {op : BinOp} {k : IntKind} {m n : Nat} {K : Value → Prop} (h : cNat way op k m n K) : ToldBy (aNat way op k m n) K := by
  cases op <;> simp only [cNat] at h <;> simp only [aNat] <;> first | exact h.elim | exact cCmp_ok h | skip
  case add =>
    split at h
    · rename_i e
      rw [e]
      exact told0 (topC_ok h)
    · rename_i h1
      split
      · exact (h1 rfl (by assumption)).elim
      · exact told1 (topC_ok h)
  case sub =>
    split at h
    · rename_i e
      rw [e]
      exact told1 (topC_ok h)
    · rename_i h1
      split
      · exact (h1 rfl (by assumption)).elim
      · exact told2 (topC_ok h)
  case mul =>
    split at h
    · rename_i e
      rw [e]
      exact told0 (topC_ok h)
    · rename_i h1
      split
      · exact (h1 rfl (by assumption)).elim
      · exact told1 (topC_ok h)
  case quo => exact told2 (topC_ok h)
  case rem => exact told1 h
  case and => exact told2 (topC_ok h)
  case or => exact told2 (topC_ok h)
  case xor => exact told2 (topC_ok h)
def cInt (way : Nat) (op : BinOp) (k : IntKind) (x y : Int) (K : Value → Prop) : Prop :=
  match op with
  | .add => match unsg k with | false => topC k fun t => -(t : Int) ≤ x + y ∧ x + y < (t : Nat) ∧ K (.int k (x + y)) | true => False
  | .sub => match unsg k with | false => topC k fun t => -(t : Int) ≤ x - y ∧ x - y < (t : Nat) ∧ K (.int k (x - y)) | true => False
  | .mul => match unsg k with | false => topC k fun t => -(t : Int) ≤ x * y ∧ x * y < (t : Nat) ∧ K (.int k (x * y)) | true => False
  | .eql => cCmp (way - 4) (x = y) K
  | .neq => cCmp (way - 4) (x ≠ y) K
  | .lss => cCmp (way - 4) (x < y) K
  | .leq => cCmp (way - 4) (x ≤ y) K
  | .gtr => cCmp (way - 4) (x > y) K
  | .geq => cCmp (way - 4) (x ≥ y) K
  | _ => False
theorem cInt_ok {way : Nat} {op : BinOp} {k : IntKind} {x y : Int} {K : Value → Prop} (h : cInt way op k x y K) : ToldBy (aInt way op k x y) K := by
  cases op <;> simp only [cInt] at h <;> simp only [aInt] <;> first | exact h.elim | exact cCmp_ok h | skip
  all_goals
    split at h
    · rename_i e
      rw [e]
      have h1 := topC_ok h
      exact told2 h1
    · exact h.elim
def cRest (way : Nat) (op : BinOp) (k k' : IntKind) (x y : Int) (K : Value → Prop) : Prop :=
  match decide (k = k'), Nat.ble 4 way with
  | false, _ => False
  | true, true => cInt way op k x y K
  | true, false => match x, y with
    | .ofNat m, .ofNat n => cNat way op k m n K
    | _, _ => False
def aRest (way : Nat) (op : BinOp) (k k' : IntKind) (x y : Int) : Told :=
  match decide (k = k'), Nat.ble 4 way with
  | false, _ => none
  | true, true => aInt way op k x y
  | true, false => match x, y with
    | .ofNat m, .ofNat n => aNat way op k m n
    | _, _ => none
theorem cRest_ok {way : Nat} {op : BinOp} {k k' : IntKind} {x y : Int} {K : Value → Prop} (h : cRest way op k k' x y K) : ToldBy (aRest way op k k' x y) K := by
  unfold cRest at h
  unfold aRest
  cases e1 : decide (k = k') <;> cases e2 : Nat.ble 4 way <;> rw [e1, e2] at h <;> dsimp only at h ⊢
  · cases x <;> cases y <;> first | exact cNat_ok h | exact h.elim
  · exact cInt_ok h
def cBin (way : Nat) (op : BinOp) (x y : Value) (K : Value → Prop) : Prop :=
  match x, y with
  | .int k x, .int k' y =>
    match op, x, y with
    | .shl, .ofNat m, .ofNat n => match unsg k with | true => topC k fun t => K (.int k (m * 2 ^ n % t : Nat)) | false => topC k fun t => m * 2 ^ n < t ∧ n ≤ k.bits ∧ K (.int k (m * 2 ^ n : Nat))
    | .shr, .ofNat m, .ofNat n => n ≤ k.bits ∧ K (.int k (m / 2 ^ n : Nat))
    | .shl, _, _ | .shr, _, _ => False
    | op, x, y => cRest way op k k' x y K
  | .string s, .string u =>
    match op with
    | .add => s.size + u.size ≤ 9223372036854775807 ∧ K (.string (s ++ u))
    | .eql => cCmp way (s = u) K
    | .neq => cCmp way (s ≠ u) K
    | _ => False
  | _, _ => False
theorem cBin_ok {way : Nat} {op : BinOp} {x y : Value} {K : Value → Prop} (h : cBin way op x y K) : ToldBy (aBin way op x y) K := by
  unfold cBin at h
  unfold aBin
  split at h
  · rename_i k x k' y
    cases op <;> first | exact cRest_ok h | skip
    case shl =>
      cases x <;> cases y <;> first | exact h.elim | skip
      dsimp only at h ⊢
      split at h
      · rename_i e
        rw [e]
        have h1 := topC_ok h
        exact told0 h1
      · rename_i e
        rw [e]
        have h1 := topC_ok h
        exact told2 h1
    case shr =>
      cases x <;> cases y <;> first | exact h.elim | skip
      exact told1 h
  · dsimp only
    split at h
    · exact told1 h
    · exact cCmp_ok h
    · exact cCmp_ok h
    · exact h.elim
  · exact h.elim
def cUn (op : UnOp) (x : Value) (K : Value → Prop) : Prop :=
  match op, x with
  | .neg, .int k (.ofNat m) => match unsg k with | true => topC k fun t => m ≤ t ∧ K (.int k ((t - m) % t : Nat)) | false => topC k fun t => m < t ∧ K (.int k (-(m : Int)))
  | .not, .bool b => match b with | true => K (.bool false) | false => K (.bool true)
  | _, _ => False
theorem cUn_ok {op : UnOp} {x : Value} {K : Value → Prop} (h : cUn op x K) : ToldBy (aUn op x) K := by
  unfold cUn at h
  unfold aUn
  split at h
  · dsimp only
    split at h
    · rename_i e
      rw [e]
      have h1 := topC_ok h
      exact told1 h1
    · rename_i e
      rw [e]
      have h1 := topC_ok h
      exact told1 h1
  · split at h <;> exact told0 h
  · exact h.elim
/-- What an operation comes to, on terms. -/
def Fits (r : Res) (kv : Value → Prop) (kn : Obj → (Nat → Value) → Prop) (ku : Value → List (Nat × Obj) → Prop) : Prop :=
  (r.new = none ∧ r.ups = [] ∧ kv (r.val 0)) ∨ (∃ ob, r.new = some ob ∧ r.ups = [] ∧ kn ob r.val) ∨ (r.new = none ∧ ku (r.val 0) r.ups)
def ResBy (x : Option (Res × List Prop)) (kv : Value → Prop) (kn : Obj → (Nat → Value) → Prop) (ku : Value → List (Nat × Obj) → Prop) : Prop :=
  ∃ r cs, x = some (r, cs) ∧ (∀ c ∈ cs, c) ∧ Fits r kv kn ku
section
variable {kv : Value → Prop} {kn : Obj → (Nat → Value) → Prop} {ku : Value → List (Nat × Obj) → Prop}
theorem res_v {v : Value} {cs : List Prop} (h : allC cs (kv v)) : ResBy (some (rv v, cs)) kv kn ku := by
  obtain ⟨h1, h2⟩ := allC_iff.1 h
  exact ⟨rv v, cs, rfl, h1, .inl ⟨rfl, rfl, h2⟩⟩
theorem res_u {v : Value} {us : List (Nat × Obj)} {cs : List Prop} (h : allC cs (ku v us)) : ResBy (some (⟨fun _ => v, none, us⟩, cs)) kv kn ku := by
  obtain ⟨h1, h2⟩ := allC_iff.1 h
  exact ⟨_, cs, rfl, h1, .inr (.inr ⟨rfl, h2⟩)⟩
theorem res_n {ob : Obj} {mk : Nat → Value} {cs : List Prop} (h : allC cs (kn ob mk)) : ResBy (some (⟨mk, some ob, []⟩, cs)) kv kn ku := by
  obtain ⟨h1, h2⟩ := allC_iff.1 h
  exact ⟨_, cs, rfl, h1, .inr (.inl ⟨ob, rfl, rfl, h2⟩)⟩
/-- Told in another spelling. -/
def tellC (vs : List Value) (v : Value) (K : Value → Prop) : Prop := match vs with | [] => K v | v' :: _ => v = v' ∧ K v'
theorem tellC_ok {vs : List Value} {x : Told} (h : ToldBy x fun v => tellC vs v kv) : ResBy (tell vs x) kv kn ku := by
  obtain ⟨v, cs, rfl, h1, h2⟩ := h
  cases vs with
  | nil => exact res_v (allC_iff.2 ⟨h1, h2⟩)
  | cons v' r =>
    refine res_v (allC_iff.2 ⟨fun c hc => ?_, h2.2⟩)
    rcases List.mem_append.1 hc with h | h
    · exact h1 c h
    · rw [List.mem_singleton.1 h]; exact h2.1
end
end Go.Proofs.Ythgfjeljfiadmaa
namespace Go.Proofs.Ythgfjeljfiadmaa
open Go.RowKit
section
variable {P : Program} {l : Slots} {L : Blks} {kv : Value → Prop} {kn : Obj → (Nat → Value) → Prop} {ku : Value → List (Nat × Obj) → Prop}
/-- A type's size. -/
def szC (P : Program) (t : TypeId) (K : Nat → Prop) : Prop := match P.info? t with | some ⟨_, _, s, _, _, _, _, _, _, _⟩ => K s | none => False
theorem szC_ok {t : TypeId} {K : Nat → Prop} (h : szC P t K) : ∃ s, szOf P t = some s ∧ P.cellsOf t = s ∧ K s := by
  unfold szC at h
  split at h
  · rename_i e
    exact ⟨_, by rw [szOf, e]; rfl, by rw [Program.cellsOf, e]; rfl, h⟩
  · exact h.elim
def mulC (i s : Nat) (K : Nat → Prop) : Prop := match s with | 1 => K i | s => K (i * s)
theorem mulC_ok {i s : Nat} {K : Nat → Prop} (h : mulC i s K) : K (mulSz i s) := by
  unfold mulC at h
  unfold mulSz
  split at h
  · exact h
  · split
    · rename_i h1; exact (h1 rfl).elim
    · exact h
def addC (way off i : Nat) (K : Nat → Prop) : Prop := match way, off with | 1, 0 => K i | _, off => K (off + i)
theorem addC_ok {way off i : Nat} {K : Nat → Prop} (h : addC way off i K) : K (addOff way off i) := by
  rw [addOff_eq]
  unfold addC at h
  split at h
  · rw [Nat.zero_add]; exact h
  · exact h
def natAtC (l : Slots) (x : Option Operand) (K : Option Nat → Prop) : Prop := match x with | none => K none | some x => evC l x fun v => match v with | .int .i64 (.ofNat n) => K (some n) | _ => False
theorem natAtC_ok {x : Option Operand} {K : Option Nat → Prop} (h : natAtC l x K) : ∃ n, natAt l x = some n ∧ K n := by
  cases x with
  | none => exact ⟨none, rfl, h⟩
  | some x =>
    obtain ⟨v, h1, h2⟩ := evC_ok h
    split at h2
    · rename_i n
      exact ⟨some n, by simp [natAt, h1], h2⟩
    · exact h2.elim
def orC (x : Option Nat) (d : Nat) (K : Nat → Prop) : Prop := match x with | some n => K n | none => K d
theorem orC_ok {x : Option Nat} {d : Nat} {K : Nat → Prop} (h : orC x d K) : K (x.getD d) := by cases x <;> exact h
def subC (x : Option Nat) (a : Nat) (K : Nat → Prop) : Prop := match x with | some n => K (a - n) | none => K a
theorem subC_ok {x : Option Nat} {a : Nat} {K : Nat → Prop} (h : subC x a K) : K (a - x.getD 0) := by cases x <;> exact h
def cSlice (P : Program) (way : Nat) (t : TypeId) (x : Value) (lo hi : Option Nat) (K : Value → Prop) : Prop :=
  match P.underlying t, x with
  | some (.array n e), .pointer (some ⟨b, off, none⟩) => orC lo 0 fun a => orC hi n fun z => szC P e fun s => mulC a s fun m => subC lo z fun u => subC lo n fun c =>
    match way, off with
    | 2, 0 => a ≤ z ∧ z ≤ n ∧ a < n ∧ K (.slice (some ⟨b, m, none⟩) u c)
    | _, off => a ≤ z ∧ z ≤ n ∧ a < n ∧ K (.slice (some ⟨b, off + m, none⟩) u c)
  | some (.slice e), .slice (some ⟨b, off, none⟩) len cap => orC lo 0 fun a => orC hi len fun z => orC hi 0 fun z0 => szC P e fun s => mulC a s fun m => subC lo z fun u => subC lo cap fun c =>
    match way with
    | 1 => a ≤ z ∧ z0 ≤ cap ∧ a = cap ∧ K (.slice (some ⟨b, off, none⟩) u c)
    | _ => a ≤ z ∧ z0 ≤ cap ∧ a < cap ∧ K (.slice (some ⟨b, off + m, none⟩) u c)
  | some .string, .string s => orC lo 0 fun a => orC hi s.size fun z => orC hi 0 fun z0 => a ≤ z ∧ z0 ≤ s.size ∧ K (.string (s.extract a z))
  | _, _ => False
theorem cSlice_ok {way : Nat} {t : TypeId} {x : Value} {lo hi : Option Nat} {K : Value → Prop} (h : cSlice P way t x lo hi K) : ToldBy (aSlice P way t x lo hi) K := by
  unfold cSlice at h
  unfold aSlice
  split at h
  · rename_i hu
    rw [hu]
    dsimp only
    obtain ⟨s, h1, _, h⟩ := szC_ok (orC_ok (orC_ok h))
    have h := subC_ok (subC_ok (mulC_ok h))
    rw [h1]
    split at h
    · exact told3 h
    · split
      · simp_all
      · simp only [Option.some.injEq] at *
        subst_vars
        exact told3 (by assumption)
      · simp_all
  · rename_i hu
    rw [hu]
    dsimp only
    obtain ⟨s, h1, _, h⟩ := szC_ok (orC_ok (orC_ok (orC_ok h)))
    have h := subC_ok (subC_ok (mulC_ok h))
    rw [h1]
    split at h
    · exact told3 h
    · split
      · simp_all
      · simp only [Option.some.injEq] at *
        subst_vars
        exact told3 (by assumption)
      · simp_all
  · rename_i hu
    rw [hu]
    have h := orC_ok (orC_ok (orC_ok h))
    exact told2 h
  · exact h.elim
def cIdxAddr (P : Program) (way : Nat) (t : TypeId) (x : Value) (i : Nat) (K : Value → Prop) : Prop :=
  match P.underlying t, x with
  | some (.array n e), .pointer (some ⟨b, off, none⟩) => szC P e fun s => mulC i s fun m => addC way off m fun o => i < n ∧ K (.pointer (some ⟨b, o, none⟩))
  | some (.slice e), .slice (some ⟨b, off, none⟩) len _ => szC P e fun s => mulC i s fun m => addC way off m fun o => i < len ∧ K (.pointer (some ⟨b, o, none⟩))
  | _, _ => False
theorem cIdxAddr_ok {way : Nat} {t : TypeId} {x : Value} {i : Nat} {K : Value → Prop} (h : cIdxAddr P way t x i K) : ToldBy (aIdxAddr P way t x i) K := by
  unfold cIdxAddr at h
  unfold aIdxAddr
  split at h
  · rename_i hu
    rw [hu]
    dsimp only
    obtain ⟨s, h1, _, h⟩ := szC_ok h
    have h := addC_ok (mulC_ok h)
    rw [h1]
    exact told1 h
  · rename_i hu
    rw [hu]
    dsimp only
    obtain ⟨s, h1, _, h⟩ := szC_ok h
    have h := addC_ok (mulC_ok h)
    rw [h1]
    exact told1 h
  · exact h.elim
def nthC {α : Type} : Nat → List α → (α → Prop) → Prop
  | 0, x :: _, K => K x
  | i + 1, _ :: r, K => nthC i r K
  | _, [], _ => False
theorem nthC_ok {α : Type} : ∀ {i : Nat} {xs : List α} {K : α → Prop}, nthC i xs K → ∃ x, xs[i]? = some x ∧ K x
  | 0, x :: _, _, h => ⟨x, rfl, h⟩
  | i + 1, _ :: r, K, h => by
    obtain ⟨x, h1, h2⟩ := nthC_ok (i := i) (xs := r) (K := K) h
    exact ⟨x, by simpa using h1, h2⟩
  | 0, [], _, h => h.elim
  | _ + 1, [], _, h => h.elim
def cField (P : Program) (s : TypeId) (x : Value) (f : Nat) (K : Value → Prop) : Prop :=
  match P.underlying s, x with
  | some (.struct fs), .pointer (some ⟨b, off, none⟩) => nthC f fs.toList fun g => match g with
    | ⟨_, t, o, _, _, _, _⟩ => szC P t fun z => match z with | _ + 1 => K (.pointer (some ⟨b, off + o, none⟩)) | 0 => False
  | _, _ => False
theorem cField_ok {s : TypeId} {x : Value} {f : Nat} {K : Value → Prop} (h : cField P s x f K) : ToldBy (aField P s x f) K := by
  unfold cField at h
  unfold aField
  split at h
  · rename_i hu
    rw [hu]
    dsimp only
    obtain ⟨g, h1, h⟩ := nthC_ok h
    obtain ⟨z, h2, _, h⟩ := szC_ok h
    rw [Array.getElem?_toList] at h1
    rw [h1]
    dsimp only
    rw [h2]
    cases z with
    | zero => exact h.elim
    | succ z => exact told0 h
  · exact h.elim
def cLen (P : Program) (t : TypeId) (x : Value) (K : Value → Prop) : Prop :=
  match P.underlying t, x with
  | some .string, .string s => K (.int .i64 (s.size : Nat))
  | some (.slice _), .slice _ n _ => K (.int .i64 (n : Nat))
  | _, _ => False
theorem cLen_ok {t : TypeId} {x : Value} {K : Value → Prop} (h : cLen P t x K) : ToldBy (aLen P t x) K := by
  unfold cLen at h
  unfold aLen
  split at h
  · rename_i hu
    rw [hu]
    exact told0 h
  · rename_i hu
    rw [hu]
    exact told0 h
  · exact h.elim
def cConv (P : Program) (L : Blks) (way i : Nat) (vs : List Value) (src dst : TypeId) (x : Value) (K : Value → Prop) : Prop :=
  match P.underlying src, P.underlying dst, x with
  | some _, some (.int k), .int _ (.ofNat m) => match way, unsg k with | 0, true => topC k fun t => tellC vs (.int k (m % t : Nat)) K | _, _ => topC k fun t => m < t ∧ tellC vs (.int k (m : Nat)) K
  | some _, some .string, .string s => tellC vs (.string s) K
  | some (.slice e), some .string, .slice (some ⟨b, off, none⟩) len _ =>
    match P.underlying e, vs with
    | some (.int .u8), .string s :: _ => atC i L fun b' o => match o with | .cells cs _ _ => b' = b ∧ StrAt cs off len s ∧ K (.string s) | _ => False
    | _, _ => False
  | _, _, _ => False
theorem cConv_ok {us : List (Nat × Obj)} {way i : Nat} {vs : List Value} {src dst : TypeId} {x : Value} (h : cConv P L way i vs src dst x kv) : ResBy (aConv P L (way, i, vs, us) src dst x) kv kn ku := by
  unfold cConv at h
  unfold aConv
  split at h
  · rename_i q k kk m e1 e2
    rw [e1, e2]
    dsimp only
    split at h
    · rename_i e
      rw [e]
      have h1 := topC_ok h
      exact tellC_ok (told0 h1)
    · rename_i h1
      have h2 := topC_ok h
      split
      · rename_i e; exact (h1 rfl e).elim
      · exact tellC_ok (told1 h2)
  · rename_i e1 e2
    rw [e1, e2]
    exact tellC_ok (told0 h)
  · rename_i e b off len c e1 e2
    rw [e1, e2]
    dsimp only
    split at h
    · rename_i e3
      rw [e3]
      obtain ⟨b', o, h1, h⟩ := atC_ok h
      cases o with
      | cells cs T fr =>
        rw [h1]
        exact res_v (cs := [_, _]) h
      | _ => exact h.elim
    · exact h.elim
  · exact h.elim
end
end Go.Proofs.Ythgfjeljfiadmaa
namespace Go.Proofs.Ythgfjeljfiadmaa
open Go.RowKit
section
variable {P : Program} {l : Slots} {L : Blks} {kv : Value → Prop} {kn : Obj → (Nat → Value) → Prop} {ku : Value → List (Nat × Obj) → Prop}
def cIdx (P : Program) (vs : List Value) (t : TypeId) (x : Value) (i : Nat) (K : Value → Prop) : Prop :=
  match P.underlying t, x, vs with
  | some .string, .string s, .int .u8 (.ofNat v) :: _ => i < s.size ∧ (nl s).getD i 0 = v ∧ K (.int .u8 (v : Nat))
  | some (.array n e), .agg cs, v :: _ =>
    match P.underlying e with
    | some d => szC P e fun s => match s, d.isRow with | 1, false => i < n ∧ cs[i]? = some v ∧ K v | _, _ => False
    | none => False
  | _, _, _ => False
theorem cIdx_ok {way j : Nat} {us : List (Nat × Obj)} {vs : List Value} {t : TypeId} {x : Value} {i : Nat} (h : cIdx P vs t x i kv) : ResBy (aIdx P (way, j, vs, us) t x i) kv kn ku := by
  unfold cIdx at h
  unfold aIdx
  split at h
  · rename_i hu
    rw [hu]
    exact res_v (cs := [_, _]) h
  · rename_i hu
    rw [hu]
    dsimp only
    split at h
    · rename_i d he
      obtain ⟨s, h1, hcz, h⟩ := szC_ok h
      split at h
      · rename_i hd
        simp only [he, h1, hd]
        exact res_v (cs := [_, _]) h
      · exact h.elim
    · exact h.elim
  · exact h.elim
def cLoad (P : Program) (L : Blks) (j : Nat) (vs : List Value) (t : TypeId) (p : Value) (K : Value → Prop) : Prop :=
  match p with
  | .pointer (some ⟨b, off, none⟩) => atC j L fun b' o => match o with
    | .cells cs _ _ => match P.underlying t with
      | some d => match d.isRow, vs with
        | true, [] => (match off with | 0 => szC P t fun s => b' = b ∧ cs.size = s ∧ K (.agg cs) | _ => False)
        | true, .agg ps :: _ => szC P t fun s => b' = b ∧ PartAt cs off ps ∧ ps.size = s ∧ K (.agg ps)
        | false, v :: _ => b' = b ∧ cs[off]? = some v ∧ K v
        | _, _ => False
      | none => False
    | _ => False
  | _ => False
theorem cLoad_ok {way j : Nat} {us : List (Nat × Obj)} {vs : List Value} {t : TypeId} {p : Value} (h : cLoad P L j vs t p kv) : ResBy (aLoad P L (way, j, vs, us) t p) kv kn ku := by
  unfold cLoad at h
  unfold aLoad
  split at h
  · obtain ⟨b', o, h1, h⟩ := atC_ok h
    split at h
    · split at h
      · rename_i d hu
        rw [show L[(way, j, vs, us).2.1]? = _ from h1, hu]
        dsimp only
        cases hd : d.isRow with
        | true =>
          rw [hd] at h
          cases vs with
          | nil =>
            dsimp only at h ⊢
            split at h
            · obtain ⟨s, _, h2, h⟩ := szC_ok h
              refine res_v (cs := [_, _]) ?_
              rw [h2]
              exact h
            · exact h.elim
          | cons v r =>
            cases v with
            | agg ps =>
              obtain ⟨s, _, h2, h⟩ := szC_ok h
              refine res_v (cs := [_, _, _]) ?_
              rw [h2]
              exact h
            | _ => exact h.elim
        | false =>
          rw [hd] at h
          cases vs with
          | nil => exact h.elim
          | cons v r => exact res_v (cs := [_, _]) h
      · exact h.elim
    · exact h.elim
  · exact h.elim
def cStore (P : Program) (L : Blks) (j : Nat) (us : List (Nat × Obj)) (t : TypeId) (p x : Value) (K : Value → List (Nat × Obj) → Prop) : Prop :=
  match p with
  | .pointer (some ⟨b, off, none⟩) => atC j L fun b' o => match o with
    | .cells cs T fr => szC P t fun k => match x, us with
      | .agg vs, [] => (match off with | 0 => b' = b ∧ cs.size = k ∧ vs.size = k ∧ vs.all (·.oneCell') = true ∧ fr.2 = 0 ∧ K undef [(j, .cells vs T fr)] | _ => False)
      | .agg vs, (_, .cells cs' _ _) :: _ => b' = b ∧ off + vs.size ≤ cs.size ∧ vs.size = k ∧ vs.all (·.oneCell') = true ∧ fr.2 = 0 ∧ setFrom cs off vs.toList = cs' ∧ K undef [(j, .cells cs' T fr)]
      | v, us => match v.oneCell', Nat.beq k 1, us with
        | true, true, [] => b' = b ∧ off < cs.size ∧ (fr.2 = 0 ∨ off < fr.1) ∧ K undef [(j, .cells (cs.setIfInBounds off v) T fr)]
        | true, true, (_, .cells cs' _ _) :: _ => b' = b ∧ off < cs.size ∧ (fr.2 = 0 ∨ off < fr.1) ∧ cs.setIfInBounds off v = cs' ∧ K undef [(j, .cells cs' T fr)]
        | _, _, _ => False
    | _ => False
  | _ => False
theorem cStore_ok {way j : Nat} {us : List (Nat × Obj)} {vs : List Value} {t : TypeId} {p x : Value} (h : cStore P L j us t p x ku) : ResBy (aStore P L (way, j, vs, us) t p x) kv kn ku := by
  unfold cStore at h
  unfold aStore
  split at h
  · obtain ⟨b', o, h1, h⟩ := atC_ok h
    split at h
    · obtain ⟨k, h2, _, h⟩ := szC_ok h
      rw [show L[(way, j, vs, us).2.1]? = _ from h1, h2]
      dsimp only
      split at h
      · split at h
        · exact res_u (cs := [_, _, _, _, _]) h
        · exact h.elim
      · exact res_u (cs := [_, _, _, _, _, _]) h
      · rename_i q1 q2
        split
        · exact (q1 _ rfl rfl).elim
        · exact (q2 _ _ _ _ _ _ rfl rfl).elim
        · cases e1 : x.oneCell' with
          | false => rw [e1] at h; exact h.elim
          | true =>
            cases e2 : Nat.beq k 1 with
            | false => rw [e1, e2] at h; exact h.elim
            | true =>
              rw [e1, e2] at h
              cases us with
              | nil => exact res_u (cs := [_, _, _]) h
              | cons u r =>
                obtain ⟨i, o⟩ := u
                cases o with
                | cells c T f => exact res_u (cs := [_, _, _, _]) h
                | _ => exact h.elim
    · exact h.elim
  · exact h.elim
/-- A new block, told in another spelling. -/
def newC (us : List (Nat × Obj)) (ob : Obj) (mk : Nat → Value) (K : Obj → (Nat → Value) → Prop) : Prop := match us with | [] => K ob mk | (_, ob') :: _ => ob = ob' ∧ K ob' mk
theorem newC_ok {us : List (Nat × Obj)} {ob : Obj} {mk : Nat → Value} (h : newC us ob mk kn) : kn ob mk := by
  cases us with
  | nil => exact h
  | cons u r => obtain ⟨i, o⟩ := u; obtain ⟨rfl, h⟩ := h; exact h
def cBuildS (P : Program) (us : List (Nat × Obj)) (t : TypeId) (len : Nat) (parts : List (Nat × Value)) (K : Obj → (Nat → Value) → Prop) : Prop :=
  match us with
  | (_, ob) :: _ => aBuildS P t len parts = some (⟨fun b => .slice (some ⟨b, 0, none⟩) len len, some ob, []⟩, []) ∧ K ob fun b => .slice (some ⟨b, 0, none⟩) len len
  | [] => False
theorem cBuildS_ok {us : List (Nat × Obj)} {t : TypeId} {len : Nat} {parts : List (Nat × Value)} (h : cBuildS P us t len parts kn) : ResBy (aBuildS P t len parts) kv kn ku := by
  unfold cBuildS at h
  split at h
  · rw [h.1]
    exact res_n (cs := []) h.2
  · exact h.elim
def cCall (P : Program) (l : Slots) (L : Blks) (way : Nat) (vs : List Value) (us : List (Nat × Obj)) (c : Call) (kv : Value → Prop) (ku : Value → List (Nat × Obj) → Prop) : Prop :=
  match c.callee with
  | .builtin .len => match c.args.toList, c.argTypes.toList with
    | [x], [t] => evC l x fun v => cLen P t v fun v => tellC vs v kv
    | _, _ => False
  | .value (.func f) => evAllC l c.args.toList fun args => match vs, us with
    | v :: _, [] => (match way with | 0 => CallP P f args [] v ∧ kv v | _ => CallP P f args L v ∧ kv v)
    | v :: _, us => CallU P f args L v us ∧ ku v us
    | _, _ => False
  | _ => False
theorem cCall_ok {way j : Nat} {us : List (Nat × Obj)} {vs : List Value} {c : Call} (h : cCall P l L way vs us c kv ku) : ResBy (aCall P l L (way, j, vs, us) c) kv kn ku := by
  unfold cCall at h
  unfold aCall
  split at h
  · split at h
    · rename_i e _ _ x t e1 e2
      obtain ⟨v, h1, h⟩ := evC_ok h
      rw [e]
      dsimp only
      rw [e1, e2]
      dsimp only
      rw [h1]
      exact tellC_ok (cLen_ok h)
    · exact h.elim
  · rename_i f e
    obtain ⟨args, h1, h⟩ := evAllC_ok h
    rw [e]
    dsimp only
    rw [h1]
    cases vs with
    | nil => exact h.elim
    | cons v r =>
      cases us with
      | nil =>
        dsimp only at h ⊢
        split at h
        · exact res_v (cs := [_]) h
        · split
          · rename_i q; exact (q rfl).elim
          · exact res_v (cs := [_]) h
      | cons u us => exact res_u (cs := [_]) h
  · exact h.elim
theorem cells_one {v : Value} (q : ∀ cs, v = .agg cs → False) : v.cells = #[v] := by cases v <;> first | rfl | exact (q _ rfl).elim
/-- One operation. -/
def cev (P : Program) (l : Slots) (L : Blks) (h : Hint) (o : Oper) (kv : Value → Prop) (kn : Obj → (Nat → Value) → Prop) (ku : Value → List (Nat × Obj) → Prop) : Prop :=
  match h with
  | (7, _, vs, _) => match vs with | v :: _ => RunV P l L o v ∧ kv v | [] => False
  | (8, _, vs, us) => match vs, us with | v :: _, (_, ob) :: _ => RunN P l L o (mkOf v) ob ∧ kn ob (mkOf v) | _, _ => False
  | (9, _, vs, us) => match vs with | v :: _ => RunU P l L o v us ∧ ku v us | [] => False
  | (way, i, vs, us) => match o.op with
    | .move x => evC l x fun v => tellC vs v kv
    | .assign x => evC l x fun v => tellC vs v kv
    | .pick c x y => evC l c fun b => evC l x fun u => evC l y fun v => match b with | .bool true => tellC vs u kv | .bool false => tellC vs v kv | _ => False
    | .alloc t => match P.info? t with | some ⟨_, _, _, _, _, _, _, some z, _, _⟩ => (match z with | .agg cs => newC us (.cells cs t) (fun b => .pointer (some ⟨b, 0, none⟩)) kn | z => newC us (.cells #[z] t) (fun b => .pointer (some ⟨b, 0, none⟩)) kn) | _ => False
    | .box t x => evC l x fun v => match v with | .agg cs => newC us (.cells cs t) (fun b => .pointer (some ⟨b, 0, none⟩)) kn | v => newC us (.cells #[v] t) (fun b => .pointer (some ⟨b, 0, none⟩)) kn
    | .build t ps => evPartsC l ps.toList fun xs => match vs with | .agg cs :: _ => P.built t xs = some cs ∧ kv (.agg cs) | _ => False
    | .buildSlice t len ps => evPartsC l ps.toList fun xs => cBuildS P us t len xs kn
    | .load t x => evC l x fun p => cLoad P L i vs t p kv
    | .store t x y => match o.dst with | none => evC l x fun p => evC l y fun v => cStore P L i us t p v ku | some _ => False
    | .nilCheck x => evC l x fun v => match v with | .pointer (some p) => tellC vs (.pointer (some p)) kv | _ => False
    | .binOp op _ x y _ => evC l x fun u => evC l y fun v => cBin way op u v fun z => tellC vs z kv
    | .unOp op _ x => evC l x fun v => cUn op v fun z => tellC vs z kv
    | .convert src dst x => evC l x fun v => cConv P L way i vs src dst v kv
    | .sliceToArrayPointer t x => match P.underlying t with | some (.array n _) => evC l x fun v => (match v with | .slice p len _ => n ≤ len ∧ tellC vs (.pointer p) kv | _ => False) | _ => False
    | .slice t x lo hi none => evC l x fun v => natAtC l lo fun lo => natAtC l hi fun hi => cSlice P way t v lo hi fun z => tellC vs z kv
    | .fieldAddr s x f => evC l x fun v => cField P s v f fun z => tellC vs z kv
    | .indexAddr t x y => evC l x fun v => evC l y fun i => match i with | .int .i64 (.ofNat i) => cIdxAddr P way t v i fun z => tellC vs z kv | _ => False
    | .index t x y => evC l x fun v => evC l y fun i => match i with | .int .i64 (.ofNat i) => cIdx P vs t v i kv | _ => False
    | .extract x i => evC l x fun v => match v with | .tuple ts => nthC i ts.toList fun v => tellC vs v kv | _ => False
    | .call c => cCall P l L way vs us c kv ku
    | _ => False
theorem cev_ok {h : Hint} {o : Oper} (g : cev P l L h o kv kn ku) : ResBy (aev P l L h o) kv kn ku := by
  unfold cev at g
  unfold aev
  split at g
  · split at g
    · exact res_v (cs := [_]) g
    · exact g.elim
  · split at g
    · exact res_n (cs := [_]) g
    · exact g.elim
  · split at g
    · exact res_u (cs := [_]) g
    · exact g.elim
  · rename_i way i vs us q7 q8 q9
    dsimp only
    split
    · exact (q7 rfl).elim
    · exact (q8 rfl).elim
    · exact (q9 rfl).elim
    · split at g <;> first | exact g.elim | skip
      all_goals rename_i e; rw [e]; dsimp only
      · obtain ⟨v, h1, g⟩ := evC_ok g
        rw [h1]; exact tellC_ok (told0 g)
      · obtain ⟨v, h1, g⟩ := evC_ok g
        rw [h1]; exact tellC_ok (told0 g)
      · obtain ⟨b, h1, g⟩ := evC_ok g
        obtain ⟨u, h2, g⟩ := evC_ok g
        obtain ⟨v, h3, g⟩ := evC_ok g
        rw [h1, h2, h3]
        split at g
        · exact tellC_ok (told0 g)
        · exact tellC_ok (told0 g)
        · exact g.elim
      · split at g
        · rename_i e2
          rw [e2]
          dsimp only
          split at g
          · exact res_n (cs := []) (newC_ok g)
          · rename_i q
            unfold rp
            rw [cells_one q]
            exact res_n (cs := []) (newC_ok g)
        · exact g.elim
      · obtain ⟨v, h1, g⟩ := evC_ok g
        rw [h1]
        dsimp only
        split at g
        · exact res_n (cs := []) (newC_ok g)
        · rename_i q
          unfold rp
          rw [cells_one q]
          exact res_n (cs := []) (newC_ok g)
      · obtain ⟨xs, h1, g⟩ := evPartsC_ok g
        rw [h1]
        dsimp only
        split at g
        · unfold aBuild
          rw [g.1]
          exact tellC_ok (told0 ⟨rfl, g.2⟩)
        · exact g.elim
      · obtain ⟨xs, h1, g⟩ := evPartsC_ok g
        rw [h1]
        exact cBuildS_ok g
      · obtain ⟨p, h1, g⟩ := evC_ok g
        rw [h1]
        exact cLoad_ok g
      · split at g
        · rename_i hd
          obtain ⟨p, h1, g⟩ := evC_ok g
          obtain ⟨v, h2, g⟩ := evC_ok g
          rw [hd, h1, h2]
          exact cStore_ok g
        · exact g.elim
      · obtain ⟨v, h1, g⟩ := evC_ok g
        rw [h1]
        split at g
        · exact tellC_ok (told0 g)
        · exact g.elim
      · obtain ⟨u, h1, g⟩ := evC_ok g
        obtain ⟨v, h2, g⟩ := evC_ok g
        rw [h1, h2]
        exact tellC_ok (cBin_ok g)
      · obtain ⟨v, h1, g⟩ := evC_ok g
        rw [h1]
        exact tellC_ok (cUn_ok g)
      · obtain ⟨v, h1, g⟩ := evC_ok g
        rw [h1]
        exact cConv_ok g
      · split at g
        · rename_i e2
          obtain ⟨v, h1, g⟩ := evC_ok g
          rw [e2, h1]
          split at g
          · exact tellC_ok (told1 g)
          · exact g.elim
        · exact g.elim
      · obtain ⟨v, h1, g⟩ := evC_ok g
        obtain ⟨lo, h2, g⟩ := natAtC_ok g
        obtain ⟨hi, h3, g⟩ := natAtC_ok g
        rw [h1, h2, h3]
        exact tellC_ok (cSlice_ok g)
      · obtain ⟨v, h1, g⟩ := evC_ok g
        rw [h1]
        exact tellC_ok (cField_ok g)
      · obtain ⟨v, h1, g⟩ := evC_ok g
        obtain ⟨i, h2, g⟩ := evC_ok g
        rw [h1, h2]
        split at g
        · exact tellC_ok (cIdxAddr_ok g)
        · exact g.elim
      · obtain ⟨v, h1, g⟩ := evC_ok g
        obtain ⟨i, h2, g⟩ := evC_ok g
        rw [h1, h2]
        split at g
        · exact cIdx_ok g
        · exact g.elim
      · obtain ⟨v, h1, g⟩ := evC_ok g
        rw [h1]
        split at g
        · obtain ⟨u, h2, g⟩ := nthC_ok g
          dsimp only
          rw [h2]
          exact tellC_ok (told0 g)
        · exact g.elim
      · exact cCall_ok g
end
/-- Is it wanted? -/
def wantC (ops : List Oper) (l : Slots) (o : Oper) (K : Bool → Prop) : Prop :=
  match o.guard with
  | none => K true
  | some (j, bv) => nthC j ops fun q => match q.dst with
    | some d => lookC d (fun v => match v with
      | .bool true => (match bv with | true => K true | false => K false)
      | .bool false => (match bv with | true => K false | false => K true)
      | .tuple _ => K false
      | _ => False) l
    | none => False
theorem wantC_ok {ops : List Oper} {l : Slots} {o : Oper} {K : Bool → Prop} (h : wantC ops l o K) : ∃ c, wantOf ops l o = some c ∧ K c := by
  unfold wantC at h
  unfold wantOf
  split at h
  · rename_i e
    rw [e]
    exact ⟨true, rfl, h⟩
  · rename_i j bv e
    rw [e]
    obtain ⟨q, h1, h⟩ := nthC_ok h
    split at h
    · rename_i d hd
      obtain ⟨v, h2, h⟩ := lookC_ok h
      have h3 : (ops[j]?).bind (·.dst) = some d := by rw [h1]; exact hd
      dsimp only
      rw [h3]
      dsimp only
      rw [h2]
      split at h
      · cases bv <;> exact ⟨_, rfl, h⟩
      · cases bv <;> exact ⟨_, rfl, h⟩
      · exact ⟨_, rfl, h⟩
      · exact h.elim
    · exact h.elim
/-- Which slots are kept: those below m that are not among ds, and xs. -/
def kpB (m : Nat) (xs ds : List Nat) (t : Nat) : Bool := match Nat.blt t m, memB t ds with | true, false => true | _, _ => memB t xs
def kpC (m : Nat) (xs ds : List Nat) : Slots → (Slots → Prop) → Prop
  | [], K => K []
  | (t, v) :: r, K => match kpB m xs ds t with | true => kpC m xs ds r fun r' => K ((t, v) :: r') | false => kpC m xs ds r K
theorem kpC_ok {m : Nat} {xs ds : List Nat} : ∀ {l : Slots} {K : Slots → Prop}, kpC m xs ds l K → K (l.filter (fun x => kpB m xs ds x.1))
  | [], _, h => h
  | (t, v) :: r, K, h => by
    unfold kpC at h
    cases e : kpB m xs ds t with
    | true => rw [e] at h; rw [List.filter_cons_of_pos (by simp [e])]; exact kpC_ok (K := fun r' => K ((t, v) :: r')) h
    | false => rw [e] at h; rw [List.filter_cons_of_neg (by simp [e])]; exact kpC_ok h
/-- A row of operations; a hint stands behind the number of those that want none. -/
def cwp (P : Program) (ops : List Oper) (m : Nat) (xs ds : List Nat) (K : Slots → Blks → Prop) : List Oper → List (Nat × Hint) → Slots → Blks → Prop
  | [], _, l, L => kpC m xs ds l fun l' => K l' L
  | o :: rest, hs, l, L =>
    let go := fun (h : Hint) (hs' : List (Nat × Hint)) => wantC ops l o fun c => match c with
      | true => cev P l L h o (fun v => putC o.dst v l fun l' => cwp P ops m xs ds K rest hs' l' L)
        (fun ob mk => ∀ b, putC o.dst (mk b) l fun l' => cwp P ops m xs ds K rest hs' l' ((b, ob) :: L))
        (fun v us => putC o.dst v l fun l' => setC us L fun L' => cwp P ops m xs ds K rest hs' l' L')
      | false => putC o.dst undef l fun l' => cwp P ops m xs ds K rest hs' l' L
    match hs with
    | [] => go o_ []
    | (0, h) :: r => go h r
    | (k + 1, h) :: r => go o_ ((k, h) :: r)
section
variable {P : Program} {ops : Array Oper} {a : Act} {w0 w : World} {Q : Exit → Act → World → Prop} {n : Nat} {l : Slots} {L : Blks} {S : Nat → Prop} {R : List Row}
theorem Fr.kp (F : Fr n a l) (m : Nat) (xs ds : List Nat) : Fr n a (l.filter (fun x => kpB m xs ds x.1)) := ⟨F.defers, F.size, fun x hx => F.has x (List.mem_filter.1 hx).1⟩
theorem cwp_ok {rest : List Oper} {m : Nat} {xs ds : List Nat} {K : Slots → Blks → Prop} (hK : ∀ l' L' a' w', K l' L' → Fr n a' l' → MemS S w0 w' L' R → wpList P ops Q rest a' w') :
    ∀ (pre : List Oper) (hs : List (Nat × Hint)) (l : Slots) (L : Blks) (a : Act) (w : World), dstsB n pre = true → cwp P ops.toList m xs ds K pre hs l L → Fr n a l → MemS S w0 w L R → wpList P ops Q (pre ++ rest) a w
  | [], _, l, L, a, w, _, h, F, M => hK _ _ a w (kpC_ok h) (F.kp m xs ds) M
  | o :: pre, hs, l, L, a, w, hd, h, F, M => by
    have hd1 : dstsB n [o] = true := by simp only [dstsB, List.all_cons, Bool.and_eq_true, List.all_nil, Bool.and_true] at hd ⊢; exact hd.1
    have hd2 : dstsB n pre = true := by simp only [dstsB, List.all_cons, Bool.and_eq_true] at hd ⊢; exact hd.2
    have key : ∀ (hh : Hint) (hs' : List (Nat × Hint)), (wantC ops.toList l o fun c => match c with
        | true => cev P l L hh o (fun v => putC o.dst v l fun l' => cwp P ops.toList m xs ds K pre hs' l' L)
          (fun ob mk => ∀ b, putC o.dst (mk b) l fun l' => cwp P ops.toList m xs ds K pre hs' l' ((b, ob) :: L))
          (fun v us => putC o.dst v l fun l' => setC us L fun L' => cwp P ops.toList m xs ds K pre hs' l' L')
        | false => putC o.dst undef l fun l' => cwp P ops.toList m xs ds K pre hs' l' L) → wpList P ops Q (o :: pre ++ rest) a w := fun hh hs' h => by
      obtain ⟨c, hw, h⟩ := wantC_ok h
      refine wpList_step fun K' hK' => ?_
      cases c with
      | true =>
        rw [if_pos (wanted_iff hw F.lk)]
        obtain ⟨r, cs, h2, h3, h4⟩ := cev_ok h
        refine aev_ok F.agr M.hasL h2 h3 _ _ fun b w' p => hK' _ _ ?_
        have M' := M.post p
        obtain ⟨val, new, ups⟩ := r
        rcases h4 with ⟨e1, e2, h4⟩ | ⟨ob, e1, e2, h4⟩ | ⟨e1, h4⟩ <;> dsimp only at e1 h4
        · dsimp only at e2
          subst e1 e2
          obtain rfl := p.zero rfl
          exact cwp_ok hK pre hs' _ _ _ _ hd2 (putC_ok h4) (F.putS _ hd1) M'
        · dsimp only at e2
          subst e1 e2
          exact cwp_ok hK pre hs' _ _ _ _ hd2 (putC_ok (h4 b)) (F.putS _ hd1) M'
        · subst e1
          obtain rfl := p.zero rfl
          have h5 := setC_ok (putC_ok h4)
          refine cwp_ok (m := m) (xs := xs) (ds := ds) hK pre hs' _ (newL 0 ⟨val, none, ups⟩ L) _ _ hd2 ?_ (F.putS _ hd1) M'
          cases ups <;> exact h5
      | false =>
        rw [if_neg (by rw [wanted_iff hw F.lk]; decide)]
        exact hK' _ _ (cwp_ok hK pre hs' _ _ _ _ hd2 (putC_ok h) (F.putS _ hd1) M)
    unfold cwp at h
    match hs, h with
    | [], h => exact key _ _ h
    | (0, hh) :: r, h => exact key _ _ h
    | (k + 1, hh) :: r, h => exact key _ _ h
/-- A region in its row. -/
theorem rg_c {id : Nat} (F : Fr n a l) (M : MemS S w0 w L R) (hs : List (Nat × Hint)) (m : Nat) (xs ds : List Nat)
    (g : cwp P ops.toList m xs ds (fun l' L' => ∀ a' w', Fr n a' l' → MemS S w0 w' L' R → Q .normal a' w') ops.toList hs l L) (hd : dstsB n ops.toList = true := by kernel_rfl) : (Code.region id ops false).wp P Q a w := by
  refine wp_region_list ?_
  have := cwp_ok (P := P) (ops := ops) (Q := Q) (w0 := w0) (S := S) (R := R) (n := n) (rest := []) (K := fun l' L' => ∀ a' w', Fr n a' l' → MemS S w0 w' L' R → Q .normal a' w') (fun l' L' a' w' hK F M => hK a' w' F M) ops.toList hs l L a w hd g F M
  rwa [List.append_nil] at this
/-- The first k of a row. -/
theorem rp_c (k : Nat) {os : List Oper} (F : Fr n a l) (M : MemS S w0 w L R) (hs : List (Nat × Hint)) (m : Nat) (xs ds : List Nat)
    (g : cwp P ops.toList m xs ds (fun l' L' => ∀ a' w', Fr n a' l' → MemS S w0 w' L' R → wpList P ops Q (os.drop k) a' w') (os.take k) hs l L) (hd : dstsB n (os.take k) = true := by kernel_rfl) : wpList P ops Q os a w := by
  have := cwp_ok (P := P) (ops := ops) (Q := Q) (w0 := w0) (S := S) (R := R) (n := n) (rest := os.drop k) (K := fun l' L' => ∀ a' w', Fr n a' l' → MemS S w0 w' L' R → wpList P ops Q (os.drop k) a' w') (fun l' L' a' w' hK F M => hK a' w' F M) (os.take k) hs l L a w hd g F M
  rwa [List.take_append_drop] at this
end
end Go.Proofs.Ythgfjeljfiadmaa
namespace Go.Proofs.Ythgfjeljfiadmaa
open Go.RowKit
/-- On which operations one hangs. -/
def edgC : List Edge → (List Nat → Prop) → Prop
  | [], K => K []
  | ⟨j, g⟩ :: r, K => match Region.binds .any ⟨j, g⟩ with | true => edgC r fun js => K (j :: js) | false => edgC r K
theorem edgC_ok : ∀ {es : List Edge} {K : List Nat → Prop}, edgC es K → K ((es.filter (Region.binds .any ·)).map (·.on))
  | [], _, h => h
  | ⟨j, g⟩ :: r, K, h => by
    unfold edgC at h
    split at h
    · rename_i e
      rw [List.filter_cons_of_pos e]
      exact edgC_ok (K := fun js => K (j :: js)) h
    · rename_i e
      rw [List.filter_cons_of_neg (by rw [e]; decide)]
      exact edgC_ok h
/-- What they have come to. -/
def depC (ops : List Oper) (vs : List Value) : List Nat → (Slots → Prop) → Prop
  | [], K => K []
  | j :: r, K => nthC j ops fun q => match q.dst with | some d => nthC j vs fun v => depC ops vs r fun l => K ((d, v) :: l) | none => False
theorem depC_ok {ops : List Oper} {vs : List Value} (more : List Value) (nb : Nat → Nat) : ∀ {js : List Nat} {K : Slots → Prop}, depC ops vs js K → K (depSlots ops ((vs ++ more).map .inl) nb js)
  | [], _, h => h
  | j :: r, K, h => by
    unfold depC at h
    obtain ⟨q, h1, h⟩ := nthC_ok h
    split at h
    · rename_i d hd
      obtain ⟨v, h2, h⟩ := nthC_ok h
      have h3 := depC_ok more nb (K := fun l => K ((d, v) :: l)) h
      unfold depSlots
      have e1 : (ops[j]?).bind (·.dst) = some d := by rw [h1]; exact hd
      have e2 : ((vs ++ more).map Sum.inl : List Item)[j]? = some (.inl v) := by
        have hj : j < vs.length := (List.getElem?_eq_some_iff.1 h2).1
        rw [List.getElem?_map, List.getElem?_append_left hj, h2]
        rfl
      rw [e1, e2]
      exact h3
    · exact h.elim
theorem depBlks_inl (vs : List Value) (nb : Nat → Nat) : ∀ js : List Nat, depBlks (vs.map .inl) nb js = []
  | [] => rfl
  | j :: r => by
    unfold depBlks
    rw [List.getElem?_map]
    cases vs[j]? with
    | none => exact depBlks_inl vs nb r
    | some v => exact depBlks_inl vs nb r
def appC : Slots → Slots → (Slots → Prop) → Prop
  | [], z, K => K z
  | x :: r, z, K => appC r z fun l => K (x :: l)
theorem appC_ok : ∀ {l z : Slots} {K : Slots → Prop}, appC l z K → K (l ++ z)
  | [], _, _, h => h
  | x :: r, _, K, h => appC_ok (l := r) (K := fun l => K (x :: l)) h
def snocC (v : Value) : List Value → (List Value → Prop) → Prop
  | [], K => K [v]
  | x :: r, K => snocC v r fun l => K (x :: l)
theorem snocC_ok {v : Value} : ∀ {l : List Value} {K : List Value → Prop}, snocC v l K → K (l ++ [v])
  | [], _, h => h
  | x :: r, K, h => snocC_ok (l := r) (K := fun l => K (x :: l)) h
def dropsC : List Oper → Slots → (Slots → Prop) → Prop
  | [], l, K => K l
  | o :: r, l, K => match o.dst with | some d => dropC d l fun l' => dropsC r l' K | none => dropsC r l K
theorem dropS_filter (d : Nat) (ds : List Nat) : ∀ l : Slots, dropS ds (l.filter fun x => !(Nat.beq x.1 d)) = dropS (d :: ds) l
  | [] => rfl
  | x :: r => by
    have ih := dropS_filter d ds r
    cases e : Nat.beq x.1 d with
    | true =>
      rw [List.filter_cons_of_neg (by simp [e]), ih]
      have e' : Nat.beq d x.1 = true := by rw [Nat.eq_of_beq_eq_true e]; exact Nat.beq_refl _
      conv => rhs; unfold dropS
      simp only [memB, e']
    | false =>
      rw [List.filter_cons_of_pos (by simp [e])]
      have e' : Nat.beq d x.1 = false := by
        cases q : Nat.beq d x.1 with
        | false => rfl
        | true => rw [Nat.eq_of_beq_eq_true q, Nat.beq_refl] at e; cases e
      conv => lhs; unfold dropS
      conv => rhs; unfold dropS
      simp only [memB, e', ih]
theorem dropsC_ok : ∀ {os : List Oper} {l : Slots} {K : Slots → Prop}, dropsC os l K → K (dropS (dstsOf os) l)
  | [], l, K, h => by
    have : ∀ l : Slots, dropS [] l = l := fun l => by
      induction l with
      | nil => rfl
      | cons x r ih => unfold dropS; simp only [memB, ih]
    rw [dstsOf, this]; exact h
  | o :: r, l, K, h => by
    unfold dropsC at h
    unfold dstsOf
    split at h
    · rename_i d e
      rw [e]
      have h1 := dropsC_ok (dropC_ok h)
      rw [dropS_filter] at h1
      exact h1
    · rename_i e
      rw [e]
      exact dropsC_ok h
def pairsC : List Oper → List Value → Slots → (Slots → Prop) → Prop
  | o :: r, v :: vs, l, K => putC o.dst v l fun l' => pairsC r vs l' K
  | _, _, l, K => K l
theorem pairsC_ok : ∀ {os : List Oper} {vs : List Value} {l : Slots} {K : Slots → Prop}, pairsC os vs l K → K (pairsOf os vs l)
  | o :: r, v :: vs, l, K, h => by
    have h1 := pairsC_ok (os := r) (vs := vs) (putC_ok h)
    unfold pairsOf
    exact h1
  | [], _, _, _, h => h
  | _ :: _, [], _, _, h => h
/-- The drawn operations, one by one. -/
def drC (P : Program) (ops : List Oper) (lo : Slots) (L : Blks) : List Oper → List (Nat × Hint) → List Value → (List Value → Prop) → Prop
  | [], _, acc, K => K acc
  | o :: rest, hs, acc, K =>
    let go := fun (h : Hint) (hs' : List (Nat × Hint)) => edgC o.after.toList fun js => depC ops acc js fun l => appC l lo fun env => wantC ops env o fun c => match c with
      | true => cev P env L h o (fun v => snocC v acc fun acc' => drC P ops lo L rest hs' acc' K) (fun _ _ => False) (fun _ _ => False)
      | false => snocC undef acc fun acc' => drC P ops lo L rest hs' acc' K
    match hs with
    | [] => go o_ []
    | (0, h) :: r => go h r
    | (k + 1, h) :: r => go o_ ((k, h) :: r)
theorem drC_ok {P : Program} {ops : List Oper} {lo : Slots} {L : Blks} : ∀ (rest : List Oper) (hs : List (Nat × Hint)) (acc : List Value) (K : List Value → Prop), drC P ops lo L rest hs acc K →
    ∃ (vs : List Value) (hh : List Hint) (cs : List Prop), vs.length = rest.length ∧ K (acc ++ vs) ∧ (∀ c ∈ cs, c) ∧ ∀ nb, dres P ops ((acc ++ vs).map .inl) nb lo L rest hh = some (vs.map .inl, cs)
  | [], _, acc, K, h => ⟨[], [], [], rfl, by rw [List.append_nil]; exact h, (fun _ h => (by cases h)), fun _ => rfl⟩
  | o :: rest, hs, acc, K, h => by
    have key : ∀ (hh : Hint) (hs' : List (Nat × Hint)), (edgC o.after.toList fun js => depC ops acc js fun l => appC l lo fun env => wantC ops env o fun c => match c with
        | true => cev P env L hh o (fun v => snocC v acc fun acc' => drC P ops lo L rest hs' acc' K) (fun _ _ => False) (fun _ _ => False)
        | false => snocC undef acc fun acc' => drC P ops lo L rest hs' acc' K) →
        ∃ (vs : List Value) (hh : List Hint) (cs : List Prop), vs.length = (o :: rest).length ∧ K (acc ++ vs) ∧ (∀ c ∈ cs, c) ∧ ∀ nb, dres P ops ((acc ++ vs).map .inl) nb lo L (o :: rest) hh = some (vs.map .inl, cs) := fun hh hs' h => by
      have h0 := edgC_ok h
      -- whatever follows, the slots are these
      have hd : ∀ more nb, ∃ c, wantOf ops (depSlots ops ((acc ++ more).map .inl) nb (depsOf o) ++ lo) o = some c ∧ (match c with
        | true => cev P (depSlots ops ((acc ++ more).map .inl) nb (depsOf o) ++ lo) L hh o (fun v => snocC v acc fun acc' => drC P ops lo L rest hs' acc' K) (fun _ _ => False) (fun _ _ => False)
        | false => snocC undef acc fun acc' => drC P ops lo L rest hs' acc' K) := fun more nb => wantC_ok (appC_ok (depC_ok more nb h0))
      have same : ∀ more nb, depSlots ops ((acc ++ more).map .inl) nb (depsOf o) = depSlots ops (acc.map .inl) (fun _ => 0) (depsOf o) := fun more nb => by
        have e1 := depC_ok (K := fun l => ∀ more nb, depSlots ops ((acc ++ more).map .inl) nb (depsOf o) = l) [] (fun _ => 0) (show depC ops acc (depsOf o) _ from by
          have : ∀ (js : List Nat) (K K' : Slots → Prop), (∀ l, (∀ more nb, depSlots ops ((acc ++ more).map .inl) nb js = l) → K l → K' l) → depC ops acc js K → depC ops acc js K' := fun js => by
            induction js with
            | nil => exact fun K K' h1 h2 => h1 [] (fun _ _ => rfl) h2
            | cons j r ih =>
              intro K K' h1 h2
              unfold depC at h2 ⊢
              obtain ⟨q, q1, h2⟩ := nthC_ok h2
              have back : ∀ {α : Type} {i : Nat} {xs : List α} {x : α} {J : α → Prop}, xs[i]? = some x → J x → nthC i xs J := fun {α} {i} => by
                induction i with
                | zero => intro xs x J e hJ; cases xs with | nil => cases e | cons y r => cases e; exact hJ
                | succ i ihi => intro xs x J e hJ; cases xs with | nil => cases e | cons y r => exact ihi (by simpa using e) hJ
              refine back q1 ?_
              split at h2
              · rename_i d hd
                obtain ⟨v, q2, h2⟩ := nthC_ok h2
                refine back q2 (ih _ _ (fun l hl hk => h1 _ (fun more nb => ?_) hk) h2)
                have e1 : (ops[j]?).bind (·.dst) = some d := by rw [q1]; exact hd
                have e2 : ((acc ++ more).map Sum.inl : List Item)[j]? = some (.inl v) := by
                  rw [List.getElem?_map, List.getElem?_append_left (List.getElem?_eq_some_iff.1 q2).1, q2]; rfl
                unfold depSlots
                rw [e1, e2]
                show (d, v) :: _ = _
                rw [hl more nb]
              · exact h2.elim
          exact this _ _ _ (fun l hl _ => hl) h0)
        have := e1 more nb
        rw [this, List.append_nil]
      obtain ⟨c, hw, hc⟩ := hd [] (fun _ => 0)
      rw [same] at hw
      cases c with
      | true =>
        dsimp only at hc
        rw [same] at hc
        obtain ⟨r, cs1, h2, h3, h4⟩ := cev_ok hc
        rcases h4 with ⟨e1, e2, h4⟩ | ⟨ob, _, _, h4⟩ | ⟨_, h4⟩
        · obtain ⟨vs, hh', cs2, q1, q2, q3, q4⟩ := drC_ok rest hs' _ _ (snocC_ok h4)
          refine ⟨r.val 0 :: vs, hh :: hh', cs1 ++ cs2, by rw [List.length_cons, q1, List.length_cons], by rw [List.append_assoc] at q2; exact q2, fun c hc => (List.mem_append.1 hc).elim (h3 c) (q3 c), fun nb => ?_⟩
          have q4 := q4 nb
          rw [List.append_assoc] at q4
          unfold dres
          rw [show acc ++ (r.val 0 :: vs) = acc ++ ([r.val 0] ++ vs) from rfl, q4]
          dsimp only
          rw [same, hw]
          dsimp only
          rw [depBlks_inl, List.nil_append, h2]
          dsimp only
          have hi : itemOf r = some (.inl (r.val 0)) := by unfold itemOf; rw [e1, e2]
          rw [hi]
          rfl
        · exact h4.elim
        · exact h4.elim
      | false =>
        dsimp only at hc
        obtain ⟨vs, hh', cs2, q1, q2, q3, q4⟩ := drC_ok rest hs' _ _ (snocC_ok hc)
        refine ⟨undef :: vs, hh :: hh', cs2, by rw [List.length_cons, q1, List.length_cons], by rw [List.append_assoc] at q2; exact q2, q3, fun nb => ?_⟩
        have q4 := q4 nb
        rw [List.append_assoc] at q4
        unfold dres
        rw [show acc ++ (undef :: vs) = acc ++ ([undef] ++ vs) from rfl, q4]
        dsimp only
        rw [same, hw]
        rfl
    unfold drC at h
    match hs, h with
    | [], h => exact key _ _ h
    | (0, hh) :: r, h => exact key _ _ h
    | (k + 1, hh) :: r, h => exact key _ _ h
theorem valsOf_inl : ∀ (vs : List Value) (nb : Nat → Nat) (k : Nat), valsOf (vs.map .inl) nb k = vs
  | [], _, _ => rfl
  | v :: vs, nb, k => by rw [List.map_cons, valsOf, valsOf_inl vs nb (k + 1)]; rfl
section
variable {P : Program} {ops : Array Oper} {a : Act} {w0 w : World} {Q : Exit → Act → World → Prop} {n : Nat} {l : Slots} {L : Blks} {S : Nat → Prop} {R : List Row}
/-- A region that draws the order of its first m operations. -/
theorem rg_dc {id : Nat} (m : Nat) (F : Fr n a l) (M : MemS S w0 w L R) (hs hs' : List (Nat × Hint)) (b : Nat) (xs ds : List Nat)
    (g : dropsC (ops.toList.take m) l fun lo => drC P ops.toList lo L (ops.toList.take m) hs [] fun vs => pairsC (ops.toList.take m) vs l fun l' =>
      cwp P ops.toList b xs ds (fun l' L' => ∀ a' w', Fr n a' l' → MemS S w0 w' L' R → Q .normal a' w') (ops.toList.drop m) hs' l' L)
    (hm : P.follows .mixedOrders = true := by kernel_rfl) (hG : goodB ops.toList m n = true := by kernel_rfl) (hd : dstsB n ops.toList = true := by kernel_rfl) : (Code.region id ops true).wp P Q a w := by
  obtain ⟨vs, hh, cs, q1, q2, q3, q4⟩ := drC_ok _ _ _ _ (dropsC_ok g)
  have hle := (good_of hG).le
  have hvm : vs.length = m := by rw [q1, List.length_take]; omega
  rw [List.nil_append] at q2
  have q2 := pairsC_ok q2
  have hlen : (vs.map Sum.inl : List Item).length = m := by rw [List.length_map, hvm]
  have hd1 : dstsB n (ops.toList.take m) = true := by
    unfold dstsB at hd ⊢
    rw [List.all_eq_true] at hd ⊢
    exact fun o ho => hd o (List.mem_of_mem_take ho)
  have hd2 : dstsB n (ops.toList.drop m) = true := by
    unfold dstsB at hd ⊢
    rw [List.all_eq_true] at hd ⊢
    exact fun o ho => hd o (List.mem_of_mem_drop ho)
  refine region_list w.heap.size (vs.map .inl) [] (C := fun w' => Below w.heap.size w w') hm (by rw [F.size, hlen]; exact hG) ⟨rfl, rfl, rfl, Nat.le_refl _, fun _ _ => rfl⟩ (fun w1 w2 h h' => h.trans (h'.mono h.size)) (fun i hi => by simp at hi) ?_ ?_
  · have hk : ∀ nb, dres P ops.toList (vs.map .inl) nb (dropS (dstsOf (ops.toList.take (vs.map Sum.inl : List Item).length)) l) L (ops.toList.take (vs.map Sum.inl : List Item).length) hh = some (vs.map .inl, cs) := by rw [hlen]; exact q4
    exact draw_hall F M (vs.map .inl) [] hh (fun _ => cs) (by rw [hlen]; exact hG) hk trivial (fun _ => allC_iff.2 ⟨q3, trivial⟩)
  · intro nb w' hC hfacts hne
    rw [hlen]
    have F' := Fr.putAll (ops.toList.take m) vs a l F hd1
    have := cwp_ok (P := P) (ops := ops) (Q := Q) (w0 := w0) (S := S) (R := R) (n := n) (rest := []) (K := fun l' L' => ∀ a' w', Fr n a' l' → MemS S w0 w' L' R → Q .normal a' w') (fun l' L' a' w' hK F M => hK a' w' F M) (ops.toList.drop m) hs' _ _ _ w' hd2 q2 F' (M.keep hC)
    rw [List.append_nil] at this
    rw [valsOf_inl]
    exact this
end
end Go.Proofs.Ythgfjeljfiadmaa
namespace Go.Proofs.Ythgfjeljfiadmaa
open Go.RowKit
theorem en_len64 : Enters Try.prog 58 := fun args w => by simp [go_sem]
theorem en_blen : Enters Try.prog 78 := fun args w => by simp [go_sem]
theorem en_cmpi : Enters Try.prog 60 := fun args w => by simp [go_sem]
theorem en_cmpu : Enters Try.prog 61 := fun args w => by simp [go_sem]
theorem en_nani : Enters Try.prog 71 := fun args w => by simp [go_sem]
theorem en_nanu : Enters Try.prog 72 := fun args w => by simp [go_sem]
theorem en_mul64 : Enters Try.prog 79 := fun args w => by simp [go_sem]
set_option maxRecDepth 100000 in
theorem len64_any (x : Nat) (hx : x < 18446744073709551616) (w0 : World) :
    Calls Try.prog 58 #[iW x] w0 fun e w' => e = .returned (iN (bsz x)) ∧ Below w0.heap.size w0 w' := by
  refine enter_fr Try.func58 rfl Try.ntmps58 (by simp) fun ac (FF : Fr 25 ac [(0, iW x)]) => ?_
  have MM := MemS.start w0
  refine wp_seq (rg_c FF MM [] 3 [] [] (fun _ _ FF1 MM1 => then_n ?_))
  refine wp_seq ?_
  refine wp_seq (rg_c FF1 MM1 [] 3 [4] [] (fun _ _ FF2 MM2 => then_n ?_))
  by_cases hs4 : x ≥ 4294967296
  · refine wp_cond_true ((FF2.ev 0 rfl).trans (dec_t hs4)) ?_
    have q4 := bsz32 (x := x) hs4
    refine wp_seq (rg_c FF2 MM2 [(1, t_ (iW (x / 4294967296)))] 3 [] [] (⟨by decide, rfl, fun _ _ FF3 MM3 => then_n ?_⟩))
    refine rg_c FF3 MM3 [] 3 [] [] (fun _ _ FF4 MM4 => ?_)
    refine then_n ?_
    refine wp_seq ?_
    refine wp_seq (rg_c FF4 MM4 [] 3 [8] [] (fun _ _ FF5 MM5 => then_n ?_))
    by_cases hs8 : (x / 4294967296) ≥ 65536
    · refine wp_cond_true ((FF5.ev 0 rfl).trans (dec_t hs8)) ?_
      have q8 := bsz16 (x := x / 4294967296) hs8
      refine wp_seq (rg_c FF5 MM5 [(1, t_ (iW ((x / 4294967296) / 65536)))] 3 [] [] (⟨by decide, rfl, fun _ _ FF6 MM6 => then_n ?_⟩))
      refine rg_c FF6 MM6 [] 3 [] [] (⟨by decide, fun _ _ FF7 MM7 => ?_⟩)
      refine then_n ?_
      refine wp_seq ?_
      refine wp_seq (rg_c FF7 MM7 [] 3 [14] [] (fun _ _ FF8 MM8 => then_n ?_))
      by_cases hs14 : ((x / 4294967296) / 65536) ≥ 256
      · refine wp_cond_true ((FF8.ev 0 rfl).trans (dec_t hs14)) ?_
        have q14 := bsz_8 (x := (x / 4294967296) / 65536) hs14
        refine wp_seq (rg_c FF8 MM8 [(1, t_ (iW (((x / 4294967296) / 65536) / 256)))] 3 [] [] (⟨by decide, rfl, fun _ _ FF9 MM9 => then_n ?_⟩))
        refine rg_c FF9 MM9 [] 3 [] [] (⟨by decide, fun _ _ FF10 MM10 => ?_⟩)
        refine then_n ?_
        have hb8 : ((x / 4294967296) / 65536) / 256 < 256 := by omega
        have hb9 := bsz8 hb8
        refine wp_seq (rg_c FF10 MM10 [(2, t_ (iB (((x / 4294967296) / 65536) / 256))), (0, f_ (iB (bsz (((x / 4294967296) / 65536) / 256)))), (0, w_ 1), (0, t_ (iN (bsz x)))] 3 [] [] (⟨(vI (by omega)), (idxK_ok (x := .const (sB len8)) (y := .tmp 21) (i := ((x / 4294967296) / 65536) / 256) (by kernel_rfl) rfl rfl Try.underlying9 (lit_lt (by kernel_rfl)) hb8 (len8_at hb8)), (by have := hb9; omega), (by have := hb9; omega), (vI (by omega)), fun _ _ FF11 MM11 => then_n ?_⟩))
        refine wp_ret ?_
        repeat first | refine then_ret ?_ | refine inb_ret ?_
        exact (ret_fr FF11 0 Try.results58 rfl ⟨rfl, MM11.below⟩)
      · refine wp_cond_false ((FF8.ev 0 rfl).trans (dec_f hs14)) ?_
        refine wp_skip ?_
        refine then_n ?_
        have hb8 : (x / 4294967296) / 65536 < 256 := by omega
        have hb9 := bsz8 hb8
        refine wp_seq (rg_c FF8 MM8 [(2, t_ (iB ((x / 4294967296) / 65536))), (0, f_ (iB (bsz ((x / 4294967296) / 65536)))), (0, w_ 1), (0, t_ (iN (bsz x)))] 3 [] [] (⟨(vI (by omega)), (idxK_ok (x := .const (sB len8)) (y := .tmp 21) (i := (x / 4294967296) / 65536) (by kernel_rfl) rfl rfl Try.underlying9 (lit_lt (by kernel_rfl)) hb8 (len8_at hb8)), (by have := hb9; omega), (by have := hb9; omega), (vI (by omega)), fun _ _ FF12 MM12 => then_n ?_⟩))
        refine wp_ret ?_
        repeat first | refine then_ret ?_ | refine inb_ret ?_
        exact (ret_fr FF12 0 Try.results58 rfl ⟨rfl, MM12.below⟩)
    · refine wp_cond_false ((FF5.ev 0 rfl).trans (dec_f hs8)) ?_
      refine wp_skip ?_
      refine then_n ?_
      refine wp_seq ?_
      refine wp_seq (rg_c FF5 MM5 [] 3 [14] [] (fun _ _ FF13 MM13 => then_n ?_))
      by_cases hs14 : (x / 4294967296) ≥ 256
      · refine wp_cond_true ((FF13.ev 0 rfl).trans (dec_t hs14)) ?_
        have q14 := bsz_8 (x := x / 4294967296) hs14
        refine wp_seq (rg_c FF13 MM13 [(1, t_ (iW ((x / 4294967296) / 256)))] 3 [] [] (⟨by decide, rfl, fun _ _ FF14 MM14 => then_n ?_⟩))
        refine rg_c FF14 MM14 [] 3 [] [] (⟨by decide, fun _ _ FF15 MM15 => ?_⟩)
        refine then_n ?_
        have hb8 : (x / 4294967296) / 256 < 256 := by omega
        have hb9 := bsz8 hb8
        refine wp_seq (rg_c FF15 MM15 [(2, t_ (iB ((x / 4294967296) / 256))), (0, f_ (iB (bsz ((x / 4294967296) / 256)))), (0, w_ 1), (0, t_ (iN (bsz x)))] 3 [] [] (⟨(vI (by omega)), (idxK_ok (x := .const (sB len8)) (y := .tmp 21) (i := (x / 4294967296) / 256) (by kernel_rfl) rfl rfl Try.underlying9 (lit_lt (by kernel_rfl)) hb8 (len8_at hb8)), (by have := hb9; omega), (by have := hb9; omega), (vI (by omega)), fun _ _ FF16 MM16 => then_n ?_⟩))
        refine wp_ret ?_
        repeat first | refine then_ret ?_ | refine inb_ret ?_
        exact (ret_fr FF16 0 Try.results58 rfl ⟨rfl, MM16.below⟩)
      · refine wp_cond_false ((FF13.ev 0 rfl).trans (dec_f hs14)) ?_
        refine wp_skip ?_
        refine then_n ?_
        have hb8 : x / 4294967296 < 256 := by omega
        have hb9 := bsz8 hb8
        refine wp_seq (rg_c FF13 MM13 [(2, t_ (iB (x / 4294967296))), (0, f_ (iB (bsz (x / 4294967296)))), (0, w_ 1), (0, t_ (iN (bsz x)))] 3 [] [] (⟨(vI (by omega)), (idxK_ok (x := .const (sB len8)) (y := .tmp 21) (i := x / 4294967296) (by kernel_rfl) rfl rfl Try.underlying9 (lit_lt (by kernel_rfl)) hb8 (len8_at hb8)), (by have := hb9; omega), (by have := hb9; omega), (vI (by omega)), fun _ _ FF17 MM17 => then_n ?_⟩))
        refine wp_ret ?_
        repeat first | refine then_ret ?_ | refine inb_ret ?_
        exact (ret_fr FF17 0 Try.results58 rfl ⟨rfl, MM17.below⟩)
  · refine wp_cond_false ((FF2.ev 0 rfl).trans (dec_f hs4)) ?_
    refine wp_skip ?_
    refine then_n ?_
    refine wp_seq ?_
    refine wp_seq (rg_c FF2 MM2 [] 3 [8] [] (fun _ _ FF18 MM18 => then_n ?_))
    by_cases hs8 : x ≥ 65536
    · refine wp_cond_true ((FF18.ev 0 rfl).trans (dec_t hs8)) ?_
      have q8 := bsz16 (x := x) hs8
      refine wp_seq (rg_c FF18 MM18 [(1, t_ (iW (x / 65536)))] 3 [] [] (⟨by decide, rfl, fun _ _ FF19 MM19 => then_n ?_⟩))
      refine rg_c FF19 MM19 [] 3 [] [] (⟨by decide, fun _ _ FF20 MM20 => ?_⟩)
      refine then_n ?_
      refine wp_seq ?_
      refine wp_seq (rg_c FF20 MM20 [] 3 [14] [] (fun _ _ FF21 MM21 => then_n ?_))
      by_cases hs14 : (x / 65536) ≥ 256
      · refine wp_cond_true ((FF21.ev 0 rfl).trans (dec_t hs14)) ?_
        have q14 := bsz_8 (x := x / 65536) hs14
        refine wp_seq (rg_c FF21 MM21 [(1, t_ (iW ((x / 65536) / 256)))] 3 [] [] (⟨by decide, rfl, fun _ _ FF22 MM22 => then_n ?_⟩))
        refine rg_c FF22 MM22 [] 3 [] [] (⟨by decide, fun _ _ FF23 MM23 => ?_⟩)
        refine then_n ?_
        have hb8 : (x / 65536) / 256 < 256 := by omega
        have hb9 := bsz8 hb8
        refine wp_seq (rg_c FF23 MM23 [(2, t_ (iB ((x / 65536) / 256))), (0, f_ (iB (bsz ((x / 65536) / 256)))), (0, w_ 1), (0, t_ (iN (bsz x)))] 3 [] [] (⟨(vI (by omega)), (idxK_ok (x := .const (sB len8)) (y := .tmp 21) (i := (x / 65536) / 256) (by kernel_rfl) rfl rfl Try.underlying9 (lit_lt (by kernel_rfl)) hb8 (len8_at hb8)), (by have := hb9; omega), (by have := hb9; omega), (vI (by omega)), fun _ _ FF24 MM24 => then_n ?_⟩))
        refine wp_ret ?_
        repeat first | refine then_ret ?_ | refine inb_ret ?_
        exact (ret_fr FF24 0 Try.results58 rfl ⟨rfl, MM24.below⟩)
      · refine wp_cond_false ((FF21.ev 0 rfl).trans (dec_f hs14)) ?_
        refine wp_skip ?_
        refine then_n ?_
        have hb8 : x / 65536 < 256 := by omega
        have hb9 := bsz8 hb8
        refine wp_seq (rg_c FF21 MM21 [(2, t_ (iB (x / 65536))), (0, f_ (iB (bsz (x / 65536)))), (0, w_ 1), (0, t_ (iN (bsz x)))] 3 [] [] (⟨(vI (by omega)), (idxK_ok (x := .const (sB len8)) (y := .tmp 21) (i := x / 65536) (by kernel_rfl) rfl rfl Try.underlying9 (lit_lt (by kernel_rfl)) hb8 (len8_at hb8)), (by have := hb9; omega), (by have := hb9; omega), (vI (by omega)), fun _ _ FF25 MM25 => then_n ?_⟩))
        refine wp_ret ?_
        repeat first | refine then_ret ?_ | refine inb_ret ?_
        exact (ret_fr FF25 0 Try.results58 rfl ⟨rfl, MM25.below⟩)
    · refine wp_cond_false ((FF18.ev 0 rfl).trans (dec_f hs8)) ?_
      refine wp_skip ?_
      refine then_n ?_
      refine wp_seq ?_
      refine wp_seq (rg_c FF18 MM18 [] 3 [14] [] (fun _ _ FF26 MM26 => then_n ?_))
      by_cases hs14 : x ≥ 256
      · refine wp_cond_true ((FF26.ev 0 rfl).trans (dec_t hs14)) ?_
        have q14 := bsz_8 (x := x) hs14
        refine wp_seq (rg_c FF26 MM26 [(1, t_ (iW (x / 256)))] 3 [] [] (⟨by decide, rfl, fun _ _ FF27 MM27 => then_n ?_⟩))
        refine rg_c FF27 MM27 [] 3 [] [] (⟨by decide, fun _ _ FF28 MM28 => ?_⟩)
        refine then_n ?_
        have hb8 : x / 256 < 256 := by omega
        have hb9 := bsz8 hb8
        refine wp_seq (rg_c FF28 MM28 [(2, t_ (iB (x / 256))), (0, f_ (iB (bsz (x / 256)))), (0, w_ 1), (0, t_ (iN (bsz x)))] 3 [] [] (⟨(vI (by omega)), (idxK_ok (x := .const (sB len8)) (y := .tmp 21) (i := x / 256) (by kernel_rfl) rfl rfl Try.underlying9 (lit_lt (by kernel_rfl)) hb8 (len8_at hb8)), (by have := hb9; omega), (by have := hb9; omega), (vI (by omega)), fun _ _ FF29 MM29 => then_n ?_⟩))
        refine wp_ret ?_
        repeat first | refine then_ret ?_ | refine inb_ret ?_
        exact (ret_fr FF29 0 Try.results58 rfl ⟨rfl, MM29.below⟩)
      · refine wp_cond_false ((FF26.ev 0 rfl).trans (dec_f hs14)) ?_
        refine wp_skip ?_
        refine then_n ?_
        have hb8 : x < 256 := by omega
        have hb9 := bsz8 hb8
        refine wp_seq (rg_c FF26 MM26 [(2, t_ (iB x)), (0, f_ (iB (bsz (x)))), (0, w_ 1), (0, t_ (iN (bsz x)))] 3 [] [] (⟨(vI (by omega)), (idxK_ok (x := .const (sB len8)) (y := .tmp 21) (i := x) (by kernel_rfl) rfl rfl Try.underlying9 (lit_lt (by kernel_rfl)) hb8 (len8_at hb8)), (by have := hb9; omega), (by have := hb9; omega), (vI (by omega)), fun _ _ FF30 MM30 => then_n ?_⟩))
        refine wp_ret ?_
        repeat first | refine then_ret ?_ | refine inb_ret ?_
        exact (ret_fr FF30 0 Try.results58 rfl ⟨rfl, MM30.below⟩)
set_option maxRecDepth 100000 in
theorem blen_any (x : Nat) (hx : x < 18446744073709551616) (w0 : World) :
    Calls Try.prog 78 #[iW x] w0 fun e w' => e = .returned (iN (bsz x)) ∧ Below w0.heap.size w0 w' := by
  refine enter_fr Try.func78 rfl Try.ntmps78 (by simp) fun ac (FF : Fr 8 ac [(0, iW x)]) => ?_
  have MM := MemS.start w0
  refine wp_seq (rg_c FF MM [] 3 [] [] (fun _ _ FF1 MM1 => then_n ?_))
  refine wp_seq ?_
  refine wp_cond_false rfl ?_
  refine wp_skip ?_
  refine then_n ?_
  refine wp_seq (rg_c FF1 MM1 [(1, t_ (iN (bsz x)))] 3 [] [] (⟨(callP_of en_len64 (len64_any x hx) _), fun _ _ FF2 MM2 => then_n ?_⟩))
  refine wp_ret ?_
  repeat first | refine then_ret ?_ | refine inb_ret ?_
  exact (ret_fr FF2 0 Try.results78 rfl ⟨rfl, MM2.below⟩)
set_option maxRecDepth 100000 in
theorem nani_any (x : Nat) (w0 : World) :
    Calls Try.prog 71 #[iN x] w0 fun e w' => e = .returned (.bool false) ∧ Below w0.heap.size w0 w' := by
  refine enter_fr Try.func71 rfl Try.ntmps71 (by simp) fun ac (FF : Fr 6 ac [(0, iN x)]) => ?_
  have MM := MemS.start w0
  refine wp_seq (rg_c FF MM [] 3 [] [] (fun _ _ FF1 MM1 => then_n ?_))
  refine wp_seq (rg_c FF1 MM1 [(2, w_ 3)] 0 [2] [] (⟨(fun h => h rfl), fun _ _ FF2 MM2 => then_n ?_⟩))
  refine wp_ret ?_
  repeat first | refine then_ret ?_ | refine inb_ret ?_
  exact (ret_fr FF2 0 Try.results71 rfl ⟨rfl, MM2.below⟩)
set_option maxRecDepth 100000 in
theorem nanu_any (x : Nat) (w0 : World) :
    Calls Try.prog 72 #[iW x] w0 fun e w' => e = .returned (.bool false) ∧ Below w0.heap.size w0 w' := by
  refine enter_fr Try.func72 rfl Try.ntmps72 (by simp) fun ac (FF : Fr 6 ac [(0, iW x)]) => ?_
  have MM := MemS.start w0
  refine wp_seq (rg_c FF MM [] 3 [] [] (fun _ _ FF1 MM1 => then_n ?_))
  refine wp_seq (rg_c FF1 MM1 [(2, w_ 3)] 0 [2] [] (⟨(fun h => h rfl), fun _ _ FF2 MM2 => then_n ?_⟩))
  refine wp_ret ?_
  repeat first | refine then_ret ?_ | refine inb_ret ?_
  exact (ret_fr FF2 0 Try.results72 rfl ⟨rfl, MM2.below⟩)
theorem lt_of_eq_lt {a b c : Nat} (h : a = b) (h2 : b < c) : a < c := h ▸ h2
theorem cmpm {M N : Nat} (h : M < N) : (-1 : Int) = cmpN M N := by simp [cmpN, h]
theorem cmp0 {M N : Nat} (h : M = N) : ((0 : Nat) : Int) = cmpN M N := by simp [cmpN, h]
theorem cmp1 {M N : Nat} (h : N < M) : ((1 : Nat) : Int) = cmpN M N := by
  rw [cmpN, if_neg (by omega), if_neg (by omega)]; rfl
set_option maxRecDepth 100000 in
theorem cmpi_any (x y : Nat) (w0 : World) :
    Calls Try.prog 60 #[iN x, iN y] w0 fun e w' => e = .returned (.int .i64 (cmpN x y)) ∧ Below w0.heap.size w0 w' := by
  refine enter_fr Try.func60 rfl Try.ntmps60 (by simp) fun ac (FF : Fr 20 ac [(0, iN x), (1, iN y)]) => ?_
  have MM := MemS.start w0
  refine wp_seq (rg_c FF MM [] 5 [] [] (fun _ _ FF1 MM1 => then_n ?_))
  refine wp_seq (rg_c FF1 MM1 [(1, t_ (.bool false))] 6 [] [] (⟨(callP_of en_nani (nani_any x) _), fun _ _ FF2 MM2 => then_n ?_⟩))
  refine wp_seq (rg_c FF2 MM2 [(1, t_ (.bool false))] 7 [] [] (⟨(callP_of en_nani (nani_any y) _), fun _ _ FF3 MM3 => then_n ?_⟩))
  refine wp_seq ?_
  refine wp_seq (rg_c FF3 MM3 [] 12 [] [5] (fun _ _ FF4 MM4 => then_n ?_))
  refine wp_cond_false (FF4.ev 0 rfl) ?_
  refine wp_skip ?_
  refine then_n ?_
  refine wp_seq ?_
  refine wp_seq (rg_c FF4 MM4 [] 7 [13] [] (fun _ _ FF5 MM5 => then_n ?_))
  refine wp_cond_false (FF5.ev 0 rfl) ?_
  refine wp_skip ?_
  refine then_n ?_
  refine wp_seq ?_
  refine wp_seq (rg_c FF5 MM5 [] 7 [16] [] (fun _ _ FF6 MM6 => then_n ?_))
  by_cases hs16 : x < y
  · refine wp_cond_true ((FF6.ev 0 rfl).trans (dec_t hs16)) ?_
    refine wp_seq (rg_c FF6 MM6 [] 7 [] [] (fun _ _ FF7 MM7 => then_n ?_))
    refine wp_ret ?_
    repeat first | refine then_ret ?_ | refine inb_ret ?_
    exact (ret_fr FF7 0 Try.results60 rfl ⟨congrArg (fun z => Ending.returned (Value.int .i64 z)) (cmpm (by omega)), MM7.below⟩)
  · refine wp_cond_false ((FF6.ev 0 rfl).trans (dec_f hs16)) ?_
    refine wp_skip ?_
    refine then_n ?_
    refine wp_seq ?_
    refine wp_seq (rg_c FF6 MM6 [] 7 [19] [] (fun _ _ FF8 MM8 => then_n ?_))
    by_cases hs19 : x > y
    · refine wp_cond_true ((FF8.ev 0 rfl).trans (dec_t hs19)) ?_
      refine wp_seq (rg_c FF8 MM8 [] 7 [] [] (fun _ _ FF9 MM9 => then_n ?_))
      refine wp_ret ?_
      repeat first | refine then_ret ?_ | refine inb_ret ?_
      exact (ret_fr FF9 0 Try.results60 rfl ⟨congrArg (fun z => Ending.returned (Value.int .i64 z)) (cmp1 (by omega)), MM9.below⟩)
    · refine wp_cond_false ((FF8.ev 0 rfl).trans (dec_f hs19)) ?_
      refine wp_skip ?_
      refine then_n ?_
      refine wp_seq (rg_c FF8 MM8 [] 7 [] [] (fun _ _ FF10 MM10 => then_n ?_))
      refine wp_ret ?_
      repeat first | refine then_ret ?_ | refine inb_ret ?_
      exact (ret_fr FF10 0 Try.results60 rfl ⟨congrArg (fun z => Ending.returned (Value.int .i64 z)) (cmp0 (by omega)), MM10.below⟩)
set_option maxRecDepth 100000 in
theorem cmpu_any (x y : Nat) (w0 : World) :
    Calls Try.prog 61 #[iW x, iW y] w0 fun e w' => e = .returned (.int .i64 (cmpN x y)) ∧ Below w0.heap.size w0 w' := by
  refine enter_fr Try.func61 rfl Try.ntmps61 (by simp) fun ac (FF : Fr 20 ac [(0, iW x), (1, iW y)]) => ?_
  have MM := MemS.start w0
  refine wp_seq (rg_c FF MM [] 5 [] [] (fun _ _ FF1 MM1 => then_n ?_))
  refine wp_seq (rg_c FF1 MM1 [(1, t_ (.bool false))] 6 [] [] (⟨(callP_of en_nanu (nanu_any x) _), fun _ _ FF2 MM2 => then_n ?_⟩))
  refine wp_seq (rg_c FF2 MM2 [(1, t_ (.bool false))] 7 [] [] (⟨(callP_of en_nanu (nanu_any y) _), fun _ _ FF3 MM3 => then_n ?_⟩))
  refine wp_seq ?_
  refine wp_seq (rg_c FF3 MM3 [] 12 [] [5] (fun _ _ FF4 MM4 => then_n ?_))
  refine wp_cond_false (FF4.ev 0 rfl) ?_
  refine wp_skip ?_
  refine then_n ?_
  refine wp_seq ?_
  refine wp_seq (rg_c FF4 MM4 [] 7 [13] [] (fun _ _ FF5 MM5 => then_n ?_))
  refine wp_cond_false (FF5.ev 0 rfl) ?_
  refine wp_skip ?_
  refine then_n ?_
  refine wp_seq ?_
  refine wp_seq (rg_c FF5 MM5 [] 7 [16] [] (fun _ _ FF6 MM6 => then_n ?_))
  by_cases hs16 : x < y
  · refine wp_cond_true ((FF6.ev 0 rfl).trans (dec_t hs16)) ?_
    refine wp_seq (rg_c FF6 MM6 [] 7 [] [] (fun _ _ FF7 MM7 => then_n ?_))
    refine wp_ret ?_
    repeat first | refine then_ret ?_ | refine inb_ret ?_
    exact (ret_fr FF7 0 Try.results61 rfl ⟨congrArg (fun z => Ending.returned (Value.int .i64 z)) (cmpm (by omega)), MM7.below⟩)
  · refine wp_cond_false ((FF6.ev 0 rfl).trans (dec_f hs16)) ?_
    refine wp_skip ?_
    refine then_n ?_
    refine wp_seq ?_
    refine wp_seq (rg_c FF6 MM6 [] 7 [19] [] (fun _ _ FF8 MM8 => then_n ?_))
    by_cases hs19 : x > y
    · refine wp_cond_true ((FF8.ev 0 rfl).trans (dec_t hs19)) ?_
      refine wp_seq (rg_c FF8 MM8 [] 7 [] [] (fun _ _ FF9 MM9 => then_n ?_))
      refine wp_ret ?_
      repeat first | refine then_ret ?_ | refine inb_ret ?_
      exact (ret_fr FF9 0 Try.results61 rfl ⟨congrArg (fun z => Ending.returned (Value.int .i64 z)) (cmp1 (by omega)), MM9.below⟩)
    · refine wp_cond_false ((FF8.ev 0 rfl).trans (dec_f hs19)) ?_
      refine wp_skip ?_
      refine then_n ?_
      refine wp_seq (rg_c FF8 MM8 [] 7 [] [] (fun _ _ FF10 MM10 => then_n ?_))
      refine wp_ret ?_
      repeat first | refine then_ret ?_ | refine inb_ret ?_
      exact (ret_fr FF10 0 Try.results61 rfl ⟨congrArg (fun z => Ending.returned (Value.int .i64 z)) (cmp0 (by omega)), MM10.below⟩)
set_option maxRecDepth 100000 in
theorem mul64_any (x y : Nat) (hx : x < 18446744073709551616) (hy : y < 18446744073709551616) (w0 : World) :
    Calls Try.prog 79 #[iW x, iW y] w0 fun e w' => e = .returned (.tuple #[iW (x * y / 18446744073709551616), iW (x * y % 18446744073709551616)]) ∧ Below w0.heap.size w0 w' := by
  refine enter_fr Try.func79 rfl Try.ntmps79 (by simp) fun ac (FF : Fr 51 ac [(0, iW x), (1, iW y)]) => ?_
  have MM := MemS.start w0
  obtain ⟨g1, g2, g3, g4⟩ := Lib.mul64_hi x y hx hy
  refine wp_seq (rg_c FF MM [] 6 [] [] (fun _ _ FF1 MM1 => then_n ?_))
  refine wp_seq (rg_c FF1 MM1 [(1, t_ (iW (x % 4294967296)))] 7 [] [] (⟨(by have := hx; omega), by decide, (vI (and_low 32 _)), fun _ _ FF2 MM2 => then_n ?_⟩))
  refine wp_seq (rg_c FF2 MM2 [(1, t_ (iW (x / 4294967296)))] 8 [] [] (⟨by decide, rfl, fun _ _ FF3 MM3 => then_n ?_⟩))
  refine wp_seq (rg_c FF3 MM3 [(1, t_ (iW (y % 4294967296)))] 9 [] [] (⟨(by have := hy; omega), by decide, (vI (and_low 32 _)), fun _ _ FF4 MM4 => then_n ?_⟩))
  refine wp_seq (rg_c FF4 MM4 [(1, t_ (iW (y / 4294967296)))] 9 [9] [] (⟨by decide, rfl, fun _ _ FF5 MM5 => then_n ?_⟩))
  refine wp_seq (rg_c FF5 MM5 [(2, w_ 1)] 11 [] [] (⟨g1, fun _ _ FF6 MM6 => then_n ?_⟩))
  refine wp_seq (rg_c FF6 MM6 [(2, w_ 1), (1, t_ (iW (((x % 4294967296) * (y % 4294967296)) / 4294967296))), (0, w_ 1)] 10 [11] [] (⟨(Nat.lt_of_le_of_lt (Nat.le_add_right _ _) g2), by decide, rfl, g2, fun _ _ FF7 MM7 => then_n ?_⟩))
  refine wp_seq (rg_c FF7 MM7 [(1, t_ (iW ((((x / 4294967296) * (y % 4294967296)) + (((x % 4294967296) * (y % 4294967296)) / 4294967296)) % 4294967296)))] 13 [] [] (⟨g2, by decide, (vI (and_low 32 _)), fun _ _ FF8 MM8 => then_n ?_⟩))
  refine wp_seq (rg_c FF8 MM8 [(1, t_ (iW ((((x / 4294967296) * (y % 4294967296)) + (((x % 4294967296) * (y % 4294967296)) / 4294967296)) / 4294967296)))] 14 [] [] (⟨by decide, rfl, fun _ _ FF9 MM9 => then_n ?_⟩))
  refine wp_seq (rg_c FF9 MM9 [(3, w_ 1), (0, w_ 1)] 14 [] [] (⟨(Nat.lt_of_le_of_lt (Nat.le_add_left _ _) g3), g3, fun _ _ FF10 MM10 => then_n ?_⟩))
  have g5 : x * y / 18446744073709551616 < 18446744073709551616 := Nat.div_lt_of_lt_mul (Nat.mul_lt_mul_of_lt_of_lt hx hy)
  refine wp_seq (rg_c FF10 MM10 [(2, w_ 1), (1, w_ 1), (1, t_ (iW ((((((x / 4294967296) * (y % 4294967296)) + (((x % 4294967296) * (y % 4294967296)) / 4294967296)) % 4294967296) + ((x % 4294967296) * (y / 4294967296))) / 4294967296))), (0, u_ 1 (iW (x * y / 18446744073709551616)))] 13 [] [] (⟨(Nat.lt_of_le_of_lt (Nat.le_trans (Nat.le_add_right _ _) (Nat.le_trans (Nat.le_add_right _ _) (Nat.le_of_eq g4))) g5), (Nat.lt_of_le_of_lt (Nat.le_trans (Nat.le_add_right _ _) (Nat.le_of_eq g4)) g5), by decide, rfl, (lt_of_eq_lt g4 g5), (vI g4), fun _ _ FF11 MM11 => then_n ?_⟩))
  refine wp_seq (rg_c FF11 MM11 [] 13 [] [] (fun _ _ FF12 MM12 => then_n ?_))
  refine wp_ret ?_
  repeat first | refine then_ret ?_ | refine inb_ret ?_
  exact (ret_tup2 FF12 1 0 Try.results79 rfl rfl ⟨rfl, MM12.below⟩)
end Go.Proofs.Ythgfjeljfiadmaa
namespace Go.Proofs.Ythgfjeljfiadmaa
open Go.RowKit
theorem rep_get (n k : Nat) : (List.replicate n 0).getD k 0 = 0 := by rw [List.getD_eq_getElem?_getD, List.getElem?_replicate]; split <;> rfl
end Go.Proofs.Ythgfjeljfiadmaa
namespace Go.Proofs.Ythgfjeljfiadmaa
open Go.RowKit
theorem en_trimd : Enters Try.prog 70 := fun args w => by simp [go_sem]
theorem en_nof : Enters Try.prog 76 := fun args w => by simp [go_sem]
theorem en_nbytes : Enters Try.prog 59 := fun args w => by simp [go_sem]
theorem en_nbits : Enters Try.prog 41 := fun args w => by simp [go_sem]
theorem en_ncmp : Enters Try.prog 44 := fun args w => by simp [go_sem]
theorem en_nadd : Enters Try.prog 46 := fun args w => by simp [go_sem]
theorem en_nmul : Enters Try.prog 63 := fun args w => by simp [go_sem]
theorem en_npow : Enters Try.prog 75 := fun args w => by simp [go_sem]
theorem en_plus : Enters Try.prog 62 := fun args w => by simp [go_sem]
theorem en_times : Enters Try.prog 74 := fun args w => by simp [go_sem]
theorem en_addt : Enters Try.prog 77 := fun args w => by simp [go_sem]
theorem trim_len {X : List Nat} (hX : ∀ i, X.getD i 0 < 18446744073709551616) {n : Nat} (hn : n ≤ X.length) (h0 : ∀ i, n ≤ i → X.getD i 0 = 0) (h1 : n = 0 ∨ X.getD (n - 1) 0 ≠ 0) : n = qsz (qleV X) := by
  have := congrArg List.length (qtrim_ok hX hn h0 h1)
  rwa [qminB_len, List.length_take, Nat.min_eq_left hn] at this
theorem trim_zero {X : List Nat} {n : Nat} (h : n = qsz (qleV X)) (h0 : n = 0) : qleV X = 0 := by
  have := (qsz_ok (qleV X)).1
  rw [← h, h0] at this
  simpa using this
theorem trim_some {X : List Nat} {n : Nat} (_hX : ∀ i, X.getD i 0 < 18446744073709551616) (h : n = qsz (qleV X)) (h0 : ¬ n = 0) : ¬ qleV X = 0 := fun e => h0 (by rw [h, e]; rfl)
set_option maxRecDepth 100000 in
theorem trimd_O (O : Blks) (hD : Distinct O) (p : Option Addr) (c : Nat) (X : List Nat) (hX : ∀ i, X.getD i 0 < 18446744073709551616) (hc0 : X.length ≤ c) (hl : X.length < 4611686018427387904) (hA : CellsO O p X.length (fun j => iW (X.getD j 0))) (w0 : World) (H : Has w0 O) :
    Calls Try.prog 70 #[.slice p X.length c] w0 fun e w' => e = .returned (trimV p (qleV X) c) ∧ Below w0.heap.size w0 w' := by
  refine enter_fr Try.func70 rfl Try.ntmps70 (by simp) fun ac (FF : Fr 23 ac [(0, .slice p X.length c)]) => ?_
  have MM : MemS (fun k => k < w0.heap.size ∧ ∀ x ∈ O, x.1 ≠ k) w0 w0 O [] := MemS.startN H hD
  refine wp_seq (rg_c FF MM [] 3 [] [] (fun _ _ FF1 MM1 => then_n ?_))
  refine wp_seq (rg_c FF1 MM1 [] 4 [] [] (fun _ _ FF2 MM2 => then_n ?_))
  refine wp_seq ?_
  refine wp_for2w (fun a' w' => ∃ n : Nat, n ≤ X.length ∧ (∀ i, n ≤ i → X.getD i 0 = 0) ∧ Fr 23 a' [(3, iN n), (2, .slice none 0 0), (0, .slice p X.length c)] ∧ MemS (fun k => k < w0.heap.size ∧ ∀ x ∈ O, x.1 ≠ k) w0 w' O []) (fun a' _ => (cnt 3 a').toNat) ⟨X.length, Nat.le_refl _, (fun _ h => getD_out h), FF2.pick [0, 1, 2], MM2⟩ ?_
  rintro ac3 wd3 ⟨n, hn, h0, FF3, MM3⟩
  have hc := cnt_of (FF3.get 0 rfl)
  by_cases h1 : n > 0
  · by_cases h2 : X.getD (n - 1) 0 = 0
    · skip
      refine rg_c FF3 MM3 [(1, w_ 2), (4, f_ (.pointer (some ⟨gOf p, n - 1, none⟩))), (0, f_ (iW (X.getD (n - 1) 0))), (0, w_ 2)] 4 [15] [] (⟨by omega, by omega, by omega, (rowAddr_ok (x := (.tmp 9)) (y := (.tmp 11)) (by kernel_rfl) rfl rfl Try.underlying74 (by kernel_rfl) hA (by omega)), (rowLoad_ok (x := (.tmp 12)) (i := n - 1) (by kernel_rfl) rfl Try.underlying101 rfl hA (fun _ hx => hx) (by omega)), h2, fun _ _ FF4 MM4 => ?_⟩)
      refine then_n (.inl ⟨FF4.ev 0 rfl, ?_⟩)
      refine rg_c FF4 MM4 [] 4 [] [] (⟨by omega, by omega, fun _ _ FF5 MM5 => ?_⟩)
      refine inb_n ?_
      have hd := cnt_of (FF5.get 0 rfl)
      refine then_n ⟨⟨n - 1, by omega, fun i hi => (Nat.eq_or_lt_of_le hi).elim (fun e => e ▸ h2) (fun h => h0 i (by omega)), FF5.pick [0, 1, 2], MM5⟩, ?_⟩
      rw [hc, hd]; omega
    · skip
      refine rg_c FF3 MM3 [(1, w_ 2), (4, f_ (.pointer (some ⟨gOf p, n - 1, none⟩))), (0, f_ (iW (X.getD (n - 1) 0))), (0, w_ 3)] 4 [15] [] (⟨by omega, by omega, by omega, (rowAddr_ok (x := (.tmp 9)) (y := (.tmp 11)) (by kernel_rfl) rfl rfl Try.underlying74 (by kernel_rfl) hA (by omega)), (rowLoad_ok (x := (.tmp 12)) (i := n - 1) (by kernel_rfl) rfl Try.underlying101 rfl hA (fun _ hx => hx) (by omega)), h2, fun _ _ FF6 MM6 => ?_⟩)
      refine then_n (.inr ⟨FF6.ev 0 rfl, ?_⟩)
      have hz := trim_len hX hn h0 (by first | exact .inl (by omega) | exact .inr h2)
      refine then_n ?_
      refine wp_seq ?_
      refine wp_seq (rg_c FF6 MM6 [] 4 [19] [] (fun _ _ FF7 MM7 => then_n ?_))
      by_cases hs19 : n = 0
      · refine wp_cond_true ((FF7.ev 0 rfl).trans (dec_t hs19)) ?_
        have hN := trim_zero hz hs19
        refine wp_seq (rg_c FF7 MM7 [] 4 [] [] (fun _ _ FF8 MM8 => then_n ?_))
        refine wp_ret ?_
        repeat first | refine then_ret ?_ | refine inb_ret ?_
        exact (ret_fr FF8 0 Try.results70 rfl ⟨congrArg Ending.returned (by rw [trimV_zero _ _ hN]), MM8.belowN H (fun _ hx => hx)⟩)
      · refine wp_cond_false ((FF7.ev 0 rfl).trans (dec_f hs19)) ?_
        have hN := trim_some hX hz hs19
        refine wp_skip ?_
        refine then_n ?_
        refine wp_seq (rg_c FF7 MM7 [(2, f_ (.slice p n c))] 4 [] [] (⟨(sliceTo_ok (x := .tmp 20) (y := .tmp 21) (by kernel_rfl) rfl rfl Try.underlying74 (by kernel_rfl) hA (by omega) hn hc0), fun _ _ FF9 MM9 => then_n ?_⟩))
        refine wp_ret ?_
        repeat first | refine then_ret ?_ | refine inb_ret ?_
        exact (ret_fr FF9 0 Try.results70 rfl ⟨congrArg Ending.returned (by rw [trimV_pos _ _ hN, hz]), MM9.belowN H (fun _ hx => hx)⟩)
  · skip
    refine rg_c FF3 MM3 [(1, w_ 3)] 4 [15] [] (⟨by omega, fun _ _ FF10 MM10 => ?_⟩)
    refine then_n (.inr ⟨FF10.ev 0 rfl, ?_⟩)
    have hz := trim_len hX hn h0 (by first | exact .inl (by omega) | exact .inr h2)
    refine then_n ?_
    refine wp_seq ?_
    refine wp_seq (rg_c FF10 MM10 [] 4 [19] [] (fun _ _ FF11 MM11 => then_n ?_))
    by_cases hs19 : n = 0
    · refine wp_cond_true ((FF11.ev 0 rfl).trans (dec_t hs19)) ?_
      have hN := trim_zero hz hs19
      refine wp_seq (rg_c FF11 MM11 [] 4 [] [] (fun _ _ FF12 MM12 => then_n ?_))
      refine wp_ret ?_
      repeat first | refine then_ret ?_ | refine inb_ret ?_
      exact (ret_fr FF12 0 Try.results70 rfl ⟨congrArg Ending.returned (by rw [trimV_zero _ _ hN]), MM12.belowN H (fun _ hx => hx)⟩)
    · refine wp_cond_false ((FF11.ev 0 rfl).trans (dec_f hs19)) ?_
      have hN := trim_some hX hz hs19
      refine wp_skip ?_
      refine then_n ?_
      refine wp_seq (rg_c FF11 MM11 [(2, f_ (.slice p n c))] 4 [] [] (⟨(sliceTo_ok (x := .tmp 20) (y := .tmp 21) (by kernel_rfl) rfl rfl Try.underlying74 (by kernel_rfl) hA (by omega) hn hc0), fun _ _ FF13 MM13 => then_n ?_⟩))
      refine wp_ret ?_
      repeat first | refine then_ret ?_ | refine inb_ret ?_
      exact (ret_fr FF13 0 Try.results70 rfl ⟨congrArg Ending.returned (by rw [trimV_pos _ _ hN, hz]), MM13.belowN H (fun _ hx => hx)⟩)
theorem cells_O {w : World} {p : Option Addr} {n : Nat} {V : Nat → Value} (h : CellsIn w p n V) : ∃ O : Blks, Has w O ∧ Distinct O ∧ CellsO O p n V := by
  rcases h with h | ⟨b, cs, T, fr, h1, h2, h3⟩
  · exact ⟨[], fun i x hx => by simp at hx, trivial, .inl h⟩
  · refine ⟨[(b, .cells cs T fr)], fun i x hx => ?_, ⟨fun y hy => (nomatch hy), trivial⟩, .inr ⟨b, cs, T, fr, h1, by simp, h3⟩⟩
    cases i with
    | zero => simp at hx; subst hx; exact h2
    | succ i => simp at hx
theorem trimd_any (p : Option Addr) (c : Nat) (X : List Nat) (hX : ∀ i, X.getD i 0 < 18446744073709551616) (hc0 : X.length ≤ c) (hl : X.length < 4611686018427387904) (w : World) (hA : CellsIn w p X.length (fun j => iW (X.getD j 0))) :
    Calls Try.prog 70 #[.slice p X.length c] w fun e w' => e = .returned (trimV p (qleV X) c) ∧ Below w.heap.size w w' := by
  obtain ⟨O, h1, h2, h3⟩ := cells_O hA
  exact trimd_O O h2 p c X hX hc0 hl h3 w h1
theorem qleV_one (x : Nat) : qleV [x] = x := by simp [qleV]
theorem one_lt {x : Nat} (hx : x < 18446744073709551616) : ∀ i, [x].getD i 0 < 18446744073709551616 := fun i => by
  cases i with
  | zero => exact hx
  | succ i => simp
theorem MemS.fresh {w0 w : World} {L : Blks} {R : List Row} (M : MemS (fun k => k < w0.heap.size) w0 w L R) (i : Nat) {b : Nat} {ob : Obj} (h : L[i]? = some (b, ob)) : w0.heap.size ≤ b := Nat.le_of_not_lt (M.base i _ h)
set_option maxRecDepth 100000 in
theorem nof_any (x : Nat) (hx : x < 18446744073709551616) (w0 : World) :
    Calls Try.prog 76 #[iW x] w0 fun e w' => ∃ v, e = .returned (.agg #[nv x v]) ∧ Below w0.heap.size w0 w' ∧ NatNew w0.heap.size w' (nv x v) x := by
  refine enter_fr Try.func76 rfl Try.ntmps76 (by simp) fun ac (FF : Fr 7 ac [(0, iW x)]) => ?_
  have MM := MemS.start w0
  refine wp_seq (rg_c FF MM [] 3 [] [] (fun br => fun _ _ FF1 MM1 => then_n ?_))
  refine wp_seq (wp_region_list ?_)
  refine rp_c 2 FF1 MM1 [(1, s_ 0 (.cells (cn .u64 [x]) 101))] 3 [4] [0] (⟨(by kernel_rfl), fun bo => fun _ _ FF2 MM2 => ?_⟩)
  refine rp_c 3 FF2 MM2 [(0, u_ 1 (trimV (some ⟨bo, 0, none⟩) x 1)), (0, t_ (aG #[trimV (some ⟨bo, 0, none⟩) x 1])), (0, b_ 1)] 3 [] [] (⟨⟨en_trimd, fun w Hw => by have h0 := trimd_any (some ⟨bo, 0, none⟩) 1 [x] (one_lt hx) (by simp) (by simp) w (.inr ⟨bo, _, _, _, rfl, Hw 0 _ rfl, fun j hj => cn_get _ _ _ hj⟩); rw [show [x].length = 1 from rfl, qleV_one] at h0; exact h0⟩, (by kernel_rfl), rfl, rfl, rfl, (by kernel_rfl), rfl, fun _ _ FF3 MM3 => ?_⟩)
  refine wpl_nil (then_n ?_)
  refine wp_ret ?_
  repeat first | refine then_ret ?_ | refine inb_ret ?_
  exact (retc FF3 MM3 (k := 1) (i := 1) (j := 0) Try.results76 rfl rfl Try.underlying76 rfl (by kernel_rfl) rfl ⟨trimV (some ⟨bo, 0, none⟩) x 1, rfl, MM3.below, by have h0 := trim_new0 (c := 1) (X := [x]) (base := w0.heap.size) (one_lt hx) (by simp) (MM3.get 0 rfl) (MM3.fresh 0 rfl); rw [qleV_one] at h0; exact h0⟩)
theorem qleB_nil (X : List Nat) (m : Nat) : qleB m (leV (X.take 0)) = List.replicate m 0 := by
  refine ext_getD (by simp [qleB_len]) fun i hi => ?_
  rw [qleB_len] at hi
  rw [qleB_get hi, rep_get]
  simp [leV]
theorem pow8 (k : Nat) : 18446744073709551616 ^ k = 256 ^ (8 * k) := by rw [Nat.pow_mul]
theorem leV_take {X : List Nat} (hX : ∀ i, X.getD i 0 < 256) (i : Nat) : leV (X.take i) < 256 ^ i := by
  have := leV_lt (X.take i) (take_lt hX)
  exact Nat.lt_of_lt_of_le this (pw_le (by simp; omega))
theorem leV_take1 {X : List Nat} {i : Nat} (h : i < X.length) : leV (X.take (i + 1)) = leV (X.take i) + 256 ^ i * X.getD i 0 := by
  rw [List.take_add_one, leV_app, List.getElem?_eq_getElem h]
  simp [leV, Nat.min_eq_left (Nat.le_of_lt h), List.getD_eq_getElem?_getD, List.getElem?_eq_getElem h]
/-- A byte more. -/
theorem word_more {N i x : Nat} (hN : N < 256 ^ i) (hx : x < 256) (j : Nat) : qd (N + 256 ^ i * x) j = if j = i / 8 then qd N j ||| x * 2 ^ (8 * (i % 8)) % 18446744073709551616 else qd N j := by
  have hi : 256 ^ i = 18446744073709551616 ^ (i / 8) * 256 ^ (i % 8) := by rw [pow8, ← Nat.pow_add]; congr 1; omega
  have h8 : 256 ^ (i % 8) * 256 ≤ 18446744073709551616 := by
    rw [← Nat.pow_succ]
    exact Nat.le_trans (pw_le (show i % 8 + 1 ≤ 8 by omega)) (by decide)
  have e2 : 2 ^ (8 * (i % 8)) = 256 ^ (i % 8) := by rw [Nat.pow_mul]
  rcases Nat.lt_trichotomy j (i / 8) with h | h | h
  · rw [if_neg (by omega)]
    unfold qd
    have : 256 ^ i * x = 18446744073709551616 ^ j * (18446744073709551616 * (18446744073709551616 ^ (i / 8 - j - 1) * 256 ^ (i % 8) * x)) := by
      rw [hi, show 18446744073709551616 ^ (i / 8) = 18446744073709551616 ^ j * (18446744073709551616 * 18446744073709551616 ^ (i / 8 - j - 1)) by rw [← Nat.pow_succ', ← Nat.pow_add]; congr 1; omega]
      simp only [Nat.mul_assoc]
    rw [this, Nat.add_mul_div_left _ _ (Nat.pow_pos (by decide)), Nat.add_mul_mod_self_left]
  · subst h
    rw [if_pos rfl]
    unfold qd
    rw [hi, Nat.mul_assoc, Nat.add_mul_div_left _ _ (Nat.pow_pos (by decide)), e2]
    have hq : N / 18446744073709551616 ^ (i / 8) < 256 ^ (i % 8) := Nat.div_lt_of_lt_mul (by rw [← hi]; exact hN)
    have hlt : N / 18446744073709551616 ^ (i / 8) < 18446744073709551616 := by omega
    have hx8 : 256 ^ (i % 8) * x < 18446744073709551616 := Nat.lt_of_lt_of_le ((Nat.mul_lt_mul_left (Nat.pow_pos (by decide))).2 hx) h8
    have hs : 256 ^ (i % 8) * (x + 1) ≤ 18446744073709551616 := Nat.le_trans (Nat.mul_le_mul_left _ hx) h8
    rw [Nat.mod_eq_of_lt hlt, Nat.mul_comm x, Nat.mod_eq_of_lt hx8, Nat.mul_comm (256 ^ (i % 8)) x, ← e2, or_shl _ (by rw [e2]; exact hq), Nat.mod_eq_of_lt]
    rw [e2, Nat.mul_comm x]
    rw [Nat.mul_add, Nat.mul_one] at hs
    omega
  · rw [if_neg (by omega)]
    unfold qd
    have hb : 256 ^ i * 256 ≤ 18446744073709551616 ^ j := by
      rw [pow8, ← Nat.pow_succ]; exact pw_le (by omega)
    have h1 : N + 256 ^ i * x < 18446744073709551616 ^ j := by
      have : 256 ^ i * (x + 1) ≤ 256 ^ i * 256 := Nat.mul_le_mul_left _ hx
      rw [Nat.mul_add, Nat.mul_one] at this
      omega
    rw [Nat.div_eq_of_lt h1, Nat.div_eq_of_lt (Nat.lt_of_le_of_lt (Nat.le_add_right _ _) h1)]
theorem bytes_step {X : List Nat} (hX : ∀ i, X.getD i 0 < 256) {i m : Nat} (hi : i < X.length) (hm : i / 8 < m) : (qleB m (leV (X.take i))).set (i / 8) (qd (leV (X.take i)) (i / 8) ||| X.getD i 0 * 2 ^ (8 * (i % 8)) % 18446744073709551616) = qleB m (leV (X.take (i + 1))) := by
  refine ext_getD (by simp [qleB_len]) fun j hj => ?_
  simp only [List.length_set, qleB_len] at hj
  rw [getD_set, qleB_get hj, leV_take1 hi, qleB_get hj, qleB_len]
  have := word_more (leV_take hX i) (hX i) j
  unfold qd at this ⊢
  rw [this]
  by_cases e : i / 8 = j
  · subst e; rw [if_pos ⟨rfl, hm⟩, if_pos rfl]
  · rw [if_neg (fun h => e h.1), if_neg (fun h => e h.symm)]
theorem qleV_bytes {X : List Nat} (hX : ∀ i, X.getD i 0 < 256) : qleV (qleB ((X.length + 7) / 8) (leV X)) = leV X := by
  rw [qleV_leB, Nat.mod_eq_of_lt]
  rw [pow8]
  exact Nat.lt_of_lt_of_le (leV_lt X hX) (pw_le (by omega))
set_option maxRecDepth 100000 in
theorem nbytes_any (X : List Nat) (hX : ∀ i, X.getD i 0 < 256) (hl : X.length < 1000000000) (w0 : World) :
    Calls Try.prog 59 #[sB X] w0 fun e w' => ∃ v, e = .returned (.agg #[nv (leV X) v]) ∧ Below w0.heap.size w0 w' ∧ NatNew w0.heap.size w' (nv (leV X) v) (leV X) := by
  refine enter_fr Try.func59 rfl Try.ntmps59 (by simp) fun ac (FF : Fr 35 ac [(0, sB X)]) => ?_
  have MM := MemS.start w0
  refine wp_seq (rg_c FF MM [] 3 [] [] (fun br => fun _ _ FF1 MM1 => then_n ?_))
  refine wp_seq (rg_c FF1 MM1 [(1, t_ (iN X.length)), (1, t_ (iN (X.length + 7))), (0, t_ (iN ((X.length + 7) / 8))), (0, n_ (.slice none ((X.length + 7) / 8) ((X.length + 7) / 8)) (.cells (cn .u64 (List.replicate ((X.length + 7) / 8) 0)) 101))] 4 [] [] (⟨(vI (bs_size _)), by omega, by omega, by omega, (vI (by omega)), by decide, by omega, rfl, (make64_ok (t := 74) (e := 101) (p := (.tmp 9)) (q := (.tmp 9)) (by kernel_rfl) rfl rfl Try.underlying74 (by kernel_rfl) (by omega)), fun bo => fun _ _ FF2 MM2 => then_n ?_⟩))
  have MMr : MemS _ _ _ [(bo, .cells (cn .u64 (qleB ((X.length + 7) / 8) (leV (X.take 0)))) 101), _] _ := MM2.eqA 0 rfl (by rw [show qleB ((X.length + 7) / 8) (leV (X.take 0)) = List.replicate ((X.length + 7) / 8) 0 from qleB_nil _ _] <;> rfl)
  refine wp_seq ?_
  refine wp_seq (rg_c FF2 MMr [(1, t_ (iN X.length))] 14 [] [11] (⟨(vI (bs_size _)), fun _ _ FF3 MM3 => then_n ?_⟩))
  refine wp_for (fun a' w' => ∃ i : Nat, i ≤ X.length ∧ Fr 35 a' [(13, iN i), (12, iN X.length), (3, .slice (some ⟨bo, 0, none⟩) ((X.length + 7) / 8) ((X.length + 7) / 8)), (2, pT br), (0, sB X)] ∧ MemS (fun k => k < w0.heap.size) w0 w' [(bo, .cells (cn .u64 (qleB ((X.length + 7) / 8) (leV (X.take i)))) 101), (br, oC #[.slice none 0 0] 76)] []) (fun a' _ => (X.length - cnt 13 a').toNat) ⟨0, by omega, FF3.pick [0, 1, 2, 3, 4], MM3⟩ ?_
  rintro ac4 wd4 ⟨i, hi, FF4, MM4⟩
  have hc := cnt_of (FF4.get 0 rfl)
  refine rg_c FF4 MM4 [] 15 [] [] (fun _ wd5 FF5 MM5 => ?_)
  by_cases hlt : i < X.length
  · skip
    refine then_n (.inl ⟨(FF5.ev 0 rfl).trans (dec_t hlt), ?_⟩)
    refine wp_seq (rg_c FF5 MM5 [] 14 [] [] (fun _ _ FF6 MM6 => then_n ?_))
    refine rg_dc 15 FF6 MM6 [(3, w_ 1), (0, l_ 0 (iW (qd (leV (X.take i)) (i / 8)))), (2, t_ (iB (X.getD i 0))), (0, w_ 1), (5, w_ 1)] [(0, s_ 0 (.cells (cn .u64 (qleB ((X.length + 7) / 8) (leV (X.take (i + 1))))) 101))] 14 [] [] (⟨by decide, by omega, by omega, rfl, ((cn_get _ _ _ (by rw [qleB_len]; omega)).trans (congrArg some (vI (qleB_get (by omega))))), (by simp only [bs_size]; omega), (byte_bs hX _), (by have := hX i; omega), by decide, by omega, (qd_lt _ _), (Nat.mod_lt _ (by decide)), by omega, rfl, (by rw [cn_size, (qleB_len _ _)]; omega), (.inl rfl), ((cn_set _ _ _ _).trans (congrArg _ (bytes_step hX (by omega) (by omega)))), fun _ _ FF7 MM7 => ?_⟩)
    refine inb_n (then_n ?_)
    refine rg_c FF7 MM7 [] 14 [] [] (⟨by omega, fun _ _ FF8 MM8 => ?_⟩)
    have hd := cnt_of (FF8.get 0 rfl)
    refine then_n ⟨⟨i + 1, by omega, FF8.pick [0, 2, 3, 4, 5], MM8⟩, ?_⟩
    rw [hc, hd]; omega
  · skip
    refine then_n (.inr ⟨(FF5.ev 0 rfl).trans (dec_f hlt), ?_⟩)
    obtain rfl : i = X.length := by omega
    have MMl : MemS (fun k => k < w0.heap.size) w0 wd5 [(bo, .cells (cn .u64 (qleB ((X.length + 7) / 8) (leV X))) 101), (br, oC #[.slice none 0 0] 76)] [] := by rw [List.take_length] at MM5; exact MM5
    refine then_n ?_
    refine wp_seq (rg_c FF5 MMl [(1, u_ 1 (trimV (some ⟨bo, 0, none⟩) (leV X) ((X.length + 7) / 8))), (0, t_ (aG #[trimV (some ⟨bo, 0, none⟩) (leV X) ((X.length + 7) / 8)])), (0, b_ 1)] 14 [] [] (⟨⟨en_trimd, fun w Hw => by have h0 := trimd_any (some ⟨bo, 0, none⟩) ((X.length + 7) / 8) (qleB ((X.length + 7) / 8) (leV X)) (qleB_lt _ _) (by rw [qleB_len]; exact Nat.le_refl _) (by rw [qleB_len]; omega) w (.inr ⟨bo, _, _, _, rfl, Hw 0 _ rfl, fun j hj => cn_get _ _ _ hj⟩); rw [show (qleB ((X.length + 7) / 8) (leV X)).length = (X.length + 7) / 8 from (qleB_len _ _), qleV_bytes hX] at h0; exact h0⟩, (by kernel_rfl), rfl, rfl, rfl, (by kernel_rfl), rfl, fun _ _ FF9 MM9 => then_n ?_⟩))
    refine wp_ret ?_
    repeat first | refine then_ret ?_ | refine inb_ret ?_
    exact (retc FF9 MM9 (k := 1) (i := 1) (j := 3) Try.results59 rfl rfl Try.underlying76 rfl (by kernel_rfl) rfl ⟨trimV (some ⟨bo, 0, none⟩) (leV X) ((X.length + 7) / 8), rfl, MM9.below, by have h0 := trim_new0 (c := (X.length + 7) / 8) (X := qleB ((X.length + 7) / 8) (leV X)) (base := w0.heap.size) (qleB_lt _ _) (by rw [qleB_len]; exact Nat.le_refl _) (MM9.get 0 rfl) (MM9.fresh 0 rfl); rw [qleV_bytes hX] at h0; exact h0⟩)
end Go.Proofs.Ythgfjeljfiadmaa
namespace Go.Proofs.Ythgfjeljfiadmaa
open Go.RowKit
theorem natO_cells {O : Blks} {N : Nat} {x : Value} (h : NatO O (nv N x) N) : CellsO O (pOf x) (qsz N) (fun j => iW (qd N j)) := by
  obtain ⟨p, c, h1, _, _, _, h4⟩ := h
  simp only [nv, Value.slice.injEq] at h1
  rw [h1.1]; exact h4
theorem qz0 {M : Nat} (h : qsz M = 0) : M = 0 := by have := (qsz_ok M).1; rw [h] at this; simpa using this
theorem bits_top {M : Nat} (h : ¬ qsz M = 0) : (qsz M - 1) * 64 + bsz (qd M (qsz M - 1)) = bsz M := by
  have h2 := (qsz_ok M).2.resolve_left h
  have e : 18446744073709551616 ^ (qsz M - 1) = 2 ^ ((qsz M - 1) * 64) := by rw [show 18446744073709551616 = 2 ^ 64 by rfl, ← Nat.pow_mul, Nat.mul_comm]
  have h1 := (qsz_ok M).1
  have e2 : 18446744073709551616 ^ qsz M = 18446744073709551616 ^ (qsz M - 1) * 18446744073709551616 := by rw [← Nat.pow_succ]; congr 1; omega
  rw [bsz_div (k := (qsz M - 1) * 64) (x := M) (by rw [← e]; exact h2), ← e]
  unfold qd
  rw [Nat.mod_eq_of_lt (Nat.div_lt_of_lt_mul (by rw [← e2]; exact h1))]
theorem cmp_sizes {M N : Nat} (h : qsz M ≠ qsz N) : cmpN (qsz M) (qsz N) = cmpN M N := by
  rcases Nat.lt_or_gt_of_ne h with c | c
  · have := qcmp_len c
    rw [cmpN, if_pos c, cmpN, if_pos this]
  · have := qcmp_len c
    rw [cmpN, if_neg (by omega), if_neg (by omega), cmpN, if_neg (by omega), if_neg (by omega)]
theorem cmp_word {M N j : Nat} (hq : M / 18446744073709551616 ^ (j + 1) = N / 18446744073709551616 ^ (j + 1)) (h : qd M j ≠ qd N j) : cmpN (qd M j) (qd N j) = cmpN M N := by
  rcases Nat.lt_or_gt_of_ne h with c | c
  · have := qcmp_lt hq c
    rw [cmpN, if_pos c, cmpN, if_pos this]
  · have := qcmp_lt hq.symm c
    rw [cmpN, if_neg (by omega), if_neg (by omega), cmpN, if_neg (by omega), if_neg (by omega)]
set_option maxRecDepth 100000 in
theorem nbits_O (O : Blks) (hD : Distinct O) (M : Nat) (x : Value) (hM : NatO O (nv M x) M) (hs : qsz M < 1000000)  (w0 : World) (H : Has w0 O) :
    Calls Try.prog 41 #[.agg #[nv M x]] w0 fun e w' => e = .returned (iN (bsz M)) ∧ Below w0.heap.size w0 w' := by
  refine enter_fr Try.func41 rfl Try.ntmps41 (by simp) fun ac (FF : Fr 20 ac [(0, aG #[nv M x])]) => ?_
  have MM : MemS (fun k => k < w0.heap.size ∧ ∀ x ∈ O, x.1 ≠ k) w0 w0 O [] := MemS.startN H hD
  refine wp_seq (rg_c FF MM [] 3 [] [0] (fun b1 => fun _ _ FF1 MM1 => then_n ?_))
  refine wp_seq (rg_c FF1 MM1 [(1, l_ 0 (nv M x))] 4 [] [] (⟨rfl, rfl, fun _ _ FF2 MM2 => then_n ?_⟩))
  refine wp_seq ?_
  refine wp_seq (rg_c FF2 MM2 [] 4 [8] [] (fun _ _ FF3 MM3 => then_n ?_))
  by_cases hs8 : (qsz M) = 0
  · refine wp_cond_true ((FF3.ev 0 rfl).trans (dec_t hs8)) ?_
    refine wp_seq (rg_c FF3 MM3 [(0, t_ (iN (bsz M)))] 4 [] [] (⟨(vI (by rw [qz0 hs8]; rfl)), fun _ _ FF4 MM4 => then_n ?_⟩))
    refine wp_ret ?_
    repeat first | refine then_ret ?_ | refine inb_ret ?_
    exact (ret_fr FF4 0 Try.results41 rfl ⟨rfl, MM4.belowN H (fun _ hx => List.mem_cons_of_mem _ (hx))⟩)
  · refine wp_cond_false ((FF3.ev 0 rfl).trans (dec_f hs8)) ?_
    refine wp_skip ?_
    refine then_n ?_
    refine wp_seq (rg_c FF3 MM3 [(4, l_ 0 (nv M x)), (2, f_ (.pointer (some ⟨gOf (pOf x), (qsz M) - 1, none⟩))), (0, f_ (iW (qd M ((qsz M) - 1)))), (0, t_ (iN (bsz (qd M ((qsz M) - 1))))), (0, t_ (iN (bsz M)))] 4 [] [] (⟨by omega, by omega, by omega, rfl, rfl, by omega, by omega, (rowAddr_ok (x := (.tmp 13)) (y := (.tmp 15)) (by kernel_rfl) rfl rfl Try.underlying74 (by kernel_rfl) (natO_cells hM) (by omega)), (rowLoad_ok (x := (.tmp 16)) (i := (qsz M) - 1) (by kernel_rfl) rfl Try.underlying101 rfl (natO_cells hM) (fun _ hx => List.mem_cons_of_mem _ (hx)) (by omega)), (callP_of en_len64 (len64_any (qd M ((qsz M) - 1)) (qd_lt _ _)) _), (by have := bsz64 (show qd M ((qsz M) - 1) < 18446744073709551616 from (qd_lt _ _)); omega), (vI (bits_top hs8)), fun _ _ FF5 MM5 => then_n ?_⟩))
    refine wp_ret ?_
    repeat first | refine then_ret ?_ | refine inb_ret ?_
    exact (ret_fr FF5 0 Try.results41 rfl ⟨rfl, MM5.belowN H (fun _ hx => List.mem_cons_of_mem _ (hx))⟩)
set_option maxRecDepth 100000 in
theorem ncmp_O (O : Blks) (hD : Distinct O) (M : Nat) (x : Value) (hM : NatO O (nv M x) M) (hs : qsz M < 1000000) (N : Nat) (y : Value) (hN : NatO O (nv N y) N) (w0 : World) (H : Has w0 O) :
    Calls Try.prog 44 #[.agg #[nv M x], .agg #[nv N y]] w0 fun e w' => e = .returned (.int .i64 (cmpN M N)) ∧ Below w0.heap.size w0 w' := by
  refine enter_fr Try.func44 rfl Try.ntmps44 (by simp) fun ac (FF : Fr 50 ac [(0, aG #[nv M x]), (1, aG #[nv N y])]) => ?_
  have MM : MemS (fun k => k < w0.heap.size ∧ ∀ x ∈ O, x.1 ≠ k) w0 w0 O [] := MemS.startN H hD
  refine wp_seq (rg_c FF MM [] 5 [] [0, 1] (fun ba => fun bb => fun _ _ FF1 MM1 => then_n ?_))
  refine wp_seq ?_
  refine wp_seq (rg_c FF1 MM1 [(1, l_ 1 (nv M x)), (2, l_ 0 (nv N y))] 5 [12] [] (⟨rfl, rfl, rfl, rfl, fun _ _ FF2 MM2 => then_n ?_⟩))
  by_cases hs12 : (qsz M) ≠ (qsz N)
  · refine wp_cond_true ((FF2.ev 0 rfl).trans (dec_t hs12)) ?_
    refine wp_seq (rg_c FF2 MM2 [(1, l_ 1 (nv M x)), (2, l_ 0 (nv N y)), (1, t_ (.int .i64 (cmpN M N : Int)))] 5 [] [] (⟨rfl, rfl, rfl, rfl, (callP_of en_cmpi (fun w => by have h0 := cmpi_any (qsz M) (qsz N) w; rw [cmp_sizes hs12] at h0; exact h0) _), fun _ _ FF3 MM3 => then_n ?_⟩))
    refine wp_ret ?_
    repeat first | refine then_ret ?_ | refine inb_ret ?_
    exact (ret_fr FF3 0 Try.results44 rfl ⟨rfl, MM3.belowN H (fun _ hx => List.mem_cons_of_mem _ (List.mem_cons_of_mem _ (hx)))⟩)
  · refine wp_cond_false ((FF2.ev 0 rfl).trans (dec_f hs12)) ?_
    have hq0 : qsz M = qsz N := by omega
    refine wp_skip ?_
    refine then_n ?_
    refine wp_seq ?_
    refine wp_seq (rg_c FF2 MM2 [(1, l_ 1 (nv M x)), (1, u_ 4 (.int .i64 (((qsz M : Nat) : Int) - 1 : Int)))] 6 [] [] (⟨rfl, rfl, by omega, by omega, (vZ (by omega)), fun _ _ FF4 MM4 => then_n ?_⟩))
    refine wp_for2 (fun a' w' => ∃ j : Nat, j ≤ qsz M ∧ M / 18446744073709551616 ^ j = N / 18446744073709551616 ^ j ∧ Fr 50 a' [(5, .int .i64 (((j : Nat) : Int) - 1 : Int)), (3, pT bb), (2, pT ba)] ∧ MemS (fun k => k < w0.heap.size ∧ ∀ x ∈ O, x.1 ≠ k) w0 w' ((bb, oC #[nv N y] 76) :: (ba, oC #[nv M x] 76) :: O) []) (fun a' _ => (cnt 5 a' + 1).toNat) ⟨qsz M, Nat.le_refl _, qcmp_top hq0, FF4.pick [0, 2, 3], MM4⟩ ?_
    rintro ac5 wd5 ⟨j, hj, hq, FF5, MM5⟩
    have hc := cnt_of (FF5.get 0 rfl)
    refine rg_c FF5 MM5 [(1, w_ 4)] 6 [25] [] (fun _ _ FF6 MM6 => ?_)
    by_cases hlt : (((j : Nat) : Int) - 1) ≥ ((0 : Nat) : Int)
    · skip
      refine then_n (.inl ⟨(FF6.ev 0 rfl).trans (dec_t hlt), ?_⟩)
      obtain ⟨j, rfl⟩ : ∃ z, j = z + 1 := ⟨j - 1, by omega⟩
      refine wp_seq (rg_dc 11 FF6 MM6 [(1, l_ 1 (nv M x)), (0, t_ (iN j)), (0, f_ (.pointer (some ⟨gOf (pOf x), j, none⟩))), (0, f_ (iW (qd M j))), (1, l_ 0 (nv N y)), (0, t_ (iN j)), (0, f_ (.pointer (some ⟨gOf (pOf y), j, none⟩))), (0, f_ (iW (qd N j)))] [] 6 [38] [] (⟨rfl, rfl, (vZ (by omega)), (rowAddr_ok (x := (.tmp 29)) (y := (.tmp 30)) (by kernel_rfl) rfl rfl Try.underlying74 (by kernel_rfl) (natO_cells hM) (by omega)), (rowLoad_ok (x := (.tmp 31)) (i := j) (by kernel_rfl) rfl Try.underlying101 rfl (natO_cells hM) (fun _ hx => List.mem_cons_of_mem _ (List.mem_cons_of_mem _ (hx))) (by omega)), rfl, rfl, (vZ (by omega)), (rowAddr_ok (x := (.tmp 34)) (y := (.tmp 35)) (by kernel_rfl) rfl rfl Try.underlying74 (by kernel_rfl) (natO_cells hN) (by omega)), (rowLoad_ok (x := (.tmp 36)) (i := j) (by kernel_rfl) rfl Try.underlying101 rfl (natO_cells hN) (fun _ hx => List.mem_cons_of_mem _ (List.mem_cons_of_mem _ (hx))) (by omega)), fun _ _ FF7 MM7 => then_n ?_⟩))
      by_cases hs38 : (qd M j) ≠ (qd N j)
      · refine wp_cond_true ((FF7.ev 0 rfl).trans (dec_t hs38)) ?_
        refine wp_seq (rg_dc 12 FF7 MM7 [(1, l_ 1 (nv M x)), (0, t_ (iN j)), (0, f_ (.pointer (some ⟨gOf (pOf x), j, none⟩))), (0, f_ (iW (qd M j))), (1, l_ 0 (nv N y)), (0, t_ (iN j)), (0, f_ (.pointer (some ⟨gOf (pOf y), j, none⟩))), (0, f_ (iW (qd N j))), (0, t_ (.int .i64 (cmpN M N : Int)))] [] 6 [] [] (⟨rfl, rfl, (vZ (by omega)), (rowAddr_ok (x := (.tmp 40)) (y := (.tmp 41)) (by kernel_rfl) rfl rfl Try.underlying74 (by kernel_rfl) (natO_cells hM) (by omega)), (rowLoad_ok (x := (.tmp 42)) (i := j) (by kernel_rfl) rfl Try.underlying101 rfl (natO_cells hM) (fun _ hx => List.mem_cons_of_mem _ (List.mem_cons_of_mem _ (hx))) (by omega)), rfl, rfl, (vZ (by omega)), (rowAddr_ok (x := (.tmp 45)) (y := (.tmp 46)) (by kernel_rfl) rfl rfl Try.underlying74 (by kernel_rfl) (natO_cells hN) (by omega)), (rowLoad_ok (x := (.tmp 47)) (i := j) (by kernel_rfl) rfl Try.underlying101 rfl (natO_cells hN) (fun _ hx => List.mem_cons_of_mem _ (List.mem_cons_of_mem _ (hx))) (by omega)), (callP_of en_cmpu (fun w => by have h0 := cmpu_any (qd M j) (qd N j) w; rw [cmp_word hq hs38] at h0; exact h0) _), fun _ _ FF8 MM8 => then_n ?_⟩))
        refine wp_ret ?_
        repeat first | refine then_ret ?_ | refine inb_ret ?_
        exact (ret_fr FF8 0 Try.results44 rfl ⟨rfl, MM8.belowN H (fun _ hx => List.mem_cons_of_mem _ (List.mem_cons_of_mem _ (hx)))⟩)
      · refine wp_cond_false ((FF7.ev 0 rfl).trans (dec_f hs38)) ?_
        have hq2 := qcmp_eq hq (Classical.byContradiction fun h => hs38 h)
        refine wp_skip ?_
        refine inb_n (then_n ?_)
        refine rg_c FF7 MM7 [(1, u_ 4 (.int .i64 (((j : Nat) : Int) - 1 : Int)))] 6 [] [] (⟨by omega, by omega, (vZ (by omega)), fun _ _ FF9 MM9 => ?_⟩)
        have hd := cnt_of (FF9.get 0 rfl)
        refine then_n ⟨⟨j, by omega, hq2, FF9.pick [0, 1, 2], MM9⟩, ?_⟩
        rw [hc, hd]; omega
    · skip
      refine then_n (.inr ⟨(FF6.ev 0 rfl).trans (dec_f hlt), ?_⟩)
      obtain rfl : j = 0 := by omega
      have hMN : M = N := by simpa using hq
      refine then_n ?_
      refine wp_seq (rg_c FF6 MM6 [(0, t_ (.int .i64 (cmpN M N : Int)))] 6 [] [] (⟨(vZ (cmp0 hMN)), fun _ _ FF10 MM10 => then_n ?_⟩))
      refine wp_ret ?_
      repeat first | refine then_ret ?_ | refine inb_ret ?_
      exact (ret_fr FF10 0 Try.results44 rfl ⟨rfl, MM10.belowN H (fun _ hx => List.mem_cons_of_mem _ (List.mem_cons_of_mem _ (hx)))⟩)
theorem nat1_O {w : World} {M : Nat} {x : Value} (h : NatIn w (nv M x) M) : ∃ O : Blks, Has w O ∧ Distinct O ∧ NatO O (nv M x) M := by
  obtain ⟨O, h1, h2, h3, _⟩ := nats_O [(nv M x, M)] (fun y hy => by rw [List.mem_singleton] at hy; subst hy; exact h) [] (fun i y hy => by simp at hy) .nil
  exact ⟨O, h1, distinct_of h2, h3.get 0 rfl⟩
theorem nat2_O {w : World} {M N : Nat} {x y : Value} (h : NatIn w (nv M x) M) (h' : NatIn w (nv N y) N) : ∃ O : Blks, Has w O ∧ Distinct O ∧ NatO O (nv M x) M ∧ NatO O (nv N y) N := by
  obtain ⟨O, h1, h2, h3, _⟩ := nats_O [(nv M x, M), (nv N y, N)] (fun z hz => by
    simp only [List.mem_cons, List.not_mem_nil, or_false] at hz
    rcases hz with rfl | rfl <;> assumption) [] (fun i y hy => by simp at hy) .nil
  exact ⟨O, h1, distinct_of h2, h3.get 0 rfl, h3.get 1 rfl⟩
theorem nbits_any (M : Nat) (x : Value) (hs : qsz M < 1000000) (w : World) (hM : NatIn w (nv M x) M) : Calls Try.prog 41 #[.agg #[nv M x]] w fun e w' => e = .returned (iN (bsz M)) ∧ Below w.heap.size w w' := by
  obtain ⟨O, h1, h2, h3⟩ := nat1_O hM
  exact nbits_O O h2 M x h3 hs w h1
theorem ncmp_any (M : Nat) (x : Value) (hs : qsz M < 1000000) (N : Nat) (y : Value) (w : World) (hM : NatIn w (nv M x) M) (hN : NatIn w (nv N y) N) : Calls Try.prog 44 #[.agg #[nv M x], .agg #[nv N y]] w fun e w' => e = .returned (.int .i64 (cmpN M N)) ∧ Below w.heap.size w w' := by
  obtain ⟨O, h1, h2, h3, h4⟩ := nat2_O hM hN
  exact ncmp_O O h2 M x h3 hs N y h4 w h1
end Go.Proofs.Ythgfjeljfiadmaa
namespace Go.Proofs.Ythgfjeljfiadmaa
open Go.RowKit
theorem qd_out {N i : Nat} (h : qsz N ≤ i) : qd N i = 0 := by unfold qd; rw [Nat.div_eq_of_lt (qlt_sz h)]
/-- The words of a sum, up to i; then those of the first number. -/
def adL (n M N i : Nat) : List Nat := (List.range n).map fun j => if j < i then qd (M + N) j else qd M j
theorem adL_len (n M N i : Nat) : (adL n M N i).length = n := by simp [adL]
theorem adL_get (n M N i : Nat) {j : Nat} (h : j < n) : (adL n M N i).getD j 0 = if j < i then qd (M + N) j else qd M j := by simp [adL, h]
theorem adL_zero (n M N : Nat) : adL n M N 0 = qleB n M := by
  refine ext_getD (by rw [adL_len, qleB_len]) fun j hj => ?_
  rw [adL_len] at hj
  rw [adL_get n M N 0 hj, qleB_get hj, if_neg (by omega)]; rfl
theorem adL_step (n M N i : Nat) (h : i < n) : (adL n M N i).set i (qd (M + N) i) = adL n M N (i + 1) := by
  refine ext_getD (by simp [adL]) fun j hj => ?_
  simp only [List.length_set, adL_len] at hj
  rw [getD_set, adL_get n M N i hj, adL_get n M N (i + 1) hj, adL_len]
  by_cases e : i = j
  · subst e; rw [if_pos ⟨rfl, h⟩, if_pos (by omega)]
  · rw [if_neg (fun h => e h.1)]
    by_cases h1 : j < i
    · rw [if_pos h1, if_pos (by omega)]
    · rw [if_neg h1, if_neg (by omega)]
theorem add_word (M N i : Nat) : (qd M i + qd N i + qcarB M N i) % 18446744073709551616 = qd (M + N) i := by
  have := qcar_digit M N i
  unfold qd
  rw [← this]; congr 1; omega
theorem add_carry (M N i : Nat) : (qd M i + qd N i + qcarB M N i) / 18446744073709551616 = qcarB M N (i + 1) := by
  have := qcar_step M N i
  unfold qd
  rw [← this]; congr 1; omega
theorem qcar_le (M N i : Nat) : qcarB M N i ≤ 1 := by have := qcar_lt M N i; omega
theorem add_same {M N i : Nat} (h : qsz N ≤ i) (hc : qcarB M N i = 0) : (M + N) / 18446744073709551616 ^ i = M / 18446744073709551616 ^ i := by
  rw [sum_div _ _ _ (qpw_pos i), Nat.div_eq_of_lt (qlt_sz h)]
  unfold qcarB at hc
  omega
theorem div_more (K : Nat) {i j : Nat} (h : i ≤ j) : K / 18446744073709551616 ^ j = K / 18446744073709551616 ^ i / 18446744073709551616 ^ (j - i) := by
  rw [Nat.div_div_eq_div_mul, ← Nat.pow_add]; congr 2; omega
theorem add_fin0 {n M N i : Nat} (h : qsz N ≤ i) (hi : i ≤ n) (hM : qsz M ≤ n) (hc : qcarB M N i = 0) : adL n M N i = qleB n (M + N) ∧ M + N < 18446744073709551616 ^ n := by
  have e := add_same h hc
  constructor
  · refine ext_getD (by rw [adL_len, qleB_len]) fun j hj => ?_
    rw [adL_len] at hj
    rw [adL_get n M N i hj, qleB_get hj]
    split
    · rfl
    · unfold qd
      rw [div_more M (show i ≤ j by omega), div_more (M + N) (show i ≤ j by omega), e]
  · have h1 := div_more M hi
    have h2 := div_more (M + N) hi
    rw [e, ← h1, Nat.div_eq_of_lt (qlt_sz hM)] at h2
    rcases Nat.lt_or_ge (M + N) (18446744073709551616 ^ n) with c | c
    · exact c
    · have := Nat.div_pos c (qpw_pos n); omega
theorem add_fin1 (n M N : Nat) : adL n M N n = qleB n (M + N) := by
  refine ext_getD (by rw [adL_len, qleB_len]) fun j hj => ?_
  rw [adL_len] at hj
  rw [adL_get n M N n hj, qleB_get hj, if_pos hj]; rfl
theorem add_size0 {n M N : Nat} (hn : n = qsz M ∨ n = qsz N) (h : M + N < 18446744073709551616 ^ n) : n = qsz (M + N) := by
  have h1 := qsz_le h
  have h2 := qsz_mono (Nat.le_add_right M N)
  have h3 := qsz_mono (Nat.le_add_left N M)
  omega
theorem add_size1 {n M N : Nat} (hM : qsz M ≤ n) (hN : qsz N ≤ n) (hc : qcarB M N n > 0) : n + 1 = qsz (M + N) ∧ qd (M + N) n = qcarB M N n := by
  have e : (M + N) / 18446744073709551616 ^ n = qcarB M N n := by
    rw [sum_div _ _ _ (qpw_pos n), Nat.div_eq_of_lt (qlt_sz hM), Nat.div_eq_of_lt (qlt_sz hN)]
    unfold qcarB; omega
  have hl := qcar_lt M N n
  have h1 : 18446744073709551616 ^ n ≤ M + N := Nat.le_of_not_lt fun h => by rw [Nat.div_eq_of_lt h] at e; omega
  have h2 : M + N < 18446744073709551616 ^ (n + 1) := by
    rw [Nat.pow_succ]
    refine (Nat.div_lt_iff_lt_mul (qpw_pos n)).1 ?_ |> fun h => by rwa [Nat.mul_comm] at h
    rw [e]; omega
  refine ⟨qsz_of h2 (.inr (by simpa using h1)), ?_⟩
  unfold qd
  rw [e, Nat.mod_eq_of_lt (by omega)]
theorem add_row1 {n M N : Nat} (h : n + 1 = qsz (M + N) ∧ qd (M + N) n = qcarB M N n) : qleB n (M + N) ++ [qcarB M N n] = qminB (M + N) := by
  rw [qminB, ← h.1, qleB_succ, ← h.2]; rfl
end Go.Proofs.Ythgfjeljfiadmaa
namespace Go.Proofs.Ythgfjeljfiadmaa
open Go.RowKit
theorem pad_min {M n : Nat} (h : qsz M ≤ n) : qminB M ++ List.replicate (n - qsz M) 0 = qleB n M := by
  have := qpad_leB (N := M) (n := n) (k := n) (Nat.le_refl _)
  rw [← this, List.take_append, qminB_len, List.take_of_length_le (by rw [qminB_len]; exact h), List.take_replicate, Nat.min_eq_left (by omega)]
set_option maxRecDepth 100000 in
theorem plus_main {S : Nat → Prop} {w0 : World} {L : Blks} {R : List Row} {q : Option Addr} {c : Nat} (M N : Nat) (y : Value) (hN : NatO L (nv N y) N) (h0 : 0 < qsz M ∨ 0 < qsz N) (hs : qsz M < 1000000) (hs2 : qsz N < 1000000) (w : World) (MM : MemS S w0 w L ((Value.slice q (qsz M) c, 101, 1, qsz M, wc (qminB M)) :: R)) :
    Calls Try.prog 62 #[.slice q (qsz M) c, nv N y] w fun e w' => ∃ q' c', e = .returned (.slice q' (qsz (M + N)) c') ∧ MemS S w0 w' L ((Value.slice q' (qsz (M + N)) c', 101, 1, qsz (M + N), wc (qminB (M + N))) :: R) := by
  refine enter_fr Try.func62 rfl Try.ntmps62 (by simp) fun ac (FF : Fr 73 ac [(0, .slice q (qsz M) c), (1, nv N y)]) => ?_
  refine wp_seq (rg_c FF MM [] 5 [] [] (fun _ _ FF1 MM1 => then_n ?_))
  refine wp_seq ?_
  refine wp_seq (rg_c FF1 MM1 [] 5 [13] [] (fun _ wd2 FF2 MM2 => then_n ?_))
  by_cases hs13 : (qsz N) > (qsz M)
  · refine wp_cond_true ((FF2.ev 0 rfl).trans (dec_t hs13)) ?_
    refine wp_region_list ?_
    refine rp_c 6 FF2 MM2 [] 15 [19] [13] (⟨by omega, by omega, fun _ _ FF3 MM3 => ?_⟩)
    refine st_appZ [4, 0, 1, 20] FF3 MM3 (d := 20) (s := 14) (x := (.tmp 19)) (z := .int .u64 0) (bb := 8) rfl rfl rfl rfl rfl Try.underlying74 Try.underlying3 (by kernel_rfl) (by omega) (by simp only [maxLen]; omega) (by omega) rfl rfl (by decide) fun ac6 wd6 rg4 rc5 FF6 MM6 => ?_
    have MMx : MemS S w0 wd6 L ((.slice (some ⟨rg4, 0, none⟩) (qsz N) rc5, 101, 1, (qsz N), (wc (qleB (qsz N) M))) :: R) := by have h9 := MM6; rw [wc_rep, wc_app, pad_min (show qsz M ≤ qsz N by omega), show qsz M + (qsz N - qsz M) = qsz N by omega] at h9; exact h9
    rw [show qsz M + (qsz N - qsz M) = qsz N by omega] at FF6
    refine rp_c 1 FF6 MMx [] 5 [] [] (fun _ wd7 FF7 MM7 => ?_)
    refine wpl_nil ?_
    obtain ⟨rs, MMz, hg, hcap, hmx, hsz, hlen⟩ := MemS.freezeW (X := qleB (qsz N) M) MM7
    have MMy : MemS S w0 wd7 ((rg4, .cells ((cn .u64 (adL (qsz N) M N 0)) ++ rs) 101) :: L) R := by rw [adL_zero]; exact MMz
    have hsz2 : ∀ i, (cn .u64 (adL (qsz N) M N i) ++ rs).size = rc5 := fun i => by rw [Array.size_append, cn_size, adL_len]; rw [Array.size_append, cn_size, qleB_len] at hsz; exact hsz
    have hnM : qsz M ≤ qsz N := by omega
    have hnN : qsz N ≤ qsz N := by omega
    have hn0 : qsz N = qsz M ∨ qsz N = qsz N := by first | exact .inl rfl | exact .inr rfl
    refine then_n ?_
    refine wp_seq (rg_c FF7 MMy [] 6 [] [] (fun _ _ FF8 MM8 => then_n ?_))
    refine wp_seq ?_
    refine wp_seq (rg_c FF8 MM8 [] 24 [] [] (fun _ _ FF9 MM9 => then_n ?_))
    refine wp_for (fun a' w' => ∃ i : Nat, ∃ cc : Nat, i ≤ qsz N ∧ cc = qcarB M N i ∧ Fr 73 a' [(23, iN i), (22, iN (qsz N)), (21, nv N y), (5, iW cc), (0, .slice (some ⟨rg4, 0, none⟩) (qsz N) rc5), (4, .slice none 0 0), (1, nv N y)] ∧ MemS S w0 w' ((rg4, .cells ((cn .u64 (adL (qsz N) M N i)) ++ rs) 101) :: L) R) (fun a' _ => (qsz N - cnt 23 a').toNat) ⟨0, 0, by omega, (qcar_zero M N).symm, FF9.pick [0, 1, 2, 3, 4, 5, 6], MM9⟩ ?_
    rintro ac10 wd10 ⟨i, cc, hi, hcc, FF10, MM10⟩
    have hc := cnt_of (FF10.get 0 rfl)
    refine rg_c FF10 MM10 [] 25 [] [] (fun _ _ FF11 MM11 => ?_)
    by_cases hlt : i < (qsz N)
    · skip
      refine then_n (.inl ⟨(FF11.ev 0 rfl).trans (dec_t hlt), ?_⟩)
      refine wp_seq (rg_c FF11 MM11 [(1, f_ (.pointer (some ⟨gOf (pOf y), i, none⟩))), (0, f_ (iW (qd N i)))] 24 [] [] (⟨(rowAddr_ok (x := (.tmp 21)) (y := (.tmp 23)) (by kernel_rfl) rfl rfl Try.underlying74 (by kernel_rfl) (natO_cells hN) (by omega)), (rowLoad_ok (x := (.tmp 26)) (i := i) (by kernel_rfl) rfl Try.underlying101 rfl (natO_cells hN) (fun _ hx => List.mem_cons_of_mem _ (hx)) (by omega)), fun _ _ FF12 MM12 => then_n ?_⟩))
      have hcl := qcar_le M N i
      have hw := add_word M N i
      have hy := add_carry M N i
      rw [← hcc] at hw hy
      refine rg_c FF12 MM12 [(4, w_ 1), (0, l_ 0 (iW (qd M i))), (2, f_ (.tuple #[iW (((qd M i) + (qd N i) + cc) % 18446744073709551616), iW (((qd M i) + (qd N i) + cc) / 18446744073709551616)])), (1, t_ (iW (qd (M + N) i))), (0, t_ (iW (qcarB M N (i + 1)))), (0, w_ 1), (0, s_ 0 (.cells ((cn .u64 (adL (qsz N) M N (i + 1))) ++ rs) 101))] 24 [] [] (⟨by omega, rfl, ((cat_l (by rw [cn_size, adL_len]; omega)).trans ((cn_get _ _ _ (by rw [adL_len]; omega)).trans (congrArg some (vI ((adL_get _ _ _ _ (by omega)).trans (if_neg (by omega))))))), (add64_ok (f := 73) (ts := #[101, 101, 101]) (x := (.tmp 34)) (y := (.tmp 35)) (z := (.tmp 36)) (by omega) (by kernel_rfl) rfl rfl rfl Try.func73 (by kernel_rfl) (by kernel_rfl) (by kernel_rfl) (by kernel_rfl)), (vI hw), (vI hy), by omega, rfl, (by rw [hsz2]; omega), (.inl rfl), ((cat_set_l (by rw [cn_size, adL_len]; omega)).trans (congrArg (· ++ _) ((cn_set _ _ _ _).trans (congrArg _ (adL_step _ _ _ _ (by omega)))))), fun _ _ FF13 MM13 => ?_⟩)
      refine inb_n (then_n ?_)
      refine rg_c FF13 MM13 [] 24 [] [] (⟨by omega, fun _ _ FF14 MM14 => ?_⟩)
      have hd := cnt_of (FF14.get 0 rfl)
      refine then_n ⟨⟨i + 1, qcarB M N (i + 1), by omega, rfl, FF14.pick [0, 4, 5, 1, 6, 7, 8], MM14⟩, ?_⟩
      rw [hc, hd]; omega
    · skip
      refine then_n (.inr ⟨(FF11.ev 0 rfl).trans (dec_f hlt), ?_⟩)
      obtain rfl : i = qsz N := by omega
      refine then_n ?_
      refine wp_seq ?_
      refine wp_seq (rg_c FF11 MM11 [] 24 [] [] (fun _ _ FF15 MM15 => then_n ?_))
      refine wp_for2 (fun a' w' => ∃ i : Nat, ∃ cc : Nat, qsz N ≤ i ∧ i ≤ qsz N ∧ cc = qcarB M N i ∧ Fr 73 a' [(8, iN i), (23, iN (qsz N)), (22, iN (qsz N)), (21, nv N y), (5, iW cc), (0, .slice (some ⟨rg4, 0, none⟩) (qsz N) rc5), (4, .slice none 0 0), (1, nv N y)] ∧ MemS S w0 w' ((rg4, .cells ((cn .u64 (adL (qsz N) M N i)) ++ rs) 101) :: L) R) (fun a' _ => (qsz N - cnt 8 a').toNat) ⟨qsz N, cc, Nat.le_refl _, hnN, hcc, FF15.pick [0, 1, 2, 3, 4, 5, 6, 7], MM15⟩ ?_
      rintro ac16 wd16 ⟨i, cc, hi2, hi, hcc, FF16, MM16⟩
      have hc := cnt_of (FF16.get 0 rfl)
      by_cases h1 : cc > 0
      · by_cases h2 : i < qsz N
        · skip
          refine rg_c FF16 MM16 [(1, w_ 2), (4, w_ 2)] 24 [51] [] (⟨h1, h2, fun _ _ FF17 MM17 => ?_⟩)
          refine then_n (.inl ⟨FF17.ev 0 rfl, ?_⟩)
          have hcl := qcar_le M N i
          have hw := add_word M N i
          have hy := add_carry M N i
          rw [qd_out hi2, ← hcc] at hw hy
          refine rg_c FF17 MM17 [(4, w_ 1), (0, l_ 0 (iW (qd M i))), (1, f_ (.tuple #[iW (((qd M i) + 0 + cc) % 18446744073709551616), iW (((qd M i) + 0 + cc) / 18446744073709551616)])), (1, t_ (iW (qd (M + N) i))), (0, t_ (iW (qcarB M N (i + 1)))), (0, w_ 1), (0, s_ 0 (.cells ((cn .u64 (adL (qsz N) M N (i + 1))) ++ rs) 101))] 24 [] [] (⟨by omega, rfl, ((cat_l (by rw [cn_size, adL_len]; omega)).trans ((cn_get _ _ _ (by rw [adL_len]; omega)).trans (congrArg some (vI ((adL_get _ _ _ _ (by omega)).trans (if_neg (by omega))))))), (add64_ok (f := 73) (ts := #[101, 101, 101]) (x := (.tmp 60)) (y := (.const (iW 0))) (z := (.tmp 61)) (by omega) (by kernel_rfl) rfl rfl rfl Try.func73 (by kernel_rfl) (by kernel_rfl) (by kernel_rfl) (by kernel_rfl)), (vI hw), (vI hy), by omega, rfl, (by rw [hsz2]; omega), (.inl rfl), ((cat_set_l (by rw [cn_size, adL_len]; omega)).trans (congrArg (· ++ _) ((cn_set _ _ _ _).trans (congrArg _ (adL_step _ _ _ _ (by omega)))))), fun _ _ FF18 MM18 => ?_⟩)
          refine inb_n (then_n ?_)
          refine rg_c FF18 MM18 [] 24 [] [] (⟨by omega, fun _ _ FF19 MM19 => ?_⟩)
          have hd := cnt_of (FF19.get 0 rfl)
          refine then_n ⟨⟨i + 1, qcarB M N (i + 1), by omega, by omega, rfl, FF19.pick [0, 2, 3, 4, 1, 5, 6, 7], MM19⟩, ?_⟩
          rw [hc, hd]; omega
        · skip
          refine rg_c FF16 MM16 [(1, w_ 2), (4, w_ 3)] 24 [51] [] (⟨h1, h2, fun _ _ FF20 MM20 => ?_⟩)
          refine then_n (.inr ⟨FF20.ev 0 rfl, ?_⟩)
          obtain rfl : i = qsz N := by omega
          have hsz1 := add_size1 hnM hnN (hcc ▸ h1)
          have hrow : qleB (qsz N) (M + N) ++ [cc] = qminB (M + N) := by rw [hcc]; exact add_row1 hsz1
          have hfin := add_fin1 (qsz N) M N
          have MMt := MemS.thawW (X := qleB (qsz N) (M + N)) (m := qsz N) (cap := rc5) (by rw [← hfin]; exact MM20) hg (qleB_len _ _) hcap hmx (by rw [← hfin]; exact hsz2 _)
          refine then_n ?_
          refine wp_seq ?_
          refine wp_seq (rg_c FF20 MMt [(1, w_ 2)] 24 [67] [] (⟨h1, fun _ _ FF21 MM21 => then_n ?_⟩))
          refine wp_cond_true (FF21.ev 0 rfl) ?_
          refine wp_region_list ?_
          refine rp_c 3 FF21 MM21 [(2, s_ 0 (.cells (cn .u64 [cc]) 101))] 69 [70] [67] (⟨(by kernel_rfl), fun bq => fun _ _ FF22 MM22 => ?_⟩)
          refine st_app [8, 23, 22, 21, 5, 0, 4, 1, 71] FF22 MM22 (d := 71) (s := 68) (x := 70) (Y := (wc [cc])) (z := iW 0) (bb := 8) rfl rfl rfl rfl (lies_cn64 (MM22.get 0 rfl)) (wc_one _) (by decide) Try.underlying74 (by kernel_rfl) rfl (by decide) (by simp only [maxLen]; omega) (by omega) rfl rfl (by decide) fun ac24 wd24 rv23 FF24 MM24 => ?_
          have MMa : MemS S w0 wd24 ((bq, .cells (cn .u64 [cc]) 101) :: L) ((rv23, 101, 1, (qsz (M + N)), (wc (qminB (M + N)))) :: R) := by have h9 := MM24; rw [wc_app, hrow, hsz1.1] at h9; exact h9
          refine rp_c 1 FF24 MMa [] 24 [] [] (fun _ _ FF25 MM25 => ?_)
          refine wpl_nil ?_
          refine then_n ?_
          refine wp_seq (rg_c FF25 MM25 [] 24 [] [] (fun _ _ FF26 MM26 => then_n ?_))
          refine wp_ret ?_
          repeat first | refine then_ret ?_ | refine inb_ret ?_
          exact (ret_fr FF26 0 Try.results62 rfl (by obtain ⟨p9, c9, rfl, _⟩ := MM26.rowLen; exact ⟨p9, c9, rfl, (MM26.dropAt 0)⟩))
      · skip
        refine rg_c FF16 MM16 [(1, w_ 3)] 24 [51] [] (⟨h1, fun _ _ FF27 MM27 => ?_⟩)
        refine then_n (.inr ⟨FF27.ev 0 rfl, ?_⟩)
        obtain ⟨hfin, hlt2⟩ := add_fin0 hi2 hi hnM (by omega)
        have hsz1 := add_size0 hn0 hlt2
        have MMt := MemS.thawW (X := qleB (qsz N) (M + N)) (m := qsz N) (cap := rc5) (by rw [← hfin]; exact MM27) hg (qleB_len _ _) hcap hmx (by rw [← hfin]; exact hsz2 _)
        refine then_n ?_
        refine wp_seq ?_
        refine wp_seq (rg_c FF27 MMt [(1, w_ 3)] 24 [67] [] (⟨h1, fun _ _ FF28 MM28 => then_n ?_⟩))
        refine wp_cond_false (FF28.ev 0 rfl) ?_
        refine wp_skip ?_
        refine then_n ?_
        refine wp_seq (rg_c FF28 MM28 [] 24 [] [] (fun _ _ FF29 MM29 => then_n ?_))
        refine wp_ret ?_
        repeat first | refine then_ret ?_ | refine inb_ret ?_
        exact (ret_fr FF29 0 Try.results62 rfl (by have h9 := MM29; rw [hsz1, show qleB (qsz (M + N)) (M + N) = qminB (M + N) from rfl] at h9; exact ⟨_, _, congrArg Ending.returned (by rw [hsz1]), h9⟩))
  · refine wp_cond_false ((FF2.ev 0 rfl).trans (dec_f hs13)) ?_
    obtain ⟨g, rfl⟩ := MM.rowSome (by omega)
    obtain ⟨rs, MMz, hg, hcap, hmx, hsz, hlen⟩ := MemS.freezeW (X := qleB (qsz M) M) MM2
    have MMy : MemS S w0 wd2 ((g, .cells ((cn .u64 (adL (qsz M) M N 0)) ++ rs) 101) :: L) R := by rw [adL_zero]; exact MMz
    have hsz2 : ∀ i, (cn .u64 (adL (qsz M) M N i) ++ rs).size = c := fun i => by rw [Array.size_append, cn_size, adL_len]; rw [Array.size_append, cn_size, qleB_len] at hsz; exact hsz
    have hnM : qsz M ≤ qsz M := by omega
    have hnN : qsz N ≤ qsz M := by omega
    have hn0 : qsz M = qsz M ∨ qsz M = qsz N := by first | exact .inl rfl | exact .inr rfl
    refine wp_skip ?_
    refine then_n ?_
    refine wp_seq (rg_c FF2 MMy [] 6 [] [] (fun _ _ FF30 MM30 => then_n ?_))
    refine wp_seq ?_
    refine wp_seq (rg_c FF30 MM30 [] 24 [] [] (fun _ _ FF31 MM31 => then_n ?_))
    refine wp_for (fun a' w' => ∃ i : Nat, ∃ cc : Nat, i ≤ qsz N ∧ cc = qcarB M N i ∧ Fr 73 a' [(23, iN i), (22, iN (qsz N)), (21, nv N y), (5, iW cc), (4, .slice none 0 0), (0, .slice (some ⟨g, 0, none⟩) (qsz M) c), (1, nv N y)] ∧ MemS S w0 w' ((g, .cells ((cn .u64 (adL (qsz M) M N i)) ++ rs) 101) :: L) R) (fun a' _ => (qsz N - cnt 23 a').toNat) ⟨0, 0, by omega, (qcar_zero M N).symm, FF31.pick [0, 1, 2, 3, 4, 5, 6], MM31⟩ ?_
    rintro ac32 wd32 ⟨i, cc, hi, hcc, FF32, MM32⟩
    have hc := cnt_of (FF32.get 0 rfl)
    refine rg_c FF32 MM32 [] 25 [] [] (fun _ _ FF33 MM33 => ?_)
    by_cases hlt : i < (qsz N)
    · skip
      refine then_n (.inl ⟨(FF33.ev 0 rfl).trans (dec_t hlt), ?_⟩)
      refine wp_seq (rg_c FF33 MM33 [(1, f_ (.pointer (some ⟨gOf (pOf y), i, none⟩))), (0, f_ (iW (qd N i)))] 24 [] [] (⟨(rowAddr_ok (x := (.tmp 21)) (y := (.tmp 23)) (by kernel_rfl) rfl rfl Try.underlying74 (by kernel_rfl) (natO_cells hN) (by omega)), (rowLoad_ok (x := (.tmp 26)) (i := i) (by kernel_rfl) rfl Try.underlying101 rfl (natO_cells hN) (fun _ hx => List.mem_cons_of_mem _ (hx)) (by omega)), fun _ _ FF34 MM34 => then_n ?_⟩))
      have hcl := qcar_le M N i
      have hw := add_word M N i
      have hy := add_carry M N i
      rw [← hcc] at hw hy
      refine rg_c FF34 MM34 [(4, w_ 1), (0, l_ 0 (iW (qd M i))), (2, f_ (.tuple #[iW (((qd M i) + (qd N i) + cc) % 18446744073709551616), iW (((qd M i) + (qd N i) + cc) / 18446744073709551616)])), (1, t_ (iW (qd (M + N) i))), (0, t_ (iW (qcarB M N (i + 1)))), (0, w_ 1), (0, s_ 0 (.cells ((cn .u64 (adL (qsz M) M N (i + 1))) ++ rs) 101))] 24 [] [] (⟨by omega, rfl, ((cat_l (by rw [cn_size, adL_len]; omega)).trans ((cn_get _ _ _ (by rw [adL_len]; omega)).trans (congrArg some (vI ((adL_get _ _ _ _ (by omega)).trans (if_neg (by omega))))))), (add64_ok (f := 73) (ts := #[101, 101, 101]) (x := (.tmp 34)) (y := (.tmp 35)) (z := (.tmp 36)) (by omega) (by kernel_rfl) rfl rfl rfl Try.func73 (by kernel_rfl) (by kernel_rfl) (by kernel_rfl) (by kernel_rfl)), (vI hw), (vI hy), by omega, rfl, (by rw [hsz2]; omega), (.inl rfl), ((cat_set_l (by rw [cn_size, adL_len]; omega)).trans (congrArg (· ++ _) ((cn_set _ _ _ _).trans (congrArg _ (adL_step _ _ _ _ (by omega)))))), fun _ _ FF35 MM35 => ?_⟩)
      refine inb_n (then_n ?_)
      refine rg_c FF35 MM35 [] 24 [] [] (⟨by omega, fun _ _ FF36 MM36 => ?_⟩)
      have hd := cnt_of (FF36.get 0 rfl)
      refine then_n ⟨⟨i + 1, qcarB M N (i + 1), by omega, rfl, FF36.pick [0, 4, 5, 1, 6, 7, 8], MM36⟩, ?_⟩
      rw [hc, hd]; omega
    · skip
      refine then_n (.inr ⟨(FF33.ev 0 rfl).trans (dec_f hlt), ?_⟩)
      obtain rfl : i = qsz N := by omega
      refine then_n ?_
      refine wp_seq ?_
      refine wp_seq (rg_c FF33 MM33 [] 24 [] [] (fun _ _ FF37 MM37 => then_n ?_))
      refine wp_for2 (fun a' w' => ∃ i : Nat, ∃ cc : Nat, qsz N ≤ i ∧ i ≤ qsz M ∧ cc = qcarB M N i ∧ Fr 73 a' [(8, iN i), (23, iN (qsz N)), (22, iN (qsz N)), (21, nv N y), (5, iW cc), (4, .slice none 0 0), (0, .slice (some ⟨g, 0, none⟩) (qsz M) c), (1, nv N y)] ∧ MemS S w0 w' ((g, .cells ((cn .u64 (adL (qsz M) M N i)) ++ rs) 101) :: L) R) (fun a' _ => (qsz M - cnt 8 a').toNat) ⟨qsz N, cc, Nat.le_refl _, hnN, hcc, FF37.pick [0, 1, 2, 3, 4, 5, 6, 7], MM37⟩ ?_
      rintro ac38 wd38 ⟨i, cc, hi2, hi, hcc, FF38, MM38⟩
      have hc := cnt_of (FF38.get 0 rfl)
      by_cases h1 : cc > 0
      · by_cases h2 : i < qsz M
        · skip
          refine rg_c FF38 MM38 [(1, w_ 2), (4, w_ 2)] 24 [51] [] (⟨h1, h2, fun _ _ FF39 MM39 => ?_⟩)
          refine then_n (.inl ⟨FF39.ev 0 rfl, ?_⟩)
          have hcl := qcar_le M N i
          have hw := add_word M N i
          have hy := add_carry M N i
          rw [qd_out hi2, ← hcc] at hw hy
          refine rg_c FF39 MM39 [(4, w_ 1), (0, l_ 0 (iW (qd M i))), (1, f_ (.tuple #[iW (((qd M i) + 0 + cc) % 18446744073709551616), iW (((qd M i) + 0 + cc) / 18446744073709551616)])), (1, t_ (iW (qd (M + N) i))), (0, t_ (iW (qcarB M N (i + 1)))), (0, w_ 1), (0, s_ 0 (.cells ((cn .u64 (adL (qsz M) M N (i + 1))) ++ rs) 101))] 24 [] [] (⟨by omega, rfl, ((cat_l (by rw [cn_size, adL_len]; omega)).trans ((cn_get _ _ _ (by rw [adL_len]; omega)).trans (congrArg some (vI ((adL_get _ _ _ _ (by omega)).trans (if_neg (by omega))))))), (add64_ok (f := 73) (ts := #[101, 101, 101]) (x := (.tmp 60)) (y := (.const (iW 0))) (z := (.tmp 61)) (by omega) (by kernel_rfl) rfl rfl rfl Try.func73 (by kernel_rfl) (by kernel_rfl) (by kernel_rfl) (by kernel_rfl)), (vI hw), (vI hy), by omega, rfl, (by rw [hsz2]; omega), (.inl rfl), ((cat_set_l (by rw [cn_size, adL_len]; omega)).trans (congrArg (· ++ _) ((cn_set _ _ _ _).trans (congrArg _ (adL_step _ _ _ _ (by omega)))))), fun _ _ FF40 MM40 => ?_⟩)
          refine inb_n (then_n ?_)
          refine rg_c FF40 MM40 [] 24 [] [] (⟨by omega, fun _ _ FF41 MM41 => ?_⟩)
          have hd := cnt_of (FF41.get 0 rfl)
          refine then_n ⟨⟨i + 1, qcarB M N (i + 1), by omega, by omega, rfl, FF41.pick [0, 2, 3, 4, 1, 5, 6, 7], MM41⟩, ?_⟩
          rw [hc, hd]; omega
        · skip
          refine rg_c FF38 MM38 [(1, w_ 2), (4, w_ 3)] 24 [51] [] (⟨h1, h2, fun _ _ FF42 MM42 => ?_⟩)
          refine then_n (.inr ⟨FF42.ev 0 rfl, ?_⟩)
          obtain rfl : i = qsz M := by omega
          have hsz1 := add_size1 hnM hnN (hcc ▸ h1)
          have hrow : qleB (qsz M) (M + N) ++ [cc] = qminB (M + N) := by rw [hcc]; exact add_row1 hsz1
          have hfin := add_fin1 (qsz M) M N
          have MMt := MemS.thawW (X := qleB (qsz M) (M + N)) (m := qsz M) (cap := c) (by rw [← hfin]; exact MM42) hg (qleB_len _ _) hcap hmx (by rw [← hfin]; exact hsz2 _)
          refine then_n ?_
          refine wp_seq ?_
          refine wp_seq (rg_c FF42 MMt [(1, w_ 2)] 24 [67] [] (⟨h1, fun _ _ FF43 MM43 => then_n ?_⟩))
          refine wp_cond_true (FF43.ev 0 rfl) ?_
          refine wp_region_list ?_
          refine rp_c 3 FF43 MM43 [(2, s_ 0 (.cells (cn .u64 [cc]) 101))] 69 [70] [67] (⟨(by kernel_rfl), fun bq => fun _ _ FF44 MM44 => ?_⟩)
          refine st_app [8, 23, 22, 21, 5, 4, 0, 1, 71] FF44 MM44 (d := 71) (s := 68) (x := 70) (Y := (wc [cc])) (z := iW 0) (bb := 8) rfl rfl rfl rfl (lies_cn64 (MM44.get 0 rfl)) (wc_one _) (by decide) Try.underlying74 (by kernel_rfl) rfl (by decide) (by simp only [maxLen]; omega) (by omega) rfl rfl (by decide) fun ac46 wd46 rv45 FF46 MM46 => ?_
          have MMa : MemS S w0 wd46 ((bq, .cells (cn .u64 [cc]) 101) :: L) ((rv45, 101, 1, (qsz (M + N)), (wc (qminB (M + N)))) :: R) := by have h9 := MM46; rw [wc_app, hrow, hsz1.1] at h9; exact h9
          refine rp_c 1 FF46 MMa [] 24 [] [] (fun _ _ FF47 MM47 => ?_)
          refine wpl_nil ?_
          refine then_n ?_
          refine wp_seq (rg_c FF47 MM47 [] 24 [] [] (fun _ _ FF48 MM48 => then_n ?_))
          refine wp_ret ?_
          repeat first | refine then_ret ?_ | refine inb_ret ?_
          exact (ret_fr FF48 0 Try.results62 rfl (by obtain ⟨p9, c9, rfl, _⟩ := MM48.rowLen; exact ⟨p9, c9, rfl, (MM48.dropAt 0)⟩))
      · skip
        refine rg_c FF38 MM38 [(1, w_ 3)] 24 [51] [] (⟨h1, fun _ _ FF49 MM49 => ?_⟩)
        refine then_n (.inr ⟨FF49.ev 0 rfl, ?_⟩)
        obtain ⟨hfin, hlt2⟩ := add_fin0 hi2 hi hnM (by omega)
        have hsz1 := add_size0 hn0 hlt2
        have MMt := MemS.thawW (X := qleB (qsz M) (M + N)) (m := qsz M) (cap := c) (by rw [← hfin]; exact MM49) hg (qleB_len _ _) hcap hmx (by rw [← hfin]; exact hsz2 _)
        refine then_n ?_
        refine wp_seq ?_
        refine wp_seq (rg_c FF49 MMt [(1, w_ 3)] 24 [67] [] (⟨h1, fun _ _ FF50 MM50 => then_n ?_⟩))
        refine wp_cond_false (FF50.ev 0 rfl) ?_
        refine wp_skip ?_
        refine then_n ?_
        refine wp_seq (rg_c FF50 MM50 [] 24 [] [] (fun _ _ FF51 MM51 => then_n ?_))
        refine wp_ret ?_
        repeat first | refine then_ret ?_ | refine inb_ret ?_
        exact (ret_fr FF51 0 Try.results62 rfl (by have h9 := MM51; rw [hsz1, show qleB (qsz (M + N)) (M + N) = qminB (M + N) from rfl] at h9; exact ⟨_, _, congrArg Ending.returned (by rw [hsz1]), h9⟩))
end Go.Proofs.Ythgfjeljfiadmaa
namespace Go.Proofs.Ythgfjeljfiadmaa
open Go.RowKit
set_option maxRecDepth 100000 in
theorem plus_nil {S : Nat → Prop} {w0 : World} {L : Blks} {R : List Row} (y : Value) (w : World) (MM : MemS S w0 w L ((Value.slice none 0 0, 101, 1, 0, []) :: R)) :
    Calls Try.prog 62 #[.slice none 0 0, nv 0 y] w fun e w' => e = .returned (.slice none 0 0) ∧ MemS S w0 w' L ((Value.slice none 0 0, 101, 1, 0, []) :: R) := by
  refine enter_fr Try.func62 rfl Try.ntmps62 (by simp) fun ac (FF : Fr 73 ac [(0, .slice none 0 0), (1, nv 0 y)]) => ?_
  refine wp_seq (rg_c FF MM [] 5 [] [] (fun _ _ FF1 MM1 => then_n ?_))
  refine wp_seq ?_
  refine wp_seq (rg_c FF1 MM1 [(4, w_ 3)] 5 [13] [] (⟨by decide, fun _ _ FF2 MM2 => then_n ?_⟩))
  refine wp_cond_false (FF2.ev 0 rfl) ?_
  refine wp_skip ?_
  refine then_n ?_
  refine wp_seq (rg_c FF2 MM2 [] 6 [] [] (fun _ _ FF3 MM3 => then_n ?_))
  refine wp_seq ?_
  refine wp_seq (rg_c FF3 MM3 [] 24 [] [] (fun _ _ FF4 MM4 => then_n ?_))
  refine wp_for (fun a' w' => ∃ i : Nat, i ≤ 0 ∧ Fr 73 a' [(23, iN i), (22, iN (qsz 0)), (21, nv 0 y), (5, iW 0), (4, .slice none 0 0), (0, .slice none 0 0), (1, nv 0 y)] ∧ MemS S w0 w' L ((.slice none 0 0, 101, 1, 0, []) :: R)) (fun a' _ => (0 - cnt 23 a').toNat) ⟨0, Nat.le_refl _, FF4.pick [0, 1, 2, 3, 4, 5, 6], MM4⟩ ?_
  rintro ac5 wd5 ⟨i, hi, FF5, MM5⟩
  refine rg_c FF5 MM5 [(0, w_ 3)] 25 [] [] (⟨(by rw [qsz_zero]; omega), fun _ _ FF6 MM6 => ?_⟩)
  refine then_n (.inr ⟨FF6.ev 0 rfl, ?_⟩)
  refine then_n ?_
  refine wp_seq ?_
  refine wp_seq (rg_c FF6 MM6 [] 24 [] [] (fun _ _ FF7 MM7 => then_n ?_))
  refine wp_for2 (fun a' w' => ∃ k : Nat, Fr 73 a' [(8, iN k), (23, iN i), (22, iN (qsz 0)), (21, nv 0 y), (5, iW 0), (4, .slice none 0 0), (0, .slice none 0 0), (1, nv 0 y)] ∧ MemS S w0 w' L ((.slice none 0 0, 101, 1, 0, []) :: R)) (fun a' _ => (0 - cnt 8 a').toNat) ⟨qsz 0, FF7.pick [0, 1, 2, 3, 4, 5, 6, 7], MM7⟩ ?_
  rintro ac8 wd8 ⟨k, FF8, MM8⟩
  refine rg_c FF8 MM8 [(1, w_ 3)] 24 [51] [] (⟨by decide, fun _ _ FF9 MM9 => ?_⟩)
  refine then_n (.inr ⟨FF9.ev 0 rfl, ?_⟩)
  refine then_n ?_
  refine wp_seq ?_
  refine wp_seq (rg_c FF9 MM9 [(1, w_ 3)] 24 [67] [] (⟨by decide, fun _ _ FF10 MM10 => then_n ?_⟩))
  refine wp_cond_false (FF10.ev 0 rfl) ?_
  refine wp_skip ?_
  refine then_n ?_
  refine wp_seq (rg_c FF10 MM10 [] 24 [] [] (fun _ _ FF11 MM11 => then_n ?_))
  refine wp_ret ?_
  repeat first | refine then_ret ?_ | refine inb_ret ?_
  exact (ret_fr FF11 0 Try.results62 rfl ⟨rfl, MM11⟩)
theorem plus_any {S : Nat → Prop} {w0 : World} {L : Blks} {R : List Row} (M N : Nat) (x y : Value) (hN : NatO L (nv N y) N) (hz : M = 0 → pOf x = none ∧ cOf x = 0) (hs : qsz M < 1000000) (hs2 : qsz N < 1000000) (w : World) (MM : MemS S w0 w L ((nv M x, 101, 1, qsz M, wc (qminB M)) :: R)) :
    Calls Try.prog 62 #[nv M x, nv N y] w fun e w' => ∃ v, e = .returned (nv (M + N) v) ∧ (M + N = 0 → pOf v = none ∧ cOf v = 0) ∧ MemS S w0 w' L ((nv (M + N) v, 101, 1, qsz (M + N), wc (qminB (M + N))) :: R) := by
  by_cases h0 : M = 0 ∧ N = 0
  · obtain ⟨rfl, rfl⟩ := h0
    obtain ⟨h1, h2⟩ := hz rfl
    have e : nv 0 x = .slice none 0 0 := by rw [nv, h1, h2]; rfl
    rw [e] at MM ⊢
    refine (plus_nil y w MM).mono ?_
    rintro e w' ⟨rfl, h⟩
    exact ⟨.slice none 0 0, rfl, fun _ => ⟨rfl, rfl⟩, h⟩
  · have hp : 0 < qsz M ∨ 0 < qsz N := by
      by_cases hM : M = 0
      · exact .inr (qsz_pos fun e => h0 ⟨hM, e⟩)
      · exact .inl (qsz_pos hM)
    refine (plus_main M N y hN hp hs hs2 w MM).mono ?_
    rintro e w' ⟨q', c', rfl, h⟩
    exact ⟨.slice q' 0 c', rfl, fun e => (by omega), h⟩
/-- Numbers in a row. -/
def nvs (ns : List Nat) (xs : List Value) (j : Nat) : Value := nv (ns.getD j 0) (xs.getD j undef)
def NatsO (O : Blks) (p : Option Addr) (ns : List Nat) (xs : List Value) : Prop := CellsO O p ns.length (nvs ns xs) ∧ ∀ j, j < ns.length → NatO O (nvs ns xs j) (ns.getD j 0)
def NatsIn (w : World) (p : Option Addr) (ns : List Nat) (xs : List Value) : Prop := CellsIn w p ns.length (nvs ns xs) ∧ ∀ j, j < ns.length → NatIn w (nvs ns xs j) (ns.getD j 0)
theorem NatsIn.keep {w w' : World} {p : Option Addr} {ns : List Nat} {xs : List Value} (h : NatsIn w p ns xs) (hb : Below w.heap.size w w') : NatsIn w' p ns xs := ⟨h.1.keep hb, fun j hj => (h.2 j hj).keep hb⟩
theorem NatsO.at {w : World} {O : Blks} {p : Option Addr} {ns : List Nat} {xs : List Value} (h : NatsO O p ns xs) (H : Has w O) : NatsIn w p ns xs := ⟨h.1.at H, fun j hj => (h.2 j hj).at H⟩
theorem NatsO.mono {O O' : Blks} {p : Option Addr} {ns : List Nat} {xs : List Value} (h : NatsO O p ns xs) (hs : ∀ x ∈ O, x ∈ O') : NatsO O' p ns xs := ⟨h.1.mono hs, fun j hj => (h.2 j hj).mono hs⟩
theorem natsIn_O {w : World} {p : Option Addr} {ns : List Nat} {xs : List Value} (h : NatsIn w p ns xs) : ∃ O : Blks, Has w O ∧ Distinct O ∧ NatsO O p ns xs := by
  have hc : ∃ O : Blks, Has w O ∧ O.Pairwise (fun x y => x.1 ≠ y.1) ∧ CellsO O p ns.length (nvs ns xs) := by
    rcases h.1 with h | ⟨b, cs, T, fr, h1, h2, h3⟩
    · exact ⟨[], fun i x hx => by simp at hx, .nil, .inl h⟩
    · refine ⟨[(b, .cells cs T fr)], fun i x hx => ?_, by simp, .inr ⟨b, cs, T, fr, h1, by simp, h3⟩⟩
      cases i with
      | zero => simp at hx; subst hx; exact h2
      | succ i => simp at hx
  obtain ⟨O1, g1, g2, g3⟩ := hc
  obtain ⟨O, f1, f2, f3, f4⟩ := nats_O ((List.range ns.length).map fun j => (nvs ns xs j, ns.getD j 0)) (fun x hx => by
    obtain ⟨j, hj, rfl⟩ := List.mem_map.1 hx
    exact h.2 j (List.mem_range.1 hj)) O1 g1 g2
  exact ⟨O, f1, distinct_of f2, g3.mono f4, fun j hj => f3.get j (by simp [hj])⟩
theorem nats2 {w : World} {b : Nat} {T : TypeId} {fr : Nat × Nat} {N1 N2 : Nat} {x1 x2 : Value} (h : w.heap[b]? = some (.cells #[nv N1 x1, nv N2 x2] T fr)) (h1 : NatIn w (nv N1 x1) N1) (h2 : NatIn w (nv N2 x2) N2) : NatsIn w (some ⟨b, 0, none⟩) [N1, N2] [x1, x2] :=
  ⟨.inr ⟨b, _, T, fr, rfl, h, fun j hj => by
    have : j = 0 ∨ j = 1 := by simp at hj; omega
    rcases this with rfl | rfl <;> rfl⟩, fun j hj => by
    have : j = 0 ∨ j = 1 := by simp at hj; omega
    rcases this with rfl | rfl
    · exact h1
    · exact h2⟩
theorem sum_take (ns : List Nat) (i : Nat) (h : i < ns.length) : (ns.take (i + 1)).sum = (ns.take i).sum + ns.getD i 0 := by
  rw [List.take_add_one, List.sum_append, List.getElem?_eq_getElem h]
  simp [List.getD_eq_getElem?_getD, List.getElem?_eq_getElem h]
theorem sum_part (ns : List Nat) (i : Nat) : (ns.take i).sum ≤ ns.sum := by
  conv => rhs; rw [← List.take_append_drop i ns]
  rw [List.sum_append]; omega
theorem sum_one (ns : List Nat) (i : Nat) (h : i < ns.length) : ns.getD i 0 ≤ ns.sum := by
  have h1 := sum_part ns (i + 1)
  rw [sum_take ns i h] at h1
  omega
theorem natNew_row {S : Nat → Prop} {w0 w : World} {L : Blks} {R : List Row} {e : TypeId} {N : Nat} {x : Value} (hz : N = 0 → pOf x = none ∧ cOf x = 0) (M : MemS S w0 w L ((nv N x, e, 1, qsz N, wc (qminB N)) :: R)) : NatNew w0.heap.size w (nv N x) N := by
  have hown := M.rows _ (List.mem_cons_self ..)
  rcases hown.2 with ⟨h1, h2⟩ | ⟨g, cap, cur, h1, h2, h3, h4, h5, h6, h7⟩
  · simp only at h1 h2
    have hN := qz0 h2
    subst hN
    rw [h1]
    exact ⟨⟨none, 0, rfl, fun _ => ⟨rfl, rfl⟩, fun h => (h rfl).elim, Nat.le_refl _, .inl rfl⟩, fun g hg => by cases hg⟩
  · simp only [nv, Value.slice.injEq, true_and] at h1
    refine ⟨⟨pOf x, cOf x, rfl, fun e => hz e, fun _ => by rw [h1.1]; simp, by rw [h1.2]; exact h4, .inr ⟨g, cur, e, (0, 0), h1.1, h3, fun j hj => ?_⟩⟩, fun g' hg' => ?_⟩
    · simp only [Nat.mul_one] at h7
      have e1 := congrArg (fun l => l[j]?) h7
      simp only [List.getElem?_take, if_pos hj] at e1
      rw [show cur[j]? = cur.toList[j]? by simp, e1]
      have : j < (qminB N).length := by rw [qminB_len]; exact hj
      simp only [wc, List.getElem?_map, List.getElem?_eq_getElem this, Option.map_some]
      have h9 := qminB_get N j
      rw [List.getD_eq_getElem?_getD, List.getElem?_eq_getElem this] at h9
      simp only [Option.getD_some] at h9
      rw [h9]; rfl
    · rw [nv, h1.1] at hg'
      obtain rfl : g = g' := by simpa [Value.ownBlock] using hg'
      exact h2
set_option maxRecDepth 100000 in
theorem nadd_O (O : Blks) (hD : Distinct O) (p : Option Addr) (cp : Nat) (ns : List Nat) (xs : List Value) (hA : NatsO O p ns xs) (hs : qsz ns.sum < 1000000) (hl : ns.length < 1000) (w0 : World) (H : Has w0 O) :
    Calls Try.prog 46 #[.slice p ns.length cp] w0 fun e w' => ∃ v, e = .returned (.agg #[nv ns.sum v]) ∧ Below w0.heap.size w0 w' ∧ NatNew w0.heap.size w' (nv ns.sum v) ns.sum := by
  refine enter_fr Try.func46 rfl Try.ntmps46 (by simp) fun ac (FF : Fr 19 ac [(0, .slice p ns.length cp)]) => ?_
  have MM : MemS (fun k => k < w0.heap.size ∧ ∀ x ∈ O, x.1 ≠ k) w0 w0 O [] := MemS.startN H hD
  refine wp_seq (rg_c FF MM [] 3 [] [] (fun br => fun _ _ FF1 MM1 => then_n ?_))
  refine wp_seq (rg_c FF1 MM1 [] 4 [] [] (fun _ wd2 FF2 MM2 => then_n ?_))
  have MMn : MemS (fun k => k < w0.heap.size ∧ ∀ x ∈ O, x.1 ≠ k) w0 wd2 ((br, oC #[.slice none 0 0] 76) :: O) [(nv ((ns.take 0).sum) (.slice none 0 0), 101, 1, (qsz ((ns.take 0).sum)), (wc (qminB ((ns.take 0).sum))))] := MM2.rowNil 101 1
  refine wp_seq ?_
  refine wp_seq (rg_c FF2 MMn [] 9 [] [0] (fun _ _ FF3 MM3 => then_n ?_))
  refine wp_for (fun a' w' => ∃ i : Nat, ∃ v : Value, i ≤ ns.length ∧ ((ns.take i).sum = 0 → pOf v = none ∧ cOf v = 0) ∧ Fr 19 a' [(8, iN i), (7, iN ns.length), (6, .slice p ns.length cp), (3, nv ((ns.take i).sum) v), (2, pT br)] ∧ MemS (fun k => k < w0.heap.size ∧ ∀ x ∈ O, x.1 ≠ k) w0 w' ((br, oC #[.slice none 0 0] 76) :: O) [(nv ((ns.take i).sum) v, 101, 1, (qsz ((ns.take i).sum)), (wc (qminB ((ns.take i).sum))))]) (fun a' _ => (ns.length - cnt 8 a').toNat) ⟨0, (.slice none 0 0), by omega, fun _ => ⟨rfl, rfl⟩, FF3.pick [0, 1, 2, 3, 4], MM3⟩ ?_
  rintro ac4 wd4 ⟨i, v, hi, hz, FF4, MM4⟩
  have hc := cnt_of (FF4.get 0 rfl)
  refine rg_c FF4 MM4 [] 9 [9] [] (fun _ _ FF5 MM5 => ?_)
  by_cases hlt : i < ns.length
  · skip
    refine then_n (.inl ⟨(FF5.ev 0 rfl).trans (dec_t hlt), ?_⟩)
    refine wp_seq (rg_c FF5 MM5 [(0, f_ (.pointer (some ⟨gOf p, i, none⟩))), (0, f_ (aG #[nv (ns.getD i 0) (xs.getD i undef)])), (1, b_ 0)] 9 [] [] (⟨(rowAddr_ok (x := (.tmp 6)) (y := (.tmp 8)) (by kernel_rfl) rfl rfl Try.underlying108 (by kernel_rfl) hA.1 (by omega)), (rowLoadA_ok (x := (.tmp 10)) (i := i) (by kernel_rfl) rfl Try.underlying76 rfl (by kernel_rfl) hA.1 (fun _ hx => List.mem_cons_of_mem _ (hx)) (by omega)), fun b1 => ⟨rfl, rfl, rfl, (by kernel_rfl), rfl, fun _ _ FF6 MM6 => then_n ?_⟩⟩))
    refine wp_region_list ?_
    refine rp_c 3 FF6 MM6 [(2, l_ 0 (nv (ns.getD i 0) (xs.getD i undef)))] 13 [14] [] (⟨rfl, rfl, fun _ _ FF7 MM7 => ?_⟩)
    refine st_callE [5, 8, 7, 6, 3, 2, 15] FF7 (d := 15) (mk := fun v => nv ((ns.take i).sum + ns.getD i 0) v) en_plus rfl rfl (plus_any ((ns.take i).sum) (ns.getD i 0) v (xs.getD i undef) ((hA.2 i (by omega)).mono (fun _ hx => List.mem_cons_of_mem _ (List.mem_cons_of_mem _ (hx)))) hz (Nat.lt_of_le_of_lt (qsz_mono (sum_part ns i)) hs) (Nat.lt_of_le_of_lt (qsz_mono (sum_one ns i (by omega))) hs) _ MM7) rfl (by kernel_rfl) (by decide) fun ac9 wd9 lv8 FF9 hr10 => ?_
    rw [← sum_take ns i (by omega)] at FF9 hr10
    obtain ⟨hz2, MMlv8⟩ := hr10
    refine rp_c 1 FF9 MMlv8 [] 9 [] [] (fun _ _ FF11 MM11 => ?_)
    refine wpl_nil ?_
    refine inb_n (then_n ?_)
    refine rg_c FF11 MM11 [] 9 [] [] (⟨by omega, fun _ _ FF12 MM12 => ?_⟩)
    have hd := cnt_of (FF12.get 0 rfl)
    refine then_n ⟨⟨i + 1, lv8, by omega, hz2, FF12.pick [0, 3, 4, 1, 5], (MM12.dropAt 0)⟩, ?_⟩
    rw [hc, hd]; omega
  · skip
    refine then_n (.inr ⟨(FF5.ev 0 rfl).trans (dec_f hlt), ?_⟩)
    obtain rfl : i = ns.length := by omega
    refine then_n ?_
    refine wp_seq (rg_c FF5 MM5 [(1, t_ (aG #[nv ((ns.take ns.length).sum) v])), (0, b_ 0)] 9 [] [] (⟨(by kernel_rfl), rfl, rfl, rfl, (by kernel_rfl), rfl, fun _ _ FF13 MM13 => then_n ?_⟩))
    refine wp_ret ?_
    repeat first | refine then_ret ?_ | refine inb_ret ?_
    exact (retc FF13 MM13 (k := 1) (i := 0) (j := 4) Try.results46 rfl rfl Try.underlying76 rfl (by kernel_rfl) rfl (by have h9 := natNew_row hz MM13; rw [List.take_length] at h9 ⊢; exact ⟨v, rfl, MM13.belowN H (fun _ hx => List.mem_cons_of_mem _ (hx)), h9⟩))
theorem nadd_any (p : Option Addr) (cp : Nat) (ns : List Nat) (xs : List Value) (hs : qsz ns.sum < 1000000) (hl : ns.length < 1000) (w0 : World) (hA : NatsIn w0 p ns xs) : Calls Try.prog 46 #[.slice p ns.length cp] w0 fun e w' => ∃ v, e = .returned (.agg #[nv ns.sum v]) ∧ Below w0.heap.size w0 w' ∧ NatNew w0.heap.size w' (nv ns.sum v) ns.sum := by
  obtain ⟨O, h1, h2, h3⟩ := natsIn_O hA
  exact nadd_O O h2 p cp ns xs h3 hs hl w0 h1
end Go.Proofs.Ythgfjeljfiadmaa
