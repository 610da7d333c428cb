/- What one operation on numbers, strings, truth values comes to, told by plain numbers; on what terms. -/
import Derived.Test.YtkpindnekaijfaaDoorRow
namespace Go.Proofs.YtkpindnekaijfaaDoor
open Go.RowKit

def top (k : IntKind) : Nat :=
  match k with
  | .u8 => 256 | .u16 => 65536 | .u32 => 4294967296 | .u64 => 18446744073709551616
  | .i8 => 128 | .i16 => 32768 | .i32 => 2147483648 | .i64 => 9223372036854775808
def unsg (k : IntKind) : Bool := match k with | .u8 | .u16 | .u32 | .u64 => true | _ => false
theorem wrap_fit (k : IntKind) (n : Nat) (h : n < top k) : k.wrap (n : Int) = (n : Int) := by
  cases k <;> simp only [top] at h <;> simp [IntKind.wrap, IntKind.bits, IntKind.signed] <;> omega
theorem wrap_int (k : IntKind) (n : Int) (h0 : -(top k : Int) ≤ n) (h : n < top k) (hs : unsg k = false) : k.wrap n = n := by
  cases k <;> simp only [top, unsg] at * <;> first | (cases hs; done) | (simp [IntKind.wrap, IntKind.bits, IntKind.signed]; omega)
theorem wrap_u (k : IntKind) (n : Int) (hs : unsg k = true) : k.wrap n = n % (top k : Nat) := by
  cases k <;> simp only [unsg] at hs <;> first | (cases hs; done) | simp [IntKind.wrap, IntKind.bits, IntKind.signed, top]
theorem wrap_un (k : IntKind) (n : Nat) (hs : unsg k = true) : k.wrap (n : Int) = ((n % top k : Nat) : Int) := by rw [wrap_u k _ hs]; simp
theorem top_bits (k : IntKind) : top k = if unsg k then 2 ^ k.bits else 2 ^ (k.bits - 1) := by cases k <;> rfl
theorem top_le (k : IntKind) : top k ≤ 2 ^ k.bits := by cases k <;> decide

abbrev Told : Type := Option (Value × List Prop)
def aCmp (way : Nat) (p : Prop) [Decidable p] : Told :=
  match way with
  | 2 => some (.bool true, [p])
  | 3 => some (.bool false, [¬ p])
  | _ => some (.bool (decide p), [])
def aNat (way : Nat) (op : BinOp) (k : IntKind) (m n : Nat) : Told :=
  match op with
  | .add => match way, unsg k with | 0, true => some (.int k (Int.ofNat ((m + n) % top k)), []) | _, _ => some (.int k (Int.ofNat (m + n)), [m + n < top k])
  | .sub => match way, unsg k with | 0, true => some (.int k (Int.ofNat ((m + (top k - n)) % top k)), [n ≤ top k]) | _, _ => some (.int k (Int.ofNat (m - n)), [n ≤ m, m - n < top k])
  | .mul => match way, unsg k with | 0, true => some (.int k (Int.ofNat ((m * n) % top k)), []) | _, _ => some (.int k (Int.ofNat (m * n)), [m * n < top k])
  | .quo => some (.int k (Int.ofNat (m / n)), [n ≠ 0, m / n < top k])
  | .rem => some (.int k (Int.ofNat (m % n)), [n ≠ 0])
  | .and => some (.int k (Int.ofNat (m &&& n)), [m < top k, n < top k])
  | .or => some (.int k (Int.ofNat (m ||| n)), [m < top k, n < top k])
  | .xor => some (.int k (Int.ofNat (m ^^^ n)), [m < top k, n < top k])
  | .eql => aCmp way (m = n)
  | .neq => aCmp way (m ≠ n)
  | .lss => aCmp way (m < n)
  | .leq => aCmp way (m ≤ n)
  | .gtr => aCmp way (m > n)
  | .geq => aCmp way (m ≥ n)
  | _ => none
def aInt (way : Nat) (op : BinOp) (k : IntKind) (x y : Int) : Told :=
  match op with
  | .add => match unsg k with | false => some (.int k (x + y), [-(top k : Int) ≤ x + y, x + y < (top k : Nat)]) | true => none
  | .sub => match unsg k with | false => some (.int k (x - y), [-(top k : Int) ≤ x - y, x - y < (top k : Nat)]) | true => none
  | .mul => match unsg k with | false => some (.int k (x * y), [-(top k : Int) ≤ x * y, x * y < (top k : Nat)]) | true => none
  | .eql => aCmp (way - 4) (x = y)
  | .neq => aCmp (way - 4) (x ≠ y)
  | .lss => aCmp (way - 4) (x < y)
  | .leq => aCmp (way - 4) (x ≤ y)
  | .gtr => aCmp (way - 4) (x > y)
  | .geq => aCmp (way - 4) (x ≥ y)
  | _ => none
def aBin (way : Nat) (op : BinOp) (x y : Value) : Told :=
  match x, y with
  | .int k x, .int k' y =>
    match op, x, y with
    | .shl, .ofNat m, .ofNat n => match unsg k with | true => some (.int k (Int.ofNat (m * 2 ^ n % top k)), []) | false => some (.int k (Int.ofNat (m * 2 ^ n)), [m * 2 ^ n < top k, n ≤ k.bits])
    | .shr, .ofNat m, .ofNat n => some (.int k (Int.ofNat (m / 2 ^ n)), [n ≤ k.bits])
    | .shl, _, _ | .shr, _, _ => none
    | op, x, y =>
      match decide (k = k'), Nat.ble 4 way with
      | false, _ => none
      | true, true => aInt way op k x y
      | true, false => match x, y with
        | .ofNat m, .ofNat n => aNat way op k m n
        | _, _ => none
  | .string s, .string u =>
    match op with
    | .add => some (.string (s ++ u), [s.size + u.size ≤ 9223372036854775807])
    | .eql => aCmp way (s = u)
    | .neq => aCmp way (s ≠ u)
    | _ => none
  | _, _ => none

/-- All that is told, and then the rest. -/
def allC : List Prop → Prop → Prop
  | [], k => k
  | c :: cs, k => c ∧ allC cs k
theorem allC_iff {cs : List Prop} {k : Prop} : allC cs k ↔ (∀ c ∈ cs, c) ∧ k := by
  induction cs with
  | nil => simp [allC]
  | cons c cs ih =>
    simp only [allC, ih]
    constructor
    · rintro ⟨h1, h2, h3⟩
      exact ⟨fun x hx => (List.mem_cons.1 hx).elim (fun e => by rw [e]; exact h1) (h2 x), h3⟩
    · rintro ⟨h1, h2⟩
      exact ⟨h1 c (by simp), fun x hx => h1 x (by simp [hx]), h2⟩

section
variable {P : Program} {w : World}
theorem run_cmp {way : Nat} {p : Prop} [Decidable p] {v : Value} {cs : List Prop} (h : aCmp way p = some (v, cs)) (hc : ∀ c ∈ cs, c) : v = .bool (decide p) := by
  unfold aCmp at h
  split at h <;> simp only [Option.some.injEq, Prod.mk.injEq] at h <;> obtain ⟨rfl, rfl⟩ := h
  · simp [hc p (by simp)]
  · simp [hc (¬ p) (by simp)]
  · rfl
theorem run_nat {way : Nat} {op : BinOp} {k : IntKind} {m n : Nat} {v : Value} {cs : List Prop} {t : TypeId} (h : aNat way op k m n = some (v, cs)) (hc : ∀ c ∈ cs, c) :
    (binOp op t (.int k (m : Int)) (.int k (n : Int))).run P w = .ok v w := by
  cases op <;> simp only [aNat] at h <;> first | (cases h; done) | skip
  case add =>
    split at h <;> simp only [Option.some.injEq, Prod.mk.injEq] at h <;> obtain ⟨rfl, rfl⟩ := h
    · rename_i hu
      simp [binOp, Op.intArith, ← Int.natCast_add, wrap_un k _ hu]
    · have := hc (m + n < top k) (by simp)
      simp [binOp, Op.intArith, ← Int.natCast_add, wrap_fit k _ this]
  case sub =>
    split at h <;> simp only [Option.some.injEq, Prod.mk.injEq] at h <;> obtain ⟨rfl, rfl⟩ := h
    · rename_i hu
      have h1 := hc (n ≤ top k) (by simp)
      simp only [binOp, Op.intArith, wrap_u k _ hu]
      have : ((m : Int) - n) % (top k : Nat) = ((m + (top k - n)) % top k : Nat) := by
        rw [Int.natCast_emod, Int.natCast_add, Int.ofNat_sub h1]
        rw [show (m : Int) + ((top k : Int) - n) = (m - n) + (top k : Int) by omega, Int.add_emod_right]
      simp [this]
    · have h1 := hc (n ≤ m) (by simp)
      have h2 := hc (m - n < top k) (by simp)
      have e : (m : Int) - n = ((m - n : Nat) : Int) := by omega
      simp [binOp, Op.intArith, e, wrap_fit k _ h2]
  case mul =>
    split at h <;> simp only [Option.some.injEq, Prod.mk.injEq] at h <;> obtain ⟨rfl, rfl⟩ := h
    · rename_i hu
      simp [binOp, Op.intArith, ← Int.natCast_mul, wrap_un k _ hu]
    · have := hc (m * n < top k) (by simp)
      simp [binOp, Op.intArith, ← Int.natCast_mul, wrap_fit k _ this]
  case quo =>
    simp only [Option.some.injEq, Prod.mk.injEq] at h
    obtain ⟨rfl, rfl⟩ := h
    have h1 := hc (n ≠ 0) (by simp)
    have h2 := hc (m / n < top k) (by simp)
    have e : (m : Int).tdiv n = ((m / n : Nat) : Int) := by rw [Int.tdiv_eq_ediv_of_nonneg (by omega)]; simp
    have h1' : ¬ ((n : Int) = 0) := by omega
    have e2 := wrap_fit k _ h2
    simp only [binOp, Op.intDiv, if_neg h1', e, e2, ne_eq, not_true, if_false]
    rfl
  case rem =>
    simp only [Option.some.injEq, Prod.mk.injEq] at h
    obtain ⟨rfl, rfl⟩ := h
    have h1 := hc (n ≠ 0) (by simp)
    have e : (m : Int).tmod n = ((m % n : Nat) : Int) := by rw [Int.tmod_eq_emod_of_nonneg (by omega)]; simp
    have h1' : ¬ ((n : Int) = 0) := by omega
    simp [binOp, Op.intDiv, e, h1]
  case and =>
    simp only [Option.some.injEq, Prod.mk.injEq] at h
    obtain ⟨rfl, rfl⟩ := h
    have h1 := hc (m < top k) (by simp)
    have h2 := hc (n < top k) (by simp)
    have b1 : m < 2 ^ k.bits := Nat.lt_of_lt_of_le h1 (top_le k)
    have b2 : n < 2 ^ k.bits := Nat.lt_of_lt_of_le h2 (top_le k)
    have b3 : m &&& n < top k := Nat.lt_of_le_of_lt Nat.and_le_left h1
    have e : (BitVec.ofInt k.bits m &&& BitVec.ofInt k.bits n).toNat = m &&& n := by
      simp [BitVec.ofInt_natCast, Nat.mod_eq_of_lt b1, Nat.mod_eq_of_lt b2]
    simp only [binOp, Op.intBits, e, wrap_fit k _ b3, ne_eq, not_true, if_false]
    rfl
  case or =>
    simp only [Option.some.injEq, Prod.mk.injEq] at h
    obtain ⟨rfl, rfl⟩ := h
    have h1 := hc (m < top k) (by simp)
    have h2 := hc (n < top k) (by simp)
    have b1 : m < 2 ^ k.bits := Nat.lt_of_lt_of_le h1 (top_le k)
    have b2 : n < 2 ^ k.bits := Nat.lt_of_lt_of_le h2 (top_le k)
    have b3 : m ||| n < top k := by
      rw [top_bits] at *; split at h1
      · rename_i hu; rw [if_pos hu] at *; exact Nat.or_lt_two_pow h1 h2
      · rename_i hu; rw [if_neg hu] at *; exact Nat.or_lt_two_pow h1 h2
    have e : (BitVec.ofInt k.bits m ||| BitVec.ofInt k.bits n).toNat = m ||| n := by
      simp [BitVec.ofInt_natCast, Nat.mod_eq_of_lt b1, Nat.mod_eq_of_lt b2]
    simp only [binOp, Op.intBits, e, wrap_fit k _ b3, ne_eq, not_true, if_false]
    rfl
  case xor =>
    simp only [Option.some.injEq, Prod.mk.injEq] at h
    obtain ⟨rfl, rfl⟩ := h
    have h1 := hc (m < top k) (by simp)
    have h2 := hc (n < top k) (by simp)
    have b1 : m < 2 ^ k.bits := Nat.lt_of_lt_of_le h1 (top_le k)
    have b2 : n < 2 ^ k.bits := Nat.lt_of_lt_of_le h2 (top_le k)
    have b3 : m ^^^ n < top k := by
      rw [top_bits] at *; split at h1
      · rename_i hu; rw [if_pos hu] at *; exact Nat.xor_lt_two_pow h1 h2
      · rename_i hu; rw [if_neg hu] at *; exact Nat.xor_lt_two_pow h1 h2
    have e : (BitVec.ofInt k.bits m ^^^ BitVec.ofInt k.bits n).toNat = m ^^^ n := by
      simp [BitVec.ofInt_natCast, Nat.mod_eq_of_lt b1, Nat.mod_eq_of_lt b2]
    simp only [binOp, Op.intBits, e, wrap_fit k _ b3, ne_eq, not_true, if_false]
    rfl
  all_goals
    have := run_cmp h hc
    subst this
    simp [binOp, Op.intCmp]
  · rw [Bool.eq_iff_iff]; simp; omega
  · by_cases e : m = n <;> simp [e]; omega
theorem run_int {way : Nat} {op : BinOp} {k : IntKind} {x y : Int} {v : Value} {cs : List Prop} {t : TypeId} (h : aInt way op k x y = some (v, cs)) (hc : ∀ c ∈ cs, c) :
    (binOp op t (.int k x) (.int k y)).run P w = .ok v w := by
  cases op <;> simp only [aInt] at h <;> first | (cases h; done) | skip
  case add =>
    split at h <;> first | (cases h; done) | skip
    rename_i hu
    simp only [Option.some.injEq, Prod.mk.injEq] at h
    obtain ⟨rfl, rfl⟩ := h
    simp [binOp, Op.intArith, wrap_int k _ (hc (-(top k : Int) ≤ x + y) (by simp)) (hc (x + y < (top k : Nat)) (by simp)) hu]
  case sub =>
    split at h <;> first | (cases h; done) | skip
    rename_i hu
    simp only [Option.some.injEq, Prod.mk.injEq] at h
    obtain ⟨rfl, rfl⟩ := h
    simp [binOp, Op.intArith, wrap_int k _ (hc (-(top k : Int) ≤ x - y) (by simp)) (hc (x - y < (top k : Nat)) (by simp)) hu]
  case mul =>
    split at h <;> first | (cases h; done) | skip
    rename_i hu
    simp only [Option.some.injEq, Prod.mk.injEq] at h
    obtain ⟨rfl, rfl⟩ := h
    simp [binOp, Op.intArith, wrap_int k _ (hc (-(top k : Int) ≤ x * y) (by simp)) (hc (x * y < (top k : Nat)) (by simp)) hu]
  all_goals
    have := run_cmp h hc
    subst this
    simp [binOp, Op.intCmp]
  · rw [Bool.eq_iff_iff]; simp
  · by_cases e : x = y <;> simp [e]
theorem toList_eq_iff (s u : ByteArray) : (s.toList == u.toList) = decide (s = u) := by
  rw [Bool.eq_iff_iff]
  simp only [beq_iff_eq, decide_eq_true_eq]
  constructor
  · intro h
    have h1 : ∀ x : ByteArray, x.data.toList = x.toList := fun x => (Go.ByteArray.toList_eq x).symm
    apply ByteArray.ext
    apply Array.toList_inj.1
    rw [h1, h1, h]
  · rintro rfl; rfl
end
end Go.Proofs.YtkpindnekaijfaaDoor
