/- Several texts in one: Numbers as bytes, the lowest first. No program in this text. Numbers as words of 64 bits, the lowest first. No program in this text. Rows that lie anywhere and are only read; whole numbers as rows of words. Numbers as bits, the lowest first. No program in this text. Numbers as decimal digits, the lowest first. No program in this text. Numbers of layer 8: bits, decimal digits, a division of two words by a group. No program in this text. The library: bits of a word, which is less, products of words. The library: two words, divided by a group. The library: decimal digits of a word. -/
import Derived.Test.YtlljedijldkcbaaDoorZ1
import Derived.Test.YtlljedijldkcbaaDoorZ2
import Derived.Test.YtlljedijldkcbaaDoorProg
import Derived.Lib.Mul64
import Derived.Shelf.Strconv.Itoa2
namespace Go.Proofs.YtlljedijldkcbaaDoor
def leB (n N : Nat) : List Nat := (List.range n).map fun j => N / 256 ^ j % 256
theorem leB_len (n N : Nat) : (leB n N).length = n := by simp [leB]
theorem leB_lt (n N i : Nat) : (leB n N).getD i 0 < 256 := by
  rw [List.getD_eq_getElem?_getD]
  cases h : (leB n N)[i]? with
  | none => decide
  | some x =>
    obtain ⟨j, _, rfl⟩ := List.mem_map.1 (List.mem_of_getElem? h)
    exact Nat.mod_lt _ (by decide)
theorem leB_get {n N i : Nat} (h : i < n) : (leB n N).getD i 0 = N / 256 ^ i % 256 := by simp [leB, h]
def leV : List Nat → Nat
  | [] => 0
  | x :: r => x + 256 * leV r
theorem leV_app : ∀ (A B : List Nat), leV (A ++ B) = leV A + 256 ^ A.length * leV B
  | [], B => by simp [leV]
  | x :: r, B => by simp only [List.cons_append, leV, leV_app r B, List.length_cons, Nat.pow_succ]; grind
theorem leV_lt : ∀ (A : List Nat), (∀ i, A.getD i 0 < 256) → leV A < 256 ^ A.length
  | [], _ => by simp [leV]
  | x :: r, h => by
    have h0 := h 0
    have ih := leV_lt r (fun i => by have := h (i + 1); simpa using this)
    simp at h0
    simp only [leV, List.length_cons, Nat.pow_succ]
    omega
theorem leV_div : ∀ (A : List Nat), (∀ i, A.getD i 0 < 256) → ∀ i, leV A / 256 ^ i % 256 = A.getD i 0
  | [], _, i => by simp [leV]
  | x :: r, h, 0 => by have := h 0; simp at this; simp [leV]; omega
  | x :: r, h, i + 1 => by
    have h0 := h 0
    simp at h0
    have ih := leV_div r (fun i => by have := h (i + 1); simpa using this) i
    have : (x + 256 * leV r) / 256 ^ (i + 1) = leV r / 256 ^ i := by
      rw [Nat.pow_succ', ← Nat.div_div_eq_div_mul]
      congr 1
      omega
    simp only [leV, this, ih]
    simp
def carB (A B j : Nat) : Nat := (A % 256 ^ j + B % 256 ^ j) / 256 ^ j
theorem sum_div (A B p : Nat) (hp : 0 < p) : (A + B) / p = A / p + B / p + (A % p + B % p) / p := by
  have h1 := Nat.div_add_mod A p
  have h2 := Nat.div_add_mod B p
  have : A + B = (A % p + B % p) + p * (A / p + B / p) := by rw [Nat.mul_add]; omega
  rw [this, Nat.add_mul_div_left _ _ hp]; omega
theorem car_digit (A B j : Nat) : (carB A B j + (A / 256 ^ j % 256 + B / 256 ^ j % 256)) % 256 = (A + B) / 256 ^ j % 256 := by
  rw [sum_div A B (256 ^ j) (Nat.pow_pos (by decide))]
  unfold carB
  omega
theorem car_step (A B j : Nat) : (carB A B j + (A / 256 ^ j % 256 + B / 256 ^ j % 256)) / 256 = carB A B (j + 1) := by
  have e : ∀ X : Nat, X % 256 ^ (j + 1) = X % 256 ^ j + 256 ^ j * (X / 256 ^ j % 256) := fun X => by
    rw [Nat.pow_succ, Nat.mod_mul]
  unfold carB
  rw [e A, e B, Nat.pow_succ, ← Nat.div_div_eq_div_mul]
  congr 1
  have : A % 256 ^ j + 256 ^ j * (A / 256 ^ j % 256) + (B % 256 ^ j + 256 ^ j * (B / 256 ^ j % 256)) = (A % 256 ^ j + B % 256 ^ j) + 256 ^ j * (A / 256 ^ j % 256 + B / 256 ^ j % 256) := by rw [Nat.mul_add]; omega
  rw [this, Nat.add_mul_div_left _ _ (Nat.pow_pos (by decide))]
theorem car_zero (A B : Nat) : carB A B 0 = 0 := by simp [carB, Nat.mod_one]
theorem car_lt (A B j : Nat) : carB A B j < 2 := by
  unfold carB
  have h1 := Nat.mod_lt A (show 256 ^ j > 0 from Nat.pow_pos (by decide))
  have h2 := Nat.mod_lt B (show 256 ^ j > 0 from Nat.pow_pos (by decide))
  exact Nat.div_lt_of_lt_mul (by omega)
/-- How many bytes a number has. -/
def szT (N : Nat) : Nat → Nat
  | 0 => 0
  | k + 1 => if N < 256 ^ k then szT N k else k + 1
def sz (N : Nat) : Nat := szT N N
theorem szT_ok (N : Nat) : ∀ k, N < 256 ^ k → N < 256 ^ szT N k ∧ (szT N k = 0 ∨ 256 ^ (szT N k - 1) ≤ N)
  | 0, h => ⟨h, .inl rfl⟩
  | k + 1, h => by
    unfold szT
    split
    · rename_i h1; exact szT_ok N k h1
    · rename_i h1; exact ⟨h, .inr (Nat.le_of_not_lt h1)⟩
theorem sz_ok (N : Nat) : N < 256 ^ sz N ∧ (sz N = 0 ∨ 256 ^ (sz N - 1) ≤ N) := szT_ok N N (Nat.lt_pow_self (by decide))
theorem pw_le {m n : Nat} (h : m ≤ n) : 256 ^ m ≤ 256 ^ n := Nat.pow_le_pow_right (by decide) h
theorem pw_pos (n : Nat) : 0 < 256 ^ n := Nat.pow_pos (by decide)
theorem sz_le {N n : Nat} (h : N < 256 ^ n) : sz N ≤ n := by
  rcases (sz_ok N).2 with b | b
  · omega
  · rcases Nat.lt_or_ge n (sz N) with c | c
    · have := pw_le (show n ≤ sz N - 1 by omega); omega
    · exact c
theorem sz_of {N n : Nat} (h : N < 256 ^ n) (h2 : n = 0 ∨ 256 ^ (n - 1) ≤ N) : n = sz N := by
  have h1 := sz_le h
  rcases h2 with h2 | h2
  · omega
  · rcases Nat.lt_or_ge (sz N) n with c | c
    · have := pw_le (show sz N ≤ n - 1 by omega)
      have := (sz_ok N).1
      omega
    · omega
theorem sz_mono {M N : Nat} (h : M ≤ N) : sz M ≤ sz N := sz_le (Nat.lt_of_le_of_lt h (sz_ok N).1)
theorem lt_sz {N n : Nat} (h : sz N ≤ n) : N < 256 ^ n := Nat.lt_of_lt_of_le (sz_ok N).1 (pw_le h)
/-- The fewest bytes. -/
def minB (N : Nat) : List Nat := leB (sz N) N
theorem minB_len (N : Nat) : (minB N).length = sz N := leB_len _ _
theorem minB_lt (N i : Nat) : (minB N).getD i 0 < 256 := leB_lt _ _ _
theorem minB_get (N i : Nat) : (minB N).getD i 0 = N / 256 ^ i % 256 := by
  rcases Nat.lt_or_ge i (sz N) with h | h
  · exact leB_get h
  · rw [List.getD_eq_getElem?_getD, List.getElem?_eq_none (by rw [minB_len]; exact h), Nat.div_eq_of_lt (lt_sz h)]; rfl
theorem leB_succ (n N : Nat) : leB (n + 1) N = leB n N ++ [N / 256 ^ n % 256] := by simp [leB, List.range_succ]
theorem leV_leB (n N : Nat) : leV (leB n N) = N % 256 ^ n := by
  induction n with
  | zero => simp [leB, leV, Nat.mod_one]
  | succ n ih => rw [leB_succ, leV_app, ih, leB_len, Nat.pow_succ, Nat.mod_mul]; simp [leV]
theorem leV_none {A : List Nat} (h : ∀ i, A.getD i 0 = 0) : leV A = 0 := by
  induction A with
  | nil => rfl
  | cons x r ih =>
    have h0 := h 0
    simp at h0
    rw [leV, ih (fun i => by have := h (i + 1); simpa using this), h0]
/-- Noughts at the end are cut off. -/
theorem trim_ok {X : List Nat} (hX : ∀ i, X.getD i 0 < 256) {n : Nat} (hn : n ≤ X.length) (h0 : ∀ i, n ≤ i → X.getD i 0 = 0) (h1 : n = 0 ∨ X.getD (n - 1) 0 ≠ 0) : X.take n = minB (leV X) := by
  have e : leV X = leV (X.take n) := by
    conv => lhs; rw [← List.take_append_drop n X]
    rw [leV_app, leV_none (A := X.drop n) (fun i => by have := h0 (n + i) (by omega); simpa only [List.getD_eq_getElem?_getD, List.getElem?_drop] using this), Nat.mul_zero, Nat.add_zero]
  have l : (X.take n).length = n := by simp; omega
  have hlt : leV X < 256 ^ n := by
    rw [e]
    have := leV_lt (X.take n) (fun i => by
      rw [List.getD_eq_getElem?_getD, List.getElem?_take]
      split
      · have := hX i; rwa [List.getD_eq_getElem?_getD] at this
      · decide)
    rwa [l] at this
  have hs : n = sz (leV X) := sz_of hlt (h1.imp id fun h => Nat.le_of_not_lt fun hc => h (by rw [← leV_div X hX, Nat.div_eq_of_lt hc]))
  unfold minB
  rw [← hs]
  refine ext_getD (by rw [l, leB_len]) fun i hi => ?_
  rw [l] at hi
  rw [leB_get hi, leV_div X hX, List.getD_eq_getElem?_getD, List.getElem?_take, if_pos hi, List.getD_eq_getElem?_getD]
theorem add_end {M N i : Nat} (h1 : sz M ≤ i) (h2 : sz N ≤ i) (h3 : carB M N i = 0) : M + N < 256 ^ i := by
  unfold carB at h3
  rw [Nat.mod_eq_of_lt (lt_sz h1), Nat.mod_eq_of_lt (lt_sz h2)] at h3
  rcases Nat.lt_or_ge (M + N) (256 ^ i) with h | h
  · exact h
  · have := Nat.div_pos h (pw_pos i); omega
theorem add_val {M N i : Nat} (h : M + N < 256 ^ i) : leV (leB i (M + N)) = M + N := by rw [leV_leB, Nat.mod_eq_of_lt h]
theorem car_more {M N i : Nat} (h : carB M N i > 0) : i ≤ sz M + sz N := by
  rcases Nat.lt_or_ge (sz M + sz N) i with c | c
  · exfalso
    have h1 := lt_sz (N := M) (n := i - 1) (by omega)
    have h2 := lt_sz (N := N) (n := i - 1) (by omega)
    have h3 : 256 ^ i = 256 ^ (i - 1) * 256 := by rw [← Nat.pow_succ]; congr 1; omega
    have : carB M N i = 0 := by
      unfold carB
      rw [Nat.mod_eq_of_lt (show M < 256 ^ i by omega), Nat.mod_eq_of_lt (show N < 256 ^ i by omega)]
      exact Nat.div_eq_of_lt (by omega)
    omega
  · exact c
def cmpN (M N : Nat) : Int := if M < N then -1 else if M = N then 0 else 1
theorem cmp_neg (M N : Nat) : cmpN M N < 0 ↔ M < N := by unfold cmpN; split <;> (try split) <;> simp_all
theorem cmp_len {M N : Nat} (h : sz M < sz N) : M < N := Nat.lt_of_not_le fun h2 => by have := sz_mono h2; omega
theorem div_step (M i : Nat) : M / 256 ^ i = 256 * (M / 256 ^ (i + 1)) + M / 256 ^ i % 256 := by
  rw [Nat.pow_succ, ← Nat.div_div_eq_div_mul]; omega
theorem cmp_lt {M N i : Nat} (h : M / 256 ^ (i + 1) = N / 256 ^ (i + 1)) (h2 : M / 256 ^ i % 256 < N / 256 ^ i % 256) : M < N := by
  have h1 : M / 256 ^ i < N / 256 ^ i := by rw [div_step M i, div_step N i, h]; omega
  exact Nat.lt_of_not_le fun h3 => by have := Nat.div_le_div_right (c := 256 ^ i) h3; omega
theorem cmp_eq {M N i : Nat} (h : M / 256 ^ (i + 1) = N / 256 ^ (i + 1)) (h2 : M / 256 ^ i % 256 = N / 256 ^ i % 256) : M / 256 ^ i = N / 256 ^ i := by
  rw [div_step M i, div_step N i, h, h2]
theorem cmp_top {M N : Nat} (h : sz M = sz N) : M / 256 ^ sz M = N / 256 ^ sz M := by
  rw [Nat.div_eq_of_lt (sz_ok M).1, Nat.div_eq_of_lt (by rw [h]; exact (sz_ok N).1)]
end Go.Proofs.YtlljedijldkcbaaDoor
namespace Go.Proofs.YtlljedijldkcbaaDoor
def qleB (n N : Nat) : List Nat := (List.range n).map fun j => N / 18446744073709551616 ^ j % 18446744073709551616
theorem qleB_len (n N : Nat) : (qleB n N).length = n := by simp [qleB]
theorem qleB_lt (n N i : Nat) : (qleB n N).getD i 0 < 18446744073709551616 := by
  rw [List.getD_eq_getElem?_getD]
  cases h : (qleB n N)[i]? with
  | none => decide
  | some x =>
    obtain ⟨j, _, rfl⟩ := List.mem_map.1 (List.mem_of_getElem? h)
    exact Nat.mod_lt _ (by decide)
theorem qleB_get {n N i : Nat} (h : i < n) : (qleB n N).getD i 0 = N / 18446744073709551616 ^ i % 18446744073709551616 := by simp [qleB, h]
def qleV : List Nat → Nat
  | [] => 0
  | x :: r => x + 18446744073709551616 * qleV r
theorem qleV_app : ∀ (A B : List Nat), qleV (A ++ B) = qleV A + 18446744073709551616 ^ A.length * qleV B
  | [], B => by simp [qleV]
  | x :: r, B => by simp only [List.cons_append, qleV, qleV_app r B, List.length_cons, Nat.pow_succ]; grind
theorem qleV_lt : ∀ (A : List Nat), (∀ i, A.getD i 0 < 18446744073709551616) → qleV A < 18446744073709551616 ^ A.length
  | [], _ => by simp [qleV]
  | x :: r, h => by
    have h0 := h 0
    have ih := qleV_lt r (fun i => by have := h (i + 1); simpa using this)
    simp at h0
    simp only [qleV, List.length_cons, Nat.pow_succ]
    omega
theorem qleV_div : ∀ (A : List Nat), (∀ i, A.getD i 0 < 18446744073709551616) → ∀ i, qleV A / 18446744073709551616 ^ i % 18446744073709551616 = A.getD i 0
  | [], _, i => by simp [qleV]
  | x :: r, h, 0 => by have := h 0; simp at this; simp [qleV]; omega
  | x :: r, h, i + 1 => by
    have h0 := h 0
    simp at h0
    have ih := qleV_div r (fun i => by have := h (i + 1); simpa using this) i
    have : (x + 18446744073709551616 * qleV r) / 18446744073709551616 ^ (i + 1) = qleV r / 18446744073709551616 ^ i := by
      rw [Nat.pow_succ', ← Nat.div_div_eq_div_mul]
      congr 1
      omega
    simp only [qleV, this, ih]
    simp
def qcarB (A B j : Nat) : Nat := (A % 18446744073709551616 ^ j + B % 18446744073709551616 ^ j) / 18446744073709551616 ^ j
theorem qcar_digit (A B j : Nat) : (qcarB A B j + (A / 18446744073709551616 ^ j % 18446744073709551616 + B / 18446744073709551616 ^ j % 18446744073709551616)) % 18446744073709551616 = (A + B) / 18446744073709551616 ^ j % 18446744073709551616 := by
  rw [sum_div A B (18446744073709551616 ^ j) (Nat.pow_pos (by decide))]
  unfold qcarB
  omega
theorem qcar_step (A B j : Nat) : (qcarB A B j + (A / 18446744073709551616 ^ j % 18446744073709551616 + B / 18446744073709551616 ^ j % 18446744073709551616)) / 18446744073709551616 = qcarB A B (j + 1) := by
  have e : ∀ X : Nat, X % 18446744073709551616 ^ (j + 1) = X % 18446744073709551616 ^ j + 18446744073709551616 ^ j * (X / 18446744073709551616 ^ j % 18446744073709551616) := fun X => by
    rw [Nat.pow_succ, Nat.mod_mul]
  unfold qcarB
  rw [e A, e B, Nat.pow_succ, ← Nat.div_div_eq_div_mul]
  congr 1
  have : A % 18446744073709551616 ^ j + 18446744073709551616 ^ j * (A / 18446744073709551616 ^ j % 18446744073709551616) + (B % 18446744073709551616 ^ j + 18446744073709551616 ^ j * (B / 18446744073709551616 ^ j % 18446744073709551616)) = (A % 18446744073709551616 ^ j + B % 18446744073709551616 ^ j) + 18446744073709551616 ^ j * (A / 18446744073709551616 ^ j % 18446744073709551616 + B / 18446744073709551616 ^ j % 18446744073709551616) := by rw [Nat.mul_add]; omega
  rw [this, Nat.add_mul_div_left _ _ (Nat.pow_pos (by decide))]
theorem qcar_zero (A B : Nat) : qcarB A B 0 = 0 := by simp [qcarB, Nat.mod_one]
theorem qcar_lt (A B j : Nat) : qcarB A B j < 2 := by
  unfold qcarB
  have h1 := Nat.mod_lt A (show 18446744073709551616 ^ j > 0 from Nat.pow_pos (by decide))
  have h2 := Nat.mod_lt B (show 18446744073709551616 ^ j > 0 from Nat.pow_pos (by decide))
  exact Nat.div_lt_of_lt_mul (by omega)
/-- How many words a number has. -/
def qszT (N : Nat) : Nat → Nat
  | 0 => 0
  | k + 1 => if N < 18446744073709551616 ^ k then qszT N k else k + 1
def qsz (N : Nat) : Nat := qszT N N
theorem qszT_ok (N : Nat) : ∀ k, N < 18446744073709551616 ^ k → N < 18446744073709551616 ^ qszT N k ∧ (qszT N k = 0 ∨ 18446744073709551616 ^ (qszT N k - 1) ≤ N)
  | 0, h => ⟨h, .inl rfl⟩
  | k + 1, h => by
    unfold qszT
    split
    · rename_i h1; exact qszT_ok N k h1
    · rename_i h1; exact ⟨h, .inr (Nat.le_of_not_lt h1)⟩
theorem qsz_ok (N : Nat) : N < 18446744073709551616 ^ qsz N ∧ (qsz N = 0 ∨ 18446744073709551616 ^ (qsz N - 1) ≤ N) := qszT_ok N N (Nat.lt_pow_self (by decide))
theorem qpw_le {m n : Nat} (h : m ≤ n) : 18446744073709551616 ^ m ≤ 18446744073709551616 ^ n := Nat.pow_le_pow_right (by decide) h
theorem qpw_pos (n : Nat) : 0 < 18446744073709551616 ^ n := Nat.pow_pos (by decide)
theorem qsz_le {N n : Nat} (h : N < 18446744073709551616 ^ n) : qsz N ≤ n := by
  rcases (qsz_ok N).2 with b | b
  · omega
  · rcases Nat.lt_or_ge n (qsz N) with c | c
    · have := qpw_le (show n ≤ qsz N - 1 by omega); omega
    · exact c
theorem qsz_of {N n : Nat} (h : N < 18446744073709551616 ^ n) (h2 : n = 0 ∨ 18446744073709551616 ^ (n - 1) ≤ N) : n = qsz N := by
  have h1 := qsz_le h
  rcases h2 with h2 | h2
  · omega
  · rcases Nat.lt_or_ge (qsz N) n with c | c
    · have := qpw_le (show qsz N ≤ n - 1 by omega)
      have := (qsz_ok N).1
      omega
    · omega
theorem qsz_mono {M N : Nat} (h : M ≤ N) : qsz M ≤ qsz N := qsz_le (Nat.lt_of_le_of_lt h (qsz_ok N).1)
theorem qlt_sz {N n : Nat} (h : qsz N ≤ n) : N < 18446744073709551616 ^ n := Nat.lt_of_lt_of_le (qsz_ok N).1 (qpw_le h)
/-- The fewest words. -/
def qminB (N : Nat) : List Nat := qleB (qsz N) N
theorem qminB_len (N : Nat) : (qminB N).length = qsz N := qleB_len _ _
theorem qminB_get (N i : Nat) : (qminB N).getD i 0 = N / 18446744073709551616 ^ i % 18446744073709551616 := by
  rcases Nat.lt_or_ge i (qsz N) with h | h
  · exact qleB_get h
  · rw [List.getD_eq_getElem?_getD, List.getElem?_eq_none (by rw [qminB_len]; exact h), Nat.div_eq_of_lt (qlt_sz h)]; rfl
theorem qleB_succ (n N : Nat) : qleB (n + 1) N = qleB n N ++ [N / 18446744073709551616 ^ n % 18446744073709551616] := by simp [qleB, List.range_succ]
theorem qleV_leB (n N : Nat) : qleV (qleB n N) = N % 18446744073709551616 ^ n := by
  induction n with
  | zero => simp [qleB, qleV, Nat.mod_one]
  | succ n ih => rw [qleB_succ, qleV_app, ih, qleB_len, Nat.pow_succ, Nat.mod_mul]; simp [qleV]
theorem qleV_none {A : List Nat} (h : ∀ i, A.getD i 0 = 0) : qleV A = 0 := by
  induction A with
  | nil => rfl
  | cons x r ih =>
    have h0 := h 0
    simp at h0
    rw [qleV, ih (fun i => by have := h (i + 1); simpa using this), h0]
/-- Noughts at the end are cut off. -/
theorem qtrim_ok {X : List Nat} (hX : ∀ i, X.getD i 0 < 18446744073709551616) {n : Nat} (hn : n ≤ X.length) (h0 : ∀ i, n ≤ i → X.getD i 0 = 0) (h1 : n = 0 ∨ X.getD (n - 1) 0 ≠ 0) : X.take n = qminB (qleV X) := by
  have e : qleV X = qleV (X.take n) := by
    conv => lhs; rw [← List.take_append_drop n X]
    rw [qleV_app, qleV_none (A := X.drop n) (fun i => by have := h0 (n + i) (by omega); simpa only [List.getD_eq_getElem?_getD, List.getElem?_drop] using this), Nat.mul_zero, Nat.add_zero]
  have l : (X.take n).length = n := by simp; omega
  have hlt : qleV X < 18446744073709551616 ^ n := by
    rw [e]
    have := qleV_lt (X.take n) (fun i => by
      rw [List.getD_eq_getElem?_getD, List.getElem?_take]
      split
      · have := hX i; rwa [List.getD_eq_getElem?_getD] at this
      · decide)
    rwa [l] at this
  have hs : n = qsz (qleV X) := qsz_of hlt (h1.imp id fun h => Nat.le_of_not_lt fun hc => h (by rw [← qleV_div X hX, Nat.div_eq_of_lt hc]))
  unfold qminB
  rw [← hs]
  refine ext_getD (by rw [l, qleB_len]) fun i hi => ?_
  rw [l] at hi
  rw [qleB_get hi, qleV_div X hX, List.getD_eq_getElem?_getD, List.getElem?_take, if_pos hi, List.getD_eq_getElem?_getD]
theorem qcmp_len {M N : Nat} (h : qsz M < qsz N) : M < N := Nat.lt_of_not_le fun h2 => by have := qsz_mono h2; omega
theorem qdiv_step (M i : Nat) : M / 18446744073709551616 ^ i = 18446744073709551616 * (M / 18446744073709551616 ^ (i + 1)) + M / 18446744073709551616 ^ i % 18446744073709551616 := by
  rw [Nat.pow_succ, ← Nat.div_div_eq_div_mul]; omega
theorem qcmp_lt {M N i : Nat} (h : M / 18446744073709551616 ^ (i + 1) = N / 18446744073709551616 ^ (i + 1)) (h2 : M / 18446744073709551616 ^ i % 18446744073709551616 < N / 18446744073709551616 ^ i % 18446744073709551616) : M < N := by
  have h1 : M / 18446744073709551616 ^ i < N / 18446744073709551616 ^ i := by rw [qdiv_step M i, qdiv_step N i, h]; omega
  exact Nat.lt_of_not_le fun h3 => by have := Nat.div_le_div_right (c := 18446744073709551616 ^ i) h3; omega
theorem qcmp_eq {M N i : Nat} (h : M / 18446744073709551616 ^ (i + 1) = N / 18446744073709551616 ^ (i + 1)) (h2 : M / 18446744073709551616 ^ i % 18446744073709551616 = N / 18446744073709551616 ^ i % 18446744073709551616) : M / 18446744073709551616 ^ i = N / 18446744073709551616 ^ i := by
  rw [qdiv_step M i, qdiv_step N i, h, h2]
theorem qcmp_top {M N : Nat} (h : qsz M = qsz N) : M / 18446744073709551616 ^ qsz M = N / 18446744073709551616 ^ qsz M := by
  rw [Nat.div_eq_of_lt (qsz_ok M).1, Nat.div_eq_of_lt (by rw [h]; exact (qsz_ok N).1)]
theorem qpad_leB {N n k : Nat} (hk : n ≤ k) : ((qminB N ++ List.replicate k 0).take n) = qleB n N := by
  refine ext_getD (by simp [qminB_len, qleB_len]; omega) fun i hi => ?_
  have hi' : i < n := by simp at hi; omega
  rw [qleB_get hi', ← qminB_get N i, List.getD_eq_getElem?_getD, List.getElem?_take, if_pos hi', List.getD_eq_getElem?_getD]
  rcases Nat.lt_or_ge i (qminB N).length with c | c
  · rw [List.getElem?_append_left c]
  · rw [List.getElem?_append_right c, List.getElem?_eq_none c, List.getElem?_replicate]
    split <;> rfl
end Go.Proofs.YtlljedijldkcbaaDoor
namespace Go.Proofs.YtlljedijldkcbaaDoor
open Go.RowKit
section
variable {P : Program} {o : Oper} {w0 w w' : World} {n : Nat} {l : Slots} {L O : Blks} {S : Nat → Prop} {R : List Row}
def gOf (p : Option Addr) : Nat := match p with | some x => x.block | none => 0
/-- From p on, in w, n cells that hold V. -/
def CellsIn (w : World) (p : Option Addr) (n : Nat) (V : Nat → Value) : Prop :=
  n = 0 ∨ ∃ (b : Nat) (cs : Array Value) (T : TypeId) (fr : Nat × Nat), p = some ⟨b, 0, none⟩ ∧ w.heap[b]? = some (.cells cs T fr) ∧ ∀ j, j < n → cs[j]? = some (V j)
/-- .. in a block of the list. -/
def CellsO (O : Blks) (p : Option Addr) (n : Nat) (V : Nat → Value) : Prop :=
  n = 0 ∨ ∃ (b : Nat) (cs : Array Value) (T : TypeId) (fr : Nat × Nat), p = some ⟨b, 0, none⟩ ∧ (b, Obj.cells cs T fr) ∈ O ∧ ∀ j, j < n → cs[j]? = some (V j)
theorem CellsO.at {p : Option Addr} {V : Nat → Value} (h : CellsO O p n V) (H : Has w O) : CellsIn w p n V := by
  rcases h with h | ⟨b, cs, T, fr, h1, h2, h3⟩
  · exact .inl h
  · exact .inr ⟨b, cs, T, fr, h1, Has.mem H h2, h3⟩
theorem CellsO.mono {O' : Blks} {p : Option Addr} {V : Nat → Value} (h : CellsO O p n V) (hs : ∀ x ∈ O, x ∈ O') : CellsO O' p n V := by
  rcases h with h | ⟨b, cs, T, fr, h1, h2, h3⟩
  · exact .inl h
  · exact .inr ⟨b, cs, T, fr, h1, hs _ h2, h3⟩
theorem CellsIn.keep {p : Option Addr} {V : Nat → Value} (h : CellsIn w p n V) (hb : Below w.heap.size w w') : CellsIn w' p n V := by
  rcases h with h | ⟨b, cs, T, fr, h1, h2, h3⟩
  · exact .inl h
  · exact .inr ⟨b, cs, T, fr, h1, (hb.block b (lt_of_block h2)).trans h2, h3⟩
/-- Its place i. -/
theorem rowAddr_ok {t e : TypeId} {x y : Operand} {p : Option Addr} {i c : Nat} {V : Nat → Value} (ho : o.op = .indexAddr t x y) (hx : evO l x = some (.slice p n c)) (hy : evO l y = some (.int .i64 (i : Nat))) (ht : P.underlying t = some (.slice e)) (hz : szOf P e = some 1) (h : CellsO O p n V) (hi : i < n) :
    RunV P l L o (.pointer (some ⟨gOf p, i, none⟩)) := fun ρ w A _ => by
  rcases h with h | ⟨b, cs, T, fr, rfl, h2, h3⟩
  · omega
  · have e1 := A x _ hx
    have e2 : ρ y = .int .i64 (i : Int) := A y _ hy
    have q := run_idxAddr (P := P) (w := w) (way := 1) (t := t) (u := .slice (some ⟨b, 0, none⟩) n c) (z := .pointer (some ⟨b, i, none⟩)) (i := i) (cs := [i < n]) (by simp [aIdxAddr, ht, hz, addOff, mulSz]) (fun c hc => by rw [List.mem_singleton] at hc; rw [hc]; exact hi)
    simp only [execOp, ho, e1, e2, Sem.run_bind, q, Result.andThen_ok, Sem.run_pure, gOf]
/-- What is there: a value of one cell. -/
theorem rowLoad_ok {t : TypeId} {x : Operand} {p : Option Addr} {i : Nat} {V : Nat → Value} {d : TypeDesc} (ho : o.op = .load t x) (hx : evO l x = some (.pointer (some ⟨gOf p, i, none⟩))) (ht : P.underlying t = some d) (hd : d.isRow = false) (h : CellsO O p n V) (hO : ∀ y ∈ O, y ∈ L) (hi : i < n) : RunV P l L o (V i) := fun ρ w A H => by
  rcases h with h | ⟨b, cs, T, fr, rfl, h2, h3⟩
  · omega
  · have e1 : ρ x = .pointer (some ⟨b, i, none⟩) := A x _ hx
    have hcell : w.cell? ⟨b, i, none⟩ = some (V i) := by rw [cell_of (Has.mem H (hO _ h2))]; exact h3 i hi
    have hag := isAgg_of (P := P) (w := w) ht
    rw [hd] at hag
    simp only [execOp, ho, e1]
    simp [Instr.loadAt, Instr.sureAddr, loadVar, hag, go_sem, hcell]
/-- .. a struct of one cell. -/
theorem rowLoadA_ok {t : TypeId} {x : Operand} {p : Option Addr} {i : Nat} {V : Nat → Value} {d : TypeDesc} (ho : o.op = .load t x) (hx : evO l x = some (.pointer (some ⟨gOf p, i, none⟩))) (ht : P.underlying t = some d) (hd : d.isRow = true) (hs : (P.info? t).map (·.size) = some 1) (h : CellsO O p n V) (hO : ∀ y ∈ O, y ∈ L) (hi : i < n) : RunV P l L o (.agg #[V i]) := fun ρ w A H => by
  rcases h with h | ⟨b, cs, T, fr, rfl, h2, h3⟩
  · omega
  · have e1 : ρ x = .pointer (some ⟨b, i, none⟩) := A x _ hx
    have := run_loadAt_mid (P := P) w b i t [V i] d (fun j v hv => by
      cases j with
      | zero => simp at hv; subst hv; rw [Nat.add_zero, cell_of (Has.mem H (hO _ h2))]; exact h3 i hi
      | succ j => simp at hv) ht hd (by rw [hs]; rfl)
    simp only [execOp, ho, e1, Sem.run_bind, this, Result.andThen_ok, Sem.run_pure]
/-- Word j of a number. -/
def qd (N j : Nat) : Nat := N / 18446744073709551616 ^ j % 18446744073709551616
theorem qd_lt (N j : Nat) : qd N j < 18446744073709551616 := Nat.mod_lt _ (by decide)
/-- A row's value that is the number N, in w. -/
def NatIn (w : World) (v : Value) (N : Nat) : Prop := ∃ (p : Option Addr) (c : Nat), v = .slice p (qsz N) c ∧ (N = 0 → p = none ∧ c = 0) ∧ (N ≠ 0 → p ≠ none) ∧ qsz N ≤ c ∧ CellsIn w p (qsz N) (fun j => .int .u64 (qd N j : Nat))
def NatO (O : Blks) (v : Value) (N : Nat) : Prop := ∃ (p : Option Addr) (c : Nat), v = .slice p (qsz N) c ∧ (N = 0 → p = none ∧ c = 0) ∧ (N ≠ 0 → p ≠ none) ∧ qsz N ≤ c ∧ CellsO O p (qsz N) (fun j => .int .u64 (qd N j : Nat))
theorem NatO.at {v : Value} {N : Nat} (h : NatO O v N) (H : Has w O) : NatIn w v N := by
  obtain ⟨p, c, h1, h2, h2', h3, h4⟩ := h
  exact ⟨p, c, h1, h2, h2', h3, h4.at H⟩
theorem NatO.mono {O' : Blks} {v : Value} {N : Nat} (h : NatO O v N) (hs : ∀ x ∈ O, x ∈ O') : NatO O' v N := by
  obtain ⟨p, c, h1, h2, h2', h3, h4⟩ := h
  exact ⟨p, c, h1, h2, h2', h3, h4.mono hs⟩
theorem NatIn.keep {v : Value} {N : Nat} (h : NatIn w v N) (hb : Below w.heap.size w w') : NatIn w' v N := by
  obtain ⟨p, c, h1, h2, h2', h3, h4⟩ := h
  exact ⟨p, c, h1, h2, h2', h3, h4.keep hb⟩
theorem qsz_zero : qsz 0 = 0 := rfl
theorem qsz_pos {N : Nat} (h : N ≠ 0) : 0 < qsz N := by
  rcases Nat.eq_zero_or_pos (qsz N) with h0 | h0
  · have := (qsz_ok N).1; rw [h0] at this; simp at this; omega
  · exact h0
theorem natO_nil (O : Blks) : NatO O (.slice none 0 0) 0 := ⟨none, 0, rfl, fun _ => ⟨rfl, rfl⟩, fun h => (h rfl).elim, Nat.le_refl _, .inl rfl⟩
/-- .. in memory that is new since base. -/
def NatNew (base : Nat) (w : World) (v : Value) (N : Nat) : Prop := NatIn w v N ∧ ∀ g, v.ownBlock = some g → base ≤ g
theorem natNew_st (base N : Nat) : ∀ v w w', NatNew base w v N → Below w.heap.size w w' → NatNew base w' v N := fun _ _ _ h hb => ⟨h.1.keep hb, h.2⟩
theorem NatNew.mono {base base' : Nat} {v : Value} {N : Nat} (h : NatNew base w v N) (hb : base' ≤ base) : NatNew base' w v N := ⟨h.1, fun g hg => Nat.le_trans hb (h.2 g hg)⟩
def Nats (O : Blks) (l : List (Value × Nat)) : Prop := ∀ (i : Nat) x, l[i]? = some x → NatO O x.1 x.2
theorem Nats.nil (O : Blks) : Nats O [] := fun i x h => by simp at h
theorem Nats.cons {v : Value} {N : Nat} {l : List (Value × Nat)} (h : NatO O v N) (hl : Nats O l) : Nats O ((v, N) :: l) := fun i x hx => by
  cases i with
  | zero => simp at hx; subst hx; exact h
  | succ i => exact hl i x (by simpa using hx)
theorem Nats.get {l : List (Value × Nat)} (h : Nats O l) (i : Nat) {v : Value} {N : Nat} (hi : l[i]? = some (v, N)) : NatO O v N := h i _ hi
theorem Nats.mono {O' : Blks} {l : List (Value × Nat)} (h : Nats O l) (hs : ∀ x ∈ O, x ∈ O') : Nats O' l := fun i x hx => (h i x hx).mono hs
/-- One more block, apart from all others. -/
theorem MemS.addBlk {b : Nat} {ob : Obj} (M : MemS S w0 w L R) (hb : w.heap[b]? = some ob) (hL : ∀ x ∈ L, x.1 ≠ b) (hS : ¬ S b) (hR : ∀ r ∈ R, ∀ g, r.1.ownBlock = some g → b ≠ g) : MemS S w0 w ((b, ob) :: L) R :=
  ⟨M.os, M.tape, M.output, M.size, M.block, M.old, fun i x h => by
      cases i with
      | zero => simp at h; subst h; exact hb
      | succ i => exact M.has i x (by simpa using h),
    fun i j x y h h' hij => by
      cases i with
      | zero =>
        simp at h; subst h
        cases j with
        | zero => omega
        | succ j => exact Ne.symm (hL y (List.mem_of_getElem? (by simpa using h')))
      | succ i =>
        cases j with
        | zero => simp at h'; subst h'; exact hL x (List.mem_of_getElem? (by simpa using h))
        | succ j => exact M.apart i j x y (by simpa using h) (by simpa using h') (by omega),
    fun i x h => by
      cases i with
      | zero => simp at h; subst h; exact hS
      | succ i => exact M.base i x (by simpa using h), M.rows, fun r hr g hg x hx => by
      rcases List.mem_cons.1 hx with rfl | hx
      · exact hR r hr g hg
      · exact M.rowsL r hr g hg x hx, M.rowsR⟩
/-- A number that a call has made, behind the blocks K. -/
theorem MemS.addNat {K : Blks} {v : Value} {N : Nat} (M : MemS S w0 w (K ++ O) R) (hn : NatIn w v N) (hL : ∀ g, v.ownBlock = some g → ∀ x ∈ K ++ O, x.1 ≠ g) (hS : ∀ g, v.ownBlock = some g → ¬ S g) (hR : ∀ g, v.ownBlock = some g → ∀ r ∈ R, ∀ g', r.1.ownBlock = some g' → g ≠ g') :
    ∃ O', MemS S w0 w (K ++ O') R ∧ NatO O' v N ∧ ∀ x ∈ O, x ∈ O' := by
  obtain ⟨p, c, rfl, h2, h2', h3, h4⟩ := hn
  rcases h4 with h4 | ⟨b, cs, T, fr, rfl, h5, h6⟩
  · exact ⟨O, M, ⟨p, c, rfl, h2, h2', h3, .inl h4⟩, fun _ h => h⟩
  · refine ⟨(b, .cells cs T fr) :: O, ?_, ⟨_, c, rfl, h2, h2', h3, .inr ⟨b, cs, T, fr, rfl, by simp, h6⟩⟩, fun _ h => List.mem_cons_of_mem _ h⟩
    exact (M.addBlk h5 (hL b rfl) (hS b rfl) (hR b rfl)).perm List.perm_middle.symm
theorem MemS.addNew {K : Blks} {v : Value} {N : Nat} (M : MemS S w0 w (K ++ O) R) (hB : Below w.heap.size w w') (hn : NatNew w.heap.size w' v N) : ∃ O', MemS S w0 w' (K ++ O') R ∧ NatO O' v N ∧ ∀ x ∈ O, x ∈ O' :=
  (M.keep hB).addNat hn.1 (fun g hg x hx => by have := lt_of_block (Has.mem M.hasL hx); have := hn.2 g hg; omega) (fun g hg hs => by have := M.old g hs; have := M.size; have := hn.2 g hg; omega) (fun g hg r hr g' hg' => by have := (ownsRow_lt (M.rows r hr) hg').2; have := hn.2 g hg; omega)
theorem MemS.addNats {K : Blks} {v : Value} {N : Nat} {l : List (Value × Nat)} (M : MemS S w0 w (K ++ O) R) (hB : Below w.heap.size w w') (hn : NatNew w.heap.size w' v N) (hN : Nats O l) : ∃ O', MemS S w0 w' (K ++ O') R ∧ Nats O' ((v, N) :: l) ∧ ∀ x ∈ O, x ∈ O' := by
  obtain ⟨O', h1, h2, h3⟩ := M.addNew hB hn
  exact ⟨O', h1, .cons h2 (hN.mono h3), h3⟩
/-- What came in, as blocks that are apart. -/
theorem nats_O : ∀ (l : List (Value × Nat)), (∀ x ∈ l, NatIn w x.1 x.2) → ∀ O, Has w O → O.Pairwise (fun x y => x.1 ≠ y.1) → ∃ O', Has w O' ∧ O'.Pairwise (fun x y => x.1 ≠ y.1) ∧ Nats O' l ∧ ∀ x ∈ O, x ∈ O'
  | [], _, O, h1, h2 => ⟨O, h1, h2, .nil O, fun _ h => h⟩
  | (v, N) :: l, h, O, h1, h2 => by
    obtain ⟨O1, g1, g2, g3, g4⟩ := nats_O l (fun x hx => h x (by simp [hx])) O h1 h2
    obtain ⟨p, c, rfl, q2, q2', q3, q4⟩ := (show NatIn w v N from h (v, N) (by simp))
    rcases q4 with q4 | ⟨b, cs, T, fr, rfl, q5, q6⟩
    · exact ⟨O1, g1, g2, .cons ⟨p, c, rfl, q2, q2', q3, .inl q4⟩ g3, g4⟩
    · by_cases hb : ∃ x ∈ O1, x.1 = b
      · obtain ⟨x, hx, rfl⟩ := hb
        have := Has.mem g1 hx
        rw [this] at q5
        have q5 := Option.some.inj q5
        exact ⟨O1, g1, g2, .cons ⟨_, c, rfl, q2, q2', q3, .inr ⟨x.1, cs, T, fr, rfl, by rw [← q5]; exact hx, q6⟩⟩ g3, g4⟩
      · refine ⟨(b, .cells cs T fr) :: O1, fun i y hy => ?_, List.pairwise_cons.2 ⟨fun y hy e => hb ⟨y, hy, e.symm⟩, g2⟩, .cons ⟨_, c, rfl, q2, q2', q3, .inr ⟨b, cs, T, fr, rfl, by simp, q6⟩⟩ (g3.mono fun _ h => List.mem_cons_of_mem _ h), fun x hx => List.mem_cons_of_mem _ (g4 x hx)⟩
        cases i with
        | zero => simp at hy; subst hy; exact q5
        | succ i => exact g1 i y (by simpa using hy)
theorem distinct_of : ∀ {O : Blks}, O.Pairwise (fun x y => x.1 ≠ y.1) → Distinct O
  | [], _ => trivial
  | _ :: _, h => ⟨fun y hy => Ne.symm ((List.pairwise_cons.1 h).1 y hy), distinct_of (List.pairwise_cons.1 h).2⟩
/-- x[:m] of a row that lies anywhere. -/
theorem sliceTo_ok {t e : TypeId} {x y : Operand} {p : Option Addr} {m c : Nat} {V : Nat → Value} (ho : o.op = .slice t x none (some y) none) (hx : evO l x = some (.slice p n c)) (hy : evO l y = some (.int .i64 (m : Nat))) (ht : P.underlying t = some (.slice e)) (hz : szOf P e = some 1) (h : CellsO O p n V) (h0 : 0 < m) (hm : m ≤ n) (hc : n ≤ c) :
    RunV P l L o (.slice p m c) := fun ρ w A _ => by
  rcases h with h | ⟨b, cs, T, fr, rfl, h2, h3⟩
  · omega
  · have e1 := A x _ hx
    have e2 : ρ y = .int .i64 (m : Int) := A y _ hy
    have q := run_slice (P := P) (w := w) (way := 0) (t := t) (u := .slice (some ⟨b, 0, none⟩) n c) (z := .slice (some ⟨b, 0, none⟩) m c) (lo := none) (hi := some m) (cs := [0 ≤ m, m ≤ c, 0 < c]) (by simp [aSlice, ht, hz, mulSz]) (fun c' hc' => by
      simp only [List.mem_cons, List.not_mem_nil, or_false] at hc'
      rcases hc' with rfl | rfl | rfl <;> omega)
    simp only [execOp, ho, e1, Option.map_none, Option.map_some, e2, Sem.run_bind]
    simp only [optI, Option.map_none, Option.map_some] at q
    rw [q]
    simp only [Result.andThen_ok, Sem.run_pure]
/-- 'row == nil'. -/
theorem rowNil_ok {t t' e : TypeId} {x : Operand} {p : Option Addr} {c : Nat} {b : Bool} (ho : o.op = .binOp .eql t x (.const (.slice none 0 0)) t') (hx : evO l x = some (.slice p n c)) (ht : P.underlying t = some (.slice e)) (hb : p.isNone = b) : RunV P l L o (.bool b) := fun ρ w A _ => by
  have e1 := A x _ hx
  have e2 : ρ (.const (.slice none 0 0)) = .slice none 0 0 := A _ _ rfl
  subst hb
  have h : ∀ d : Nat, (Op.equalIn (d + 1) t (.slice p n c) (.slice none 0 0)).run P w = .ok p.isNone w := fun d => by cases p <;> simp [Op.equalIn, run_underlying ht]
  have h2 := h 9999
  simp [execOp, ho, e1, e2, eqGuard, binOp, Op.equal, Op.maxDepth, h2]
/-- A row without the noughts at its end. -/
def trP (p : Option Addr) (N : Nat) : Option Addr := if N = 0 then none else p
def trC (N c : Nat) : Nat := if N = 0 then 0 else c
def trimV (p : Option Addr) (N c : Nat) : Value := .slice (trP p N) (qsz N) (trC N c)
theorem trimV_zero (p : Option Addr) {N : Nat} (c : Nat) (h : N = 0) : trimV p N c = .slice none 0 0 := by subst h; rfl
theorem trimV_pos (p : Option Addr) {N : Nat} (c : Nat) (h : N ≠ 0) : trimV p N c = .slice p (qsz N) c := by rw [trimV, trP, trC, if_neg h, if_neg h]
/-- A number's value, of a letter. -/
def pOf (v : Value) : Option Addr := match v with | .slice p _ _ => p | _ => none
def cOf (v : Value) : Nat := match v with | .slice _ _ c => c | _ => 0
def nv (N : Nat) (v : Value) : Value := .slice (pOf v) (qsz N) (cOf v)
theorem qsz_le_len {X : List Nat} (hX : ∀ i, X.getD i 0 < 18446744073709551616) : qsz (qleV X) ≤ X.length := qsz_le (qleV_lt X hX)
theorem trim_nat {p : Option Addr} {X : List Nat} {c : Nat} (hX : ∀ i, X.getD i 0 < 18446744073709551616) (hc : X.length ≤ c) (h : CellsIn w p X.length (fun j => .int .u64 (X.getD j 0 : Nat))) : NatIn w (trimV p (qleV X) c) (qleV X) := by
  have hle := qsz_le_len hX
  by_cases hN : qleV X = 0
  · rw [trimV_zero _ _ hN, hN]
    exact ⟨none, 0, rfl, fun _ => ⟨rfl, rfl⟩, fun h => (h rfl).elim, Nat.le_refl _, .inl rfl⟩
  · rw [trimV_pos _ _ hN]
    have hp := qsz_pos hN
    rcases h with h | ⟨b, cs, T, fr, rfl, h2, h3⟩
    · omega
    · refine ⟨_, c, rfl, fun h => (hN h).elim, fun _ => by simp, by omega, .inr ⟨b, cs, T, fr, rfl, h2, fun j hj => ?_⟩⟩
      rw [h3 j (by omega)]
      show some (Value.int .u64 (X.getD j 0 : Nat)) = some (Value.int .u64 (qd (qleV X) j : Nat))
      rw [← qleV_div X hX j]
      rfl
theorem trim_new {b : Nat} {X : List Nat} {c base : Nat} {T : TypeId} {fr : Nat × Nat} {rest : Array Value} (hX : ∀ i, X.getD i 0 < 18446744073709551616) (hc : X.length ≤ c) (h : w.heap[b]? = some (.cells (cn .u64 X ++ rest) T fr)) (hb : base ≤ b) : NatNew base w (trimV (some ⟨b, 0, none⟩) (qleV X) c) (qleV X) := by
  refine ⟨trim_nat hX hc (.inr ⟨b, _, T, fr, rfl, h, fun j hj => ?_⟩), fun g hg => ?_⟩
  · rw [Array.getElem?_append_left (by rw [cn_size]; exact hj)]
    exact cn_get _ _ _ hj
  · by_cases hN : qleV X = 0
    · rw [trimV_zero _ _ hN] at hg; cases hg
    · rw [trimV_pos _ _ hN] at hg
      obtain rfl : b = g := by simpa [Value.ownBlock] using hg
      exact hb
theorem trim_new0 {b : Nat} {X : List Nat} {c base : Nat} {T : TypeId} {fr : Nat × Nat} (hX : ∀ i, X.getD i 0 < 18446744073709551616) (hc : X.length ≤ c) (h : w.heap[b]? = some (.cells (cn .u64 X) T fr)) (hb : base ≤ b) : NatNew base w (trimV (some ⟨b, 0, none⟩) (qleV X) c) (qleV X) :=
  trim_new (rest := #[]) hX hc (by simpa using h) hb
end
end Go.Proofs.YtlljedijldkcbaaDoor
namespace Go.Proofs.YtlljedijldkcbaaDoor
/-- How many bytes a number has. -/
def bszT (N : Nat) : Nat → Nat
  | 0 => 0
  | k + 1 => if N < 2 ^ k then bszT N k else k + 1
def bsz (N : Nat) : Nat := bszT N N
theorem bszT_ok (N : Nat) : ∀ k, N < 2 ^ k → N < 2 ^ bszT N k ∧ (bszT N k = 0 ∨ 2 ^ (bszT N k - 1) ≤ N)
  | 0, h => ⟨h, .inl rfl⟩
  | k + 1, h => by
    unfold bszT
    split
    · rename_i h1; exact bszT_ok N k h1
    · rename_i h1; exact ⟨h, .inr (Nat.le_of_not_lt h1)⟩
theorem bsz_ok (N : Nat) : N < 2 ^ bsz N ∧ (bsz N = 0 ∨ 2 ^ (bsz N - 1) ≤ N) := bszT_ok N N (Nat.lt_pow_self (by decide))
theorem bpw_le {m n : Nat} (h : m ≤ n) : 2 ^ m ≤ 2 ^ n := Nat.pow_le_pow_right (by decide) h
theorem bsz_le {N n : Nat} (h : N < 2 ^ n) : bsz N ≤ n := by
  rcases (bsz_ok N).2 with b | b
  · omega
  · rcases Nat.lt_or_ge n (bsz N) with c | c
    · have := bpw_le (show n ≤ bsz N - 1 by omega); omega
    · exact c
theorem bsz_of {N n : Nat} (h : N < 2 ^ n) (h2 : n = 0 ∨ 2 ^ (n - 1) ≤ N) : n = bsz N := by
  have h1 := bsz_le h
  rcases h2 with h2 | h2
  · omega
  · rcases Nat.lt_or_ge (bsz N) n with c | c
    · have := bpw_le (show bsz N ≤ n - 1 by omega)
      have := (bsz_ok N).1
      omega
    · omega
end Go.Proofs.YtlljedijldkcbaaDoor
namespace Go.Proofs.YtlljedijldkcbaaDoor
def dleB (n N : Nat) : List Nat := (List.range n).map fun j => N / 10 ^ j % 10
theorem dleB_len (n N : Nat) : (dleB n N).length = n := by simp [dleB]
/-- How many bytes a number has. -/
def dszT (N : Nat) : Nat → Nat
  | 0 => 0
  | k + 1 => if N < 10 ^ k then dszT N k else k + 1
def dsz (N : Nat) : Nat := dszT N N
theorem dszT_ok (N : Nat) : ∀ k, N < 10 ^ k → N < 10 ^ dszT N k ∧ (dszT N k = 0 ∨ 10 ^ (dszT N k - 1) ≤ N)
  | 0, h => ⟨h, .inl rfl⟩
  | k + 1, h => by
    unfold dszT
    split
    · rename_i h1; exact dszT_ok N k h1
    · rename_i h1; exact ⟨h, .inr (Nat.le_of_not_lt h1)⟩
theorem dsz_ok (N : Nat) : N < 10 ^ dsz N ∧ (dsz N = 0 ∨ 10 ^ (dsz N - 1) ≤ N) := dszT_ok N N (Nat.lt_pow_self (by decide))
theorem dpw_le {m n : Nat} (h : m ≤ n) : 10 ^ m ≤ 10 ^ n := Nat.pow_le_pow_right (by decide) h
theorem dpw_pos (n : Nat) : 0 < 10 ^ n := Nat.pow_pos (by decide)
theorem dsz_le {N n : Nat} (h : N < 10 ^ n) : dsz N ≤ n := by
  rcases (dsz_ok N).2 with b | b
  · omega
  · rcases Nat.lt_or_ge n (dsz N) with c | c
    · have := dpw_le (show n ≤ dsz N - 1 by omega); omega
    · exact c
theorem dsz_of {N n : Nat} (h : N < 10 ^ n) (h2 : n = 0 ∨ 10 ^ (n - 1) ≤ N) : n = dsz N := by
  have h1 := dsz_le h
  rcases h2 with h2 | h2
  · omega
  · rcases Nat.lt_or_ge (dsz N) n with c | c
    · have := dpw_le (show dsz N ≤ n - 1 by omega)
      have := (dsz_ok N).1
      omega
    · omega
/-- The fewest bytes. -/
def dminB (N : Nat) : List Nat := dleB (dsz N) N
end Go.Proofs.YtlljedijldkcbaaDoor
namespace Go.Proofs.YtlljedijldkcbaaDoor
def len8 : List Nat := [0, 1, 2, 2, 3, 3, 3, 3, 4, 4, 4, 4, 4, 4, 4, 4, 5, 5, 5, 5, 5, 5, 5, 5, 5, 5, 5, 5, 5, 5, 5, 5, 6, 6, 6, 6, 6, 6, 6, 6, 6, 6, 6, 6, 6, 6, 6, 6, 6, 6, 6, 6, 6, 6, 6, 6, 6, 6, 6, 6, 6, 6, 6, 6, 7, 7, 7, 7, 7, 7, 7, 7, 7, 7, 7, 7, 7, 7, 7, 7, 7, 7, 7, 7, 7, 7, 7, 7, 7, 7, 7, 7, 7, 7, 7, 7, 7, 7, 7, 7, 7, 7, 7, 7, 7, 7, 7, 7, 7, 7, 7, 7, 7, 7, 7, 7, 7, 7, 7, 7, 7, 7, 7, 7, 7, 7, 7, 7, 8, 8, 8, 8, 8, 8, 8, 8, 8, 8, 8, 8, 8, 8, 8, 8, 8, 8, 8, 8, 8, 8, 8, 8, 8, 8, 8, 8, 8, 8, 8, 8, 8, 8, 8, 8, 8, 8, 8, 8, 8, 8, 8, 8, 8, 8, 8, 8, 8, 8, 8, 8, 8, 8, 8, 8, 8, 8, 8, 8, 8, 8, 8, 8, 8, 8, 8, 8, 8, 8, 8, 8, 8, 8, 8, 8, 8, 8, 8, 8, 8, 8, 8, 8, 8, 8, 8, 8, 8, 8, 8, 8, 8, 8, 8, 8, 8, 8, 8, 8, 8, 8, 8, 8, 8, 8, 8, 8, 8, 8, 8, 8, 8, 8, 8, 8, 8, 8, 8, 8, 8, 8, 8, 8, 8, 8, 8, 8]
def digs36 : List Nat := [48, 49, 50, 51, 52, 53, 54, 55, 56, 57, 97, 98, 99, 100, 101, 102, 103, 104, 105, 106, 107, 108, 109, 110, 111, 112, 113, 114, 115, 116, 117, 118, 119, 120, 121, 122]
def smalls8 : List Nat := [48, 48, 48, 49, 48, 50, 48, 51, 48, 52, 48, 53, 48, 54, 48, 55, 48, 56, 48, 57, 49, 48, 49, 49, 49, 50, 49, 51, 49, 52, 49, 53, 49, 54, 49, 55, 49, 56, 49, 57, 50, 48, 50, 49, 50, 50, 50, 51, 50, 52, 50, 53, 50, 54, 50, 55, 50, 56, 50, 57, 51, 48, 51, 49, 51, 50, 51, 51, 51, 52, 51, 53, 51, 54, 51, 55, 51, 56, 51, 57, 52, 48, 52, 49, 52, 50, 52, 51, 52, 52, 52, 53, 52, 54, 52, 55, 52, 56, 52, 57, 53, 48, 53, 49, 53, 50, 53, 51, 53, 52, 53, 53, 53, 54, 53, 55, 53, 56, 53, 57, 54, 48, 54, 49, 54, 50, 54, 51, 54, 52, 54, 53, 54, 54, 54, 55, 54, 56, 54, 57, 55, 48, 55, 49, 55, 50, 55, 51, 55, 52, 55, 53, 55, 54, 55, 55, 55, 56, 55, 57, 56, 48, 56, 49, 56, 50, 56, 51, 56, 52, 56, 53, 56, 54, 56, 55, 56, 56, 56, 57, 57, 48, 57, 49, 57, 50, 57, 51, 57, 52, 57, 53, 57, 54, 57, 55, 57, 56, 57, 57]
theorem len8_fin : ∀ i : Fin 256, len8.getD i.val 0 = bsz i.val := by decide +kernel
theorem len8_at {i : Nat} (h : i < 256) : len8.getD i 0 = bsz i := len8_fin ⟨i, h⟩
theorem len8_le : ∀ i : Fin 256, len8.getD i.val 0 ≤ 8 := by decide +kernel
theorem bsz8 {i : Nat} (h : i < 256) : bsz i ≤ 8 := by have := len8_le ⟨i, h⟩; rwa [len8_at h] at this
theorem bsz_div {x k : Nat} (h : 2 ^ k ≤ x) : bsz x = k + bsz (x / 2 ^ k) := by
  have h1 : 0 < x / 2 ^ k := Nat.div_pos h (Nat.pow_pos (by decide))
  obtain ⟨a1, a2⟩ := bsz_ok (x / 2 ^ k)
  have h0 : bsz (x / 2 ^ k) ≠ 0 := fun e => by rw [e] at a1; simp at a1; omega
  refine (bsz_of ?_ (.inr ?_)).symm
  · rw [Nat.pow_add, Nat.mul_comm]; exact (Nat.div_lt_iff_lt_mul (Nat.pow_pos (by decide))).1 a1
  · have a2 := a2.resolve_left h0
    rw [show k + bsz (x / 2 ^ k) - 1 = k + (bsz (x / 2 ^ k) - 1) by omega, Nat.pow_add, Nat.mul_comm]
    exact (Nat.le_div_iff_mul_le (Nat.pow_pos (by decide))).1 a2
theorem bsz32 {x : Nat} (h : x ≥ 4294967296) : bsz x = 32 + bsz (x / 4294967296) := bsz_div (k := 32) h
theorem bsz16 {x : Nat} (h : x ≥ 65536) : bsz x = 16 + bsz (x / 65536) := bsz_div (k := 16) h
theorem bsz_8 {x : Nat} (h : x ≥ 256) : bsz x = 8 + bsz (x / 256) := bsz_div (k := 8) h
theorem bsz64 {x : Nat} (h : x < 18446744073709551616) : bsz x ≤ 64 := bsz_le (n := 64) h
theorem digs_fin : ∀ i : Fin 10, (digs36.take (i.val + 1)).drop i.val = [48 + i.val] := by decide +kernel
theorem digs_at {i : Nat} (h : i < 10) : (digs36.take (i + 1)).drop i = [48 + i] := digs_fin ⟨i, h⟩
theorem smalls_fin : ∀ i : Fin 100, (smalls8.take (i.val * 2 + 2)).drop (i.val * 2) = [48 + i.val / 10, 48 + i.val % 10] := by decide +kernel
theorem smalls_at {i : Nat} (h : i < 100) : (smalls8.take (i * 2 + 2)).drop (i * 2) = [48 + i / 10, 48 + i % 10] := smalls_fin ⟨i, h⟩
/-- A number's decimal digits, the highest first; 0: one nought. -/
def decN (N : Nat) : List Nat := if N = 0 then [48] else ((dminB N).map (48 + ·)).reverse
/-- .. as many as k of them. -/
def decK (k N : Nat) : List Nat := ((dleB k N).map (48 + ·)).reverse
theorem decK_len (k N : Nat) : (decK k N).length = k := by simp [decK, dleB_len]
theorem dig_le (N j : Nat) : N / 10 ^ j % 10 < 10 := Nat.mod_lt _ (by decide)
theorem decK_get (k N : Nat) {i : Nat} (h : i < k) : (decK k N).getD i 0 = 48 + N / 10 ^ (k - 1 - i) % 10 := by
  rw [decK, List.getD_eq_getElem?_getD, List.getElem?_reverse (by simp [dleB_len]; exact h)]
  have e : (dleB k N)[k - 1 - i]? = some (N / 10 ^ (k - 1 - i) % 10) := by
    rw [dleB, List.getElem?_map, List.getElem?_range (by omega)]; rfl
  simp [dleB_len, e]
theorem decK_lt (k N i : Nat) : (decK k N).getD i 0 < 256 := by
  rcases Nat.lt_or_ge i k with h | h
  · rw [decK_get k N h]; have := dig_le N (k - 1 - i); omega
  · rw [List.getD_eq_getElem?_getD, List.getElem?_eq_none (by rw [decK_len]; exact h)]; decide
theorem decN_K {N : Nat} (h : N ≠ 0) : decN N = decK (dsz N) N := by rw [decN, if_neg h]; rfl
theorem dsz_pos {N : Nat} (h : N ≠ 0) : 0 < dsz N := by
  rcases Nat.eq_zero_or_pos (dsz N) with h0 | h0
  · have := (dsz_ok N).1; rw [h0] at this; simp at this; omega
  · exact h0
theorem decN_lt (N i : Nat) : (decN N).getD i 0 < 256 := by
  by_cases h : N = 0
  · rw [decN, if_pos h]
    cases i with
    | zero => decide
    | succ i => simp
  · rw [decN_K h]; exact decK_lt _ _ _
theorem decN_len {N : Nat} (h : N ≠ 0) : (decN N).length = dsz N := by rw [decN_K h, decK_len]
/-- How many digits a word has. -/
def lg (b : Nat) : Nat := b * 78913 / 262144
theorem lg_fin : ∀ b : Fin 65, 1 ≤ b.val → 2 ^ b.val ≤ 10 ^ (lg b.val + 1) ∧ (1 ≤ lg b.val → 10 ^ (lg b.val - 1) ≤ 2 ^ (b.val - 1)) ∧ lg b.val ≤ 19 := by decide +kernel
theorem ndig {u : Nat} (h0 : u ≠ 0) (hu : u < 18446744073709551616) : dsz u = lg (bsz u) + (if 10 ^ lg (bsz u) ≤ u then 1 else 0) ∧ lg (bsz u) ≤ 19 := by
  obtain ⟨b1, b2⟩ := bsz_ok u
  have b3 := bsz64 hu
  have b4 : bsz u ≠ 0 := fun e => by rw [e] at b1; simp at b1; omega
  obtain ⟨c1, c2, c3⟩ := lg_fin ⟨bsz u, by omega⟩ (by simp only; omega)
  simp only at c1 c2 c3
  have b2 := b2.resolve_left b4
  refine ⟨?_, c3⟩
  split
  · rename_i h
    exact (dsz_of (Nat.lt_of_lt_of_le b1 c1) (.inr h)).symm
  · rename_i h
    have h1 : 1 ≤ lg (bsz u) := by
      rcases Nat.eq_zero_or_pos (lg (bsz u)) with e | e
      · rw [e] at h; simp at h; omega
      · exact e
    exact (dsz_of (Nat.lt_of_not_le h) (.inr (Nat.le_trans (c2 h1) b2))).symm
theorem dec_small1 {i : Nat} (h : i < 10) : [48 + i] = decN i := by
  have : ∀ i : Fin 10, [48 + i.val] = decN i.val := by decide +kernel
  exact this ⟨i, h⟩
theorem dec_small2 {i : Nat} (h1 : ¬ i < 10) (h : i < 100) : [48 + i / 10, 48 + i % 10] = decN i := by
  have : ∀ i : Fin 100, ¬ i.val < 10 → [48 + i.val / 10, 48 + i.val % 10] = decN i.val := by decide +kernel
  exact this ⟨i, h⟩ h1
/-- One half word of the quotient. -/
theorem half_ge {u h q r Q v : Nat} (e : u = q * 2328306436 + r) (hQ : u * 4294967296 + h = Q * 10000000000000000000 + v) (hq : q ≥ 4294967296 ∨ q * 2313682944 > 4294967296 * r + h) (hu : u < 10000000000000000000) (hh : h < 4294967296) : Q ≤ q - 1 ∧ 1 ≤ q := by omega
theorem half_le {u h q r Q v : Nat} (e : u = q * 2328306436 + r) (hQ : u * 4294967296 + h = Q * 10000000000000000000 + v) (hv : v < 10000000000000000000) (hq : q * 2313682944 ≤ 4294967296 * r + h) : q ≤ Q := by omega
theorem half_st {u q r : Nat} (e : u = q * 2328306436 + r) (k : 1 ≤ q) : u = (q - 1) * 2328306436 + (r + 2328306436) := by
  obtain ⟨k, rfl⟩ : ∃ k, q = k + 1 := ⟨q - 1, by clear e; omega⟩
  rw [Nat.add_sub_cancel, e, Nat.succ_mul, Nat.add_assoc, Nat.add_comm 2328306436 r]
theorem half_bk {q r h : Nat} (hq : q ≤ 4294967296) (hr : r + 2328306436 ≥ 4294967296) : (q - 1) * 2313682944 ≤ 4294967296 * (r + 2328306436) + h := by omega
theorem half_up {u h Q v : Nat} (hQ : u * 4294967296 + h = Q * 10000000000000000000 + v) (hh : h < 4294967296) (hu : u < 10000000000000000000) : Q ≤ u / 2328306436 ∧ u / 2328306436 ≤ 4294967296 ∧ Q < 4294967296 := by omega
theorem two_div {h m1 m0 A u B r : Nat} (hA : h * 4294967296 + m1 = A * 10000000000000000000 + u) (hB : u * 4294967296 + m0 = B * 10000000000000000000 + r) (hr : r < 10000000000000000000) : (h * 18446744073709551616 + (m1 * 4294967296 + m0)) / 10000000000000000000 = A * 4294967296 + B ∧ (h * 18446744073709551616 + (m1 * 4294967296 + m0)) % 10000000000000000000 = r := by omega
theorem wrap_sub {h m1 A u : Nat} (hA : h * 4294967296 + m1 = A * 10000000000000000000 + u) (hu : u < 10000000000000000000) : ((h * 4294967296 % 18446744073709551616 + m1) % 18446744073709551616 + (18446744073709551616 - A * 10000000000000000000 % 18446744073709551616)) % 18446744073709551616 = u := by omega
end Go.Proofs.YtlljedijldkcbaaDoor
namespace Go.Proofs.YtlljedijldkcbaaDoor
open Go.RowKit
theorem en_len64 : Enters Tryd.prog 55 := fun args w => by simp [go_sem]
theorem en_blen : Enters Tryd.prog 76 := fun args w => by simp [go_sem]
theorem en_lz64 : Enters Tryd.prog 87 := fun args w => by simp [go_sem]
theorem en_cmpi : Enters Tryd.prog 52 := fun args w => by simp [go_sem]
theorem en_cmpu : Enters Tryd.prog 53 := fun args w => by simp [go_sem]
theorem en_nani : Enters Tryd.prog 68 := fun args w => by simp [go_sem]
theorem en_nanu : Enters Tryd.prog 69 := fun args w => by simp [go_sem]
theorem en_mul64 : Enters Tryd.prog 78 := fun args w => by simp [go_sem]
theorem en_bmul : Enters Tryd.prog 82 := fun args w => by simp [go_sem]
theorem en_div64 : Enters Tryd.prog 79 := fun args w => by simp [go_sem]
theorem en_l10 : Enters Tryd.prog 96 := fun args w => by simp [go_sem]
theorem en_bool2 : Enters Tryd.prog 97 := fun args w => by simp [go_sem]
theorem en_small : Enters Tryd.prog 89 := fun args w => by simp [go_sem]
theorem en_ndig : Enters Tryd.prog 90 := fun args w => by simp [go_sem]
theorem en_fmt10 : Enters Tryd.prog 91 := fun args w => by simp [go_sem]
theorem en_ifmt : Enters Tryd.prog 81 := fun args w => by simp [go_sem]
theorem en_fmtu : Enters Tryd.prog 73 := fun args w => by simp [go_sem]
theorem en_hasp : Enters Tryd.prog 83 := fun args w => by simp [go_sem]
theorem en_lhasp : Enters Tryd.prog 94 := fun args w => by simp [go_sem]
theorem en_repeat : Enters Tryd.prog 74 := fun args w => by simp [go_sem]
set_option maxRecDepth 100000 in
theorem len64_any (x : Nat) (hx : x < 18446744073709551616) (w0 : World) :
    Calls Tryd.prog 55 #[iW x] w0 fun e w' => e = .returned (iN (bsz x)) ∧ Below w0.heap.size w0 w' := by
  refine enter_fr Tryd.func55 rfl Tryd.ntmps55 (by simp) fun ac (FF : Fr 25 ac [(0, iW x)]) => ?_
  have MM := MemS.start w0
  refine wp_seq (rg_seq FF MM [o_] [0, 2] (fun Kt => Kt [(2, iN 0), (0, iW x)] []) (by kernel_rfl) (fun _ => by kernel_rfl) (fun ac1 wd1 FF1 MM1 => then_n ?_))
  refine wp_seq ?_
  refine wp_seq (rg_seq FF1 MM1 [o_, o_] [2, 0, 4] (fun Kt => Kt [(4, .bool (decide (x ≥ 4294967296))), (2, iN 0), (0, iW x)] []) (by kernel_rfl) (fun _ => by kernel_rfl) (fun ac2 wd2 FF2 MM2 => then_n ?_))
  by_cases hs4 : x ≥ 4294967296
  · refine wp_cond_true ((FF2.ev 0 rfl).trans (dec_t hs4)) ?_
    have q4 := bsz32 (x := x) hs4
    refine wp_seq (rg_seq FF2 MM2 [o_, o_, o_] [2, 0] (fun Kt => 32 ≤ 64 ∧ Kt [(0, iW (x / 4294967296)), (2, iN 0)] []) (by kernel_rfl) (fun _ => by kernel_rfl) (⟨(by decide), fun ac3 wd3 FF3 MM3 => then_n ?_⟩))
    refine rg_seq FF3 MM3 [o_] [0, 2] (fun Kt => Kt [(2, iN 32), (0, iW (x / 4294967296))] []) (by kernel_rfl) (fun _ => by kernel_rfl) (fun ac4 wd4 FF4 MM4 => ?_)
    refine then_n ?_
    refine wp_seq ?_
    refine wp_seq (rg_seq FF4 MM4 [o_, o_] [2, 0, 8] (fun Kt => Kt [(8, .bool (decide ((x / 4294967296) ≥ 65536))), (2, iN 32), (0, iW (x / 4294967296))] []) (by kernel_rfl) (fun _ => by kernel_rfl) (fun ac5 wd5 FF5 MM5 => then_n ?_))
    by_cases hs8 : (x / 4294967296) ≥ 65536
    · refine wp_cond_true ((FF5.ev 0 rfl).trans (dec_t hs8)) ?_
      have q8 := bsz16 (x := x / 4294967296) hs8
      refine wp_seq (rg_seq FF5 MM5 [o_, o_, o_] [2, 0] (fun Kt => 16 ≤ 64 ∧ Kt [(0, iW ((x / 4294967296) / 65536)), (2, iN 32)] []) (by kernel_rfl) (fun _ => by kernel_rfl) (⟨(by decide), fun ac6 wd6 FF6 MM6 => then_n ?_⟩))
      refine rg_seq FF6 MM6 [o_, o_, o_] [0, 2] (fun Kt => 32 + 16 < 9223372036854775808 ∧ Kt [(2, iN 48), (0, iW ((x / 4294967296) / 65536))] []) (by kernel_rfl) (fun _ => by kernel_rfl) (⟨(by decide), fun ac7 wd7 FF7 MM7 => ?_⟩)
      refine then_n ?_
      refine wp_seq ?_
      refine wp_seq (rg_seq FF7 MM7 [o_, o_] [2, 0, 14] (fun Kt => Kt [(14, .bool (decide (((x / 4294967296) / 65536) ≥ 256))), (2, iN 48), (0, iW ((x / 4294967296) / 65536))] []) (by kernel_rfl) (fun _ => by kernel_rfl) (fun ac8 wd8 FF8 MM8 => then_n ?_))
      by_cases hs14 : ((x / 4294967296) / 65536) ≥ 256
      · refine wp_cond_true ((FF8.ev 0 rfl).trans (dec_t hs14)) ?_
        have q14 := bsz_8 (x := (x / 4294967296) / 65536) hs14
        refine wp_seq (rg_seq FF8 MM8 [o_, o_, o_] [2, 0] (fun Kt => 8 ≤ 64 ∧ Kt [(0, iW (((x / 4294967296) / 65536) / 256)), (2, iN 48)] []) (by kernel_rfl) (fun _ => by kernel_rfl) (⟨(by decide), fun ac9 wd9 FF9 MM9 => then_n ?_⟩))
        refine rg_seq FF9 MM9 [o_, o_, o_] [0, 2] (fun Kt => 48 + 8 < 9223372036854775808 ∧ Kt [(2, iN 56), (0, iW (((x / 4294967296) / 65536) / 256))] []) (by kernel_rfl) (fun _ => by kernel_rfl) (⟨(by decide), fun ac10 wd10 FF10 MM10 => ?_⟩)
        refine then_n ?_
        have hb8 : ((x / 4294967296) / 65536) / 256 < 256 := by omega
        have hb9 := bsz8 hb8
        refine wp_seq (rg_seq FF10 MM10 [o_, o_, t_ (iB (((x / 4294967296) / 65536) / 256)), f_ (iB (bsz (((x / 4294967296) / 65536) / 256))), w_ 1, t_ (iN (bsz x)), o_] [2, 0] (fun Kt => iB ((((x / 4294967296) / 65536) / 256) % 256) = iB (((x / 4294967296) / 65536) / 256) ∧ RunV Tryd.prog [(21, iB (((x / 4294967296) / 65536) / 256)), (20, iW (((x / 4294967296) / 65536) / 256)), (19, iN 56), (2, iN 56), (0, iW (((x / 4294967296) / 65536) / 256))] [] (opAt Tryd.f55 10 3) (iB (bsz (((x / 4294967296) / 65536) / 256))) ∧ (bsz (((x / 4294967296) / 65536) / 256)) < 9223372036854775808 ∧ 56 + (bsz (((x / 4294967296) / 65536) / 256)) < 9223372036854775808 ∧ iN (56 + (bsz (((x / 4294967296) / 65536) / 256))) = iN (bsz x) ∧ Kt [(2, iN (bsz x)), (0, iW (((x / 4294967296) / 65536) / 256))] []) (by kernel_rfl) (fun _ => by kernel_rfl) (⟨(vI (by omega)), (idxK_ok (x := .const (sB len8)) (y := .tmp 21) (i := ((x / 4294967296) / 65536) / 256) (by kernel_rfl) rfl rfl Tryd.underlying9 (lit_lt (by kernel_rfl)) hb8 (len8_at hb8)), (by have := hb9; omega), (by have := hb9; omega), (vI (by omega)), fun ac11 wd11 FF11 MM11 => then_n ?_⟩))
        refine wp_ret ?_
        repeat first | refine then_ret ?_ | refine inb_ret ?_
        exact (ret_fr FF11 0 Tryd.results55 rfl ⟨rfl, MM11.below⟩)
      · refine wp_cond_false ((FF8.ev 0 rfl).trans (dec_f hs14)) ?_
        refine wp_skip ?_
        refine then_n ?_
        have hb8 : (x / 4294967296) / 65536 < 256 := by omega
        have hb9 := bsz8 hb8
        refine wp_seq (rg_seq FF8 MM8 [o_, o_, t_ (iB ((x / 4294967296) / 65536)), f_ (iB (bsz ((x / 4294967296) / 65536))), w_ 1, t_ (iN (bsz x)), o_] [2, 0] (fun Kt => iB (((x / 4294967296) / 65536) % 256) = iB ((x / 4294967296) / 65536) ∧ RunV Tryd.prog [(21, iB ((x / 4294967296) / 65536)), (20, iW ((x / 4294967296) / 65536)), (19, iN 48), (14, .bool (decide (((x / 4294967296) / 65536) ≥ 256))), (2, iN 48), (0, iW ((x / 4294967296) / 65536))] [] (opAt Tryd.f55 10 3) (iB (bsz ((x / 4294967296) / 65536))) ∧ (bsz ((x / 4294967296) / 65536)) < 9223372036854775808 ∧ 48 + (bsz ((x / 4294967296) / 65536)) < 9223372036854775808 ∧ iN (48 + (bsz ((x / 4294967296) / 65536))) = iN (bsz x) ∧ Kt [(2, iN (bsz x)), (0, iW ((x / 4294967296) / 65536))] []) (by kernel_rfl) (fun _ => by kernel_rfl) (⟨(vI (by omega)), (idxK_ok (x := .const (sB len8)) (y := .tmp 21) (i := (x / 4294967296) / 65536) (by kernel_rfl) rfl rfl Tryd.underlying9 (lit_lt (by kernel_rfl)) hb8 (len8_at hb8)), (by have := hb9; omega), (by have := hb9; omega), (vI (by omega)), fun ac12 wd12 FF12 MM12 => then_n ?_⟩))
        refine wp_ret ?_
        repeat first | refine then_ret ?_ | refine inb_ret ?_
        exact (ret_fr FF12 0 Tryd.results55 rfl ⟨rfl, MM12.below⟩)
    · refine wp_cond_false ((FF5.ev 0 rfl).trans (dec_f hs8)) ?_
      refine wp_skip ?_
      refine then_n ?_
      refine wp_seq ?_
      refine wp_seq (rg_seq FF5 MM5 [o_, o_] [2, 0, 14] (fun Kt => Kt [(14, .bool (decide ((x / 4294967296) ≥ 256))), (2, iN 32), (0, iW (x / 4294967296))] []) (by kernel_rfl) (fun _ => by kernel_rfl) (fun ac13 wd13 FF13 MM13 => then_n ?_))
      by_cases hs14 : (x / 4294967296) ≥ 256
      · refine wp_cond_true ((FF13.ev 0 rfl).trans (dec_t hs14)) ?_
        have q14 := bsz_8 (x := x / 4294967296) hs14
        refine wp_seq (rg_seq FF13 MM13 [o_, o_, o_] [2, 0] (fun Kt => 8 ≤ 64 ∧ Kt [(0, iW ((x / 4294967296) / 256)), (2, iN 32)] []) (by kernel_rfl) (fun _ => by kernel_rfl) (⟨(by decide), fun ac14 wd14 FF14 MM14 => then_n ?_⟩))
        refine rg_seq FF14 MM14 [o_, o_, o_] [0, 2] (fun Kt => 32 + 8 < 9223372036854775808 ∧ Kt [(2, iN 40), (0, iW ((x / 4294967296) / 256))] []) (by kernel_rfl) (fun _ => by kernel_rfl) (⟨(by decide), fun ac15 wd15 FF15 MM15 => ?_⟩)
        refine then_n ?_
        have hb8 : (x / 4294967296) / 256 < 256 := by omega
        have hb9 := bsz8 hb8
        refine wp_seq (rg_seq FF15 MM15 [o_, o_, t_ (iB ((x / 4294967296) / 256)), f_ (iB (bsz ((x / 4294967296) / 256))), w_ 1, t_ (iN (bsz x)), o_] [2, 0] (fun Kt => iB (((x / 4294967296) / 256) % 256) = iB ((x / 4294967296) / 256) ∧ RunV Tryd.prog [(21, iB ((x / 4294967296) / 256)), (20, iW ((x / 4294967296) / 256)), (19, iN 40), (2, iN 40), (0, iW ((x / 4294967296) / 256))] [] (opAt Tryd.f55 10 3) (iB (bsz ((x / 4294967296) / 256))) ∧ (bsz ((x / 4294967296) / 256)) < 9223372036854775808 ∧ 40 + (bsz ((x / 4294967296) / 256)) < 9223372036854775808 ∧ iN (40 + (bsz ((x / 4294967296) / 256))) = iN (bsz x) ∧ Kt [(2, iN (bsz x)), (0, iW ((x / 4294967296) / 256))] []) (by kernel_rfl) (fun _ => by kernel_rfl) (⟨(vI (by omega)), (idxK_ok (x := .const (sB len8)) (y := .tmp 21) (i := (x / 4294967296) / 256) (by kernel_rfl) rfl rfl Tryd.underlying9 (lit_lt (by kernel_rfl)) hb8 (len8_at hb8)), (by have := hb9; omega), (by have := hb9; omega), (vI (by omega)), fun ac16 wd16 FF16 MM16 => then_n ?_⟩))
        refine wp_ret ?_
        repeat first | refine then_ret ?_ | refine inb_ret ?_
        exact (ret_fr FF16 0 Tryd.results55 rfl ⟨rfl, MM16.below⟩)
      · refine wp_cond_false ((FF13.ev 0 rfl).trans (dec_f hs14)) ?_
        refine wp_skip ?_
        refine then_n ?_
        have hb8 : x / 4294967296 < 256 := by omega
        have hb9 := bsz8 hb8
        refine wp_seq (rg_seq FF13 MM13 [o_, o_, t_ (iB (x / 4294967296)), f_ (iB (bsz (x / 4294967296))), w_ 1, t_ (iN (bsz x)), o_] [2, 0] (fun Kt => iB ((x / 4294967296) % 256) = iB (x / 4294967296) ∧ RunV Tryd.prog [(21, iB (x / 4294967296)), (20, iW (x / 4294967296)), (19, iN 32), (14, .bool (decide ((x / 4294967296) ≥ 256))), (2, iN 32), (0, iW (x / 4294967296))] [] (opAt Tryd.f55 10 3) (iB (bsz (x / 4294967296))) ∧ (bsz (x / 4294967296)) < 9223372036854775808 ∧ 32 + (bsz (x / 4294967296)) < 9223372036854775808 ∧ iN (32 + (bsz (x / 4294967296))) = iN (bsz x) ∧ Kt [(2, iN (bsz x)), (0, iW (x / 4294967296))] []) (by kernel_rfl) (fun _ => by kernel_rfl) (⟨(vI (by omega)), (idxK_ok (x := .const (sB len8)) (y := .tmp 21) (i := x / 4294967296) (by kernel_rfl) rfl rfl Tryd.underlying9 (lit_lt (by kernel_rfl)) hb8 (len8_at hb8)), (by have := hb9; omega), (by have := hb9; omega), (vI (by omega)), fun ac17 wd17 FF17 MM17 => then_n ?_⟩))
        refine wp_ret ?_
        repeat first | refine then_ret ?_ | refine inb_ret ?_
        exact (ret_fr FF17 0 Tryd.results55 rfl ⟨rfl, MM17.below⟩)
  · refine wp_cond_false ((FF2.ev 0 rfl).trans (dec_f hs4)) ?_
    refine wp_skip ?_
    refine then_n ?_
    refine wp_seq ?_
    refine wp_seq (rg_seq FF2 MM2 [o_, o_] [2, 0, 8] (fun Kt => Kt [(8, .bool (decide (x ≥ 65536))), (2, iN 0), (0, iW x)] []) (by kernel_rfl) (fun _ => by kernel_rfl) (fun ac18 wd18 FF18 MM18 => then_n ?_))
    by_cases hs8 : x ≥ 65536
    · refine wp_cond_true ((FF18.ev 0 rfl).trans (dec_t hs8)) ?_
      have q8 := bsz16 (x := x) hs8
      refine wp_seq (rg_seq FF18 MM18 [o_, o_, o_] [2, 0] (fun Kt => 16 ≤ 64 ∧ Kt [(0, iW (x / 65536)), (2, iN 0)] []) (by kernel_rfl) (fun _ => by kernel_rfl) (⟨(by decide), fun ac19 wd19 FF19 MM19 => then_n ?_⟩))
      refine rg_seq FF19 MM19 [o_, o_, o_] [0, 2] (fun Kt => 0 + 16 < 9223372036854775808 ∧ Kt [(2, iN 16), (0, iW (x / 65536))] []) (by kernel_rfl) (fun _ => by kernel_rfl) (⟨(by decide), fun ac20 wd20 FF20 MM20 => ?_⟩)
      refine then_n ?_
      refine wp_seq ?_
      refine wp_seq (rg_seq FF20 MM20 [o_, o_] [2, 0, 14] (fun Kt => Kt [(14, .bool (decide ((x / 65536) ≥ 256))), (2, iN 16), (0, iW (x / 65536))] []) (by kernel_rfl) (fun _ => by kernel_rfl) (fun ac21 wd21 FF21 MM21 => then_n ?_))
      by_cases hs14 : (x / 65536) ≥ 256
      · refine wp_cond_true ((FF21.ev 0 rfl).trans (dec_t hs14)) ?_
        have q14 := bsz_8 (x := x / 65536) hs14
        refine wp_seq (rg_seq FF21 MM21 [o_, o_, o_] [2, 0] (fun Kt => 8 ≤ 64 ∧ Kt [(0, iW ((x / 65536) / 256)), (2, iN 16)] []) (by kernel_rfl) (fun _ => by kernel_rfl) (⟨(by decide), fun ac22 wd22 FF22 MM22 => then_n ?_⟩))
        refine rg_seq FF22 MM22 [o_, o_, o_] [0, 2] (fun Kt => 16 + 8 < 9223372036854775808 ∧ Kt [(2, iN 24), (0, iW ((x / 65536) / 256))] []) (by kernel_rfl) (fun _ => by kernel_rfl) (⟨(by decide), fun ac23 wd23 FF23 MM23 => ?_⟩)
        refine then_n ?_
        have hb8 : (x / 65536) / 256 < 256 := by omega
        have hb9 := bsz8 hb8
        refine wp_seq (rg_seq FF23 MM23 [o_, o_, t_ (iB ((x / 65536) / 256)), f_ (iB (bsz ((x / 65536) / 256))), w_ 1, t_ (iN (bsz x)), o_] [2, 0] (fun Kt => iB (((x / 65536) / 256) % 256) = iB ((x / 65536) / 256) ∧ RunV Tryd.prog [(21, iB ((x / 65536) / 256)), (20, iW ((x / 65536) / 256)), (19, iN 24), (2, iN 24), (0, iW ((x / 65536) / 256))] [] (opAt Tryd.f55 10 3) (iB (bsz ((x / 65536) / 256))) ∧ (bsz ((x / 65536) / 256)) < 9223372036854775808 ∧ 24 + (bsz ((x / 65536) / 256)) < 9223372036854775808 ∧ iN (24 + (bsz ((x / 65536) / 256))) = iN (bsz x) ∧ Kt [(2, iN (bsz x)), (0, iW ((x / 65536) / 256))] []) (by kernel_rfl) (fun _ => by kernel_rfl) (⟨(vI (by omega)), (idxK_ok (x := .const (sB len8)) (y := .tmp 21) (i := (x / 65536) / 256) (by kernel_rfl) rfl rfl Tryd.underlying9 (lit_lt (by kernel_rfl)) hb8 (len8_at hb8)), (by have := hb9; omega), (by have := hb9; omega), (vI (by omega)), fun ac24 wd24 FF24 MM24 => then_n ?_⟩))
        refine wp_ret ?_
        repeat first | refine then_ret ?_ | refine inb_ret ?_
        exact (ret_fr FF24 0 Tryd.results55 rfl ⟨rfl, MM24.below⟩)
      · refine wp_cond_false ((FF21.ev 0 rfl).trans (dec_f hs14)) ?_
        refine wp_skip ?_
        refine then_n ?_
        have hb8 : x / 65536 < 256 := by omega
        have hb9 := bsz8 hb8
        refine wp_seq (rg_seq FF21 MM21 [o_, o_, t_ (iB (x / 65536)), f_ (iB (bsz (x / 65536))), w_ 1, t_ (iN (bsz x)), o_] [2, 0] (fun Kt => iB ((x / 65536) % 256) = iB (x / 65536) ∧ RunV Tryd.prog [(21, iB (x / 65536)), (20, iW (x / 65536)), (19, iN 16), (14, .bool (decide ((x / 65536) ≥ 256))), (2, iN 16), (0, iW (x / 65536))] [] (opAt Tryd.f55 10 3) (iB (bsz (x / 65536))) ∧ (bsz (x / 65536)) < 9223372036854775808 ∧ 16 + (bsz (x / 65536)) < 9223372036854775808 ∧ iN (16 + (bsz (x / 65536))) = iN (bsz x) ∧ Kt [(2, iN (bsz x)), (0, iW (x / 65536))] []) (by kernel_rfl) (fun _ => by kernel_rfl) (⟨(vI (by omega)), (idxK_ok (x := .const (sB len8)) (y := .tmp 21) (i := x / 65536) (by kernel_rfl) rfl rfl Tryd.underlying9 (lit_lt (by kernel_rfl)) hb8 (len8_at hb8)), (by have := hb9; omega), (by have := hb9; omega), (vI (by omega)), fun ac25 wd25 FF25 MM25 => then_n ?_⟩))
        refine wp_ret ?_
        repeat first | refine then_ret ?_ | refine inb_ret ?_
        exact (ret_fr FF25 0 Tryd.results55 rfl ⟨rfl, MM25.below⟩)
    · refine wp_cond_false ((FF18.ev 0 rfl).trans (dec_f hs8)) ?_
      refine wp_skip ?_
      refine then_n ?_
      refine wp_seq ?_
      refine wp_seq (rg_seq FF18 MM18 [o_, o_] [2, 0, 14] (fun Kt => Kt [(14, .bool (decide (x ≥ 256))), (2, iN 0), (0, iW x)] []) (by kernel_rfl) (fun _ => by kernel_rfl) (fun ac26 wd26 FF26 MM26 => then_n ?_))
      by_cases hs14 : x ≥ 256
      · refine wp_cond_true ((FF26.ev 0 rfl).trans (dec_t hs14)) ?_
        have q14 := bsz_8 (x := x) hs14
        refine wp_seq (rg_seq FF26 MM26 [o_, o_, o_] [2, 0] (fun Kt => 8 ≤ 64 ∧ Kt [(0, iW (x / 256)), (2, iN 0)] []) (by kernel_rfl) (fun _ => by kernel_rfl) (⟨(by decide), fun ac27 wd27 FF27 MM27 => then_n ?_⟩))
        refine rg_seq FF27 MM27 [o_, o_, o_] [0, 2] (fun Kt => 0 + 8 < 9223372036854775808 ∧ Kt [(2, iN 8), (0, iW (x / 256))] []) (by kernel_rfl) (fun _ => by kernel_rfl) (⟨(by decide), fun ac28 wd28 FF28 MM28 => ?_⟩)
        refine then_n ?_
        have hb8 : x / 256 < 256 := by omega
        have hb9 := bsz8 hb8
        refine wp_seq (rg_seq FF28 MM28 [o_, o_, t_ (iB (x / 256)), f_ (iB (bsz (x / 256))), w_ 1, t_ (iN (bsz x)), o_] [2, 0] (fun Kt => iB ((x / 256) % 256) = iB (x / 256) ∧ RunV Tryd.prog [(21, iB (x / 256)), (20, iW (x / 256)), (19, iN 8), (2, iN 8), (0, iW (x / 256))] [] (opAt Tryd.f55 10 3) (iB (bsz (x / 256))) ∧ (bsz (x / 256)) < 9223372036854775808 ∧ 8 + (bsz (x / 256)) < 9223372036854775808 ∧ iN (8 + (bsz (x / 256))) = iN (bsz x) ∧ Kt [(2, iN (bsz x)), (0, iW (x / 256))] []) (by kernel_rfl) (fun _ => by kernel_rfl) (⟨(vI (by omega)), (idxK_ok (x := .const (sB len8)) (y := .tmp 21) (i := x / 256) (by kernel_rfl) rfl rfl Tryd.underlying9 (lit_lt (by kernel_rfl)) hb8 (len8_at hb8)), (by have := hb9; omega), (by have := hb9; omega), (vI (by omega)), fun ac29 wd29 FF29 MM29 => then_n ?_⟩))
        refine wp_ret ?_
        repeat first | refine then_ret ?_ | refine inb_ret ?_
        exact (ret_fr FF29 0 Tryd.results55 rfl ⟨rfl, MM29.below⟩)
      · refine wp_cond_false ((FF26.ev 0 rfl).trans (dec_f hs14)) ?_
        refine wp_skip ?_
        refine then_n ?_
        have hb8 : x < 256 := by omega
        have hb9 := bsz8 hb8
        refine wp_seq (rg_seq FF26 MM26 [o_, o_, t_ (iB x), f_ (iB (bsz (x))), w_ 1, t_ (iN (bsz x)), o_] [2, 0] (fun Kt => iB (x % 256) = iB x ∧ RunV Tryd.prog [(21, iB x), (20, iW x), (19, iN 0), (14, .bool (decide (x ≥ 256))), (2, iN 0), (0, iW x)] [] (opAt Tryd.f55 10 3) (iB (bsz (x))) ∧ (bsz (x)) < 9223372036854775808 ∧ 0 + (bsz (x)) < 9223372036854775808 ∧ iN (0 + (bsz (x))) = iN (bsz x) ∧ Kt [(2, iN (bsz x)), (0, iW x)] []) (by kernel_rfl) (fun _ => by kernel_rfl) (⟨(vI (by omega)), (idxK_ok (x := .const (sB len8)) (y := .tmp 21) (i := x) (by kernel_rfl) rfl rfl Tryd.underlying9 (lit_lt (by kernel_rfl)) hb8 (len8_at hb8)), (by have := hb9; omega), (by have := hb9; omega), (vI (by omega)), fun ac30 wd30 FF30 MM30 => then_n ?_⟩))
        refine wp_ret ?_
        repeat first | refine then_ret ?_ | refine inb_ret ?_
        exact (ret_fr FF30 0 Tryd.results55 rfl ⟨rfl, MM30.below⟩)
set_option maxRecDepth 100000 in
theorem blen_any (x : Nat) (hx : x < 18446744073709551616) (w0 : World) :
    Calls Tryd.prog 76 #[iW x] w0 fun e w' => e = .returned (iN (bsz x)) ∧ Below w0.heap.size w0 w' := by
  refine enter_fr Tryd.func76 rfl Tryd.ntmps76 (by simp) fun ac (FF : Fr 8 ac [(0, iW x)]) => ?_
  have MM := MemS.start w0
  refine wp_seq (rg_seq FF MM [o_] [0, 2] (fun Kt => Kt [(2, iN 0), (0, iW x)] []) (by kernel_rfl) (fun _ => by kernel_rfl) (fun ac1 wd1 FF1 MM1 => then_n ?_))
  refine wp_seq ?_
  refine wp_cond_false rfl ?_
  refine wp_skip ?_
  refine then_n ?_
  refine wp_seq (rg_seq FF1 MM1 [o_, t_ (iN (bsz x)), o_] [2, 0] (fun Kt => CallP Tryd.prog 55 [iW x] [] (iN (bsz x)) ∧ Kt [(2, iN (bsz x)), (0, iW x)] []) (by kernel_rfl) (fun _ => by kernel_rfl) (⟨(callP_of en_len64 (len64_any x hx) _), fun ac2 wd2 FF2 MM2 => then_n ?_⟩))
  refine wp_ret ?_
  repeat first | refine then_ret ?_ | refine inb_ret ?_
  exact (ret_fr FF2 0 Tryd.results76 rfl ⟨rfl, MM2.below⟩)
set_option maxRecDepth 100000 in
theorem lz64_any (x : Nat) (hx : x < 18446744073709551616) (w0 : World) :
    Calls Tryd.prog 87 #[iW x] w0 fun e w' => e = .returned (iN (64 - bsz x)) ∧ Below w0.heap.size w0 w' := by
  refine enter_fr Tryd.func87 rfl Tryd.ntmps87 (by simp) fun ac (FF : Fr 6 ac [(0, iW x)]) => ?_
  have MM := MemS.start w0
  refine wp_seq (rg_seq FF MM [o_] [0, 2] (fun Kt => Kt [(2, iN 0), (0, iW x)] []) (by kernel_rfl) (fun _ => by kernel_rfl) (fun ac1 wd1 FF1 MM1 => then_n ?_))
  refine wp_seq (rg_seq FF1 MM1 [o_, t_ (iN (bsz x)), o_, o_] [2] (fun Kt => CallP Tryd.prog 55 [iW x] [] (iN (bsz x)) ∧ (bsz x) ≤ 64 ∧ 64 - (bsz x) < 9223372036854775808 ∧ Kt [(2, iN (64 - (bsz x)))] []) (by kernel_rfl) (fun _ => by kernel_rfl) (⟨(callP_of en_len64 (len64_any x hx) _), (by have := bsz64 (show x < 18446744073709551616 from hx); omega), (by have := bsz64 (show x < 18446744073709551616 from hx); omega), fun ac2 wd2 FF2 MM2 => then_n ?_⟩))
  refine wp_ret ?_
  repeat first | refine then_ret ?_ | refine inb_ret ?_
  exact (ret_fr FF2 0 Tryd.results87 rfl ⟨rfl, MM2.below⟩)
set_option maxRecDepth 100000 in
theorem nani_any (x : Nat) (w0 : World) :
    Calls Tryd.prog 68 #[iN x] w0 fun e w' => e = .returned (.bool false) ∧ Below w0.heap.size w0 w' := by
  refine enter_fr Tryd.func68 rfl Tryd.ntmps68 (by simp) fun ac (FF : Fr 6 ac [(0, iN x)]) => ?_
  have MM := MemS.start w0
  refine wp_seq (rg_seq FF MM [o_] [0, 2] (fun Kt => Kt [(2, .bool false), (0, iN x)] []) (by kernel_rfl) (fun _ => by kernel_rfl) (fun ac1 wd1 FF1 MM1 => then_n ?_))
  refine wp_seq (rg_seq FF1 MM1 [o_, o_, w_ 3, o_] [2] (fun Kt => ¬ (x ≠ x) ∧ Kt [(2, .bool false)] []) (by kernel_rfl) (fun _ => by kernel_rfl) (⟨(fun h => h rfl), fun ac2 wd2 FF2 MM2 => then_n ?_⟩))
  refine wp_ret ?_
  repeat first | refine then_ret ?_ | refine inb_ret ?_
  exact (ret_fr FF2 0 Tryd.results68 rfl ⟨rfl, MM2.below⟩)
set_option maxRecDepth 100000 in
theorem nanu_any (x : Nat) (w0 : World) :
    Calls Tryd.prog 69 #[iW x] w0 fun e w' => e = .returned (.bool false) ∧ Below w0.heap.size w0 w' := by
  refine enter_fr Tryd.func69 rfl Tryd.ntmps69 (by simp) fun ac (FF : Fr 6 ac [(0, iW x)]) => ?_
  have MM := MemS.start w0
  refine wp_seq (rg_seq FF MM [o_] [0, 2] (fun Kt => Kt [(2, .bool false), (0, iW x)] []) (by kernel_rfl) (fun _ => by kernel_rfl) (fun ac1 wd1 FF1 MM1 => then_n ?_))
  refine wp_seq (rg_seq FF1 MM1 [o_, o_, w_ 3, o_] [2] (fun Kt => ¬ (x ≠ x) ∧ Kt [(2, .bool false)] []) (by kernel_rfl) (fun _ => by kernel_rfl) (⟨(fun h => h rfl), fun ac2 wd2 FF2 MM2 => then_n ?_⟩))
  refine wp_ret ?_
  repeat first | refine then_ret ?_ | refine inb_ret ?_
  exact (ret_fr FF2 0 Tryd.results69 rfl ⟨rfl, MM2.below⟩)
theorem lt_of_eq_lt {a b c : Nat} (h : a = b) (h2 : b < c) : a < c := h ▸ h2
theorem cmpm {M N : Nat} (h : M < N) : (-1 : Int) = cmpN M N := by simp [cmpN, h]
theorem cmp0 {M N : Nat} (h : M = N) : ((0 : Nat) : Int) = cmpN M N := by simp [cmpN, h]
theorem cmp1 {M N : Nat} (h : N < M) : ((1 : Nat) : Int) = cmpN M N := by
  rw [cmpN, if_neg (by omega), if_neg (by omega)]; rfl
set_option maxRecDepth 100000 in
theorem cmpi_any (x y : Nat) (w0 : World) :
    Calls Tryd.prog 52 #[iN x, iN y] w0 fun e w' => e = .returned (.int .i64 (cmpN x y)) ∧ Below w0.heap.size w0 w' := by
  refine enter_fr Tryd.func52 rfl Tryd.ntmps52 (by simp) fun ac (FF : Fr 20 ac [(0, iN x), (1, iN y)]) => ?_
  have MM := MemS.start w0
  refine wp_seq (rg_seq FF MM [o_] [0, 1, 4] (fun Kt => Kt [(4, iN 0), (0, iN x), (1, iN y)] []) (by kernel_rfl) (fun _ => by kernel_rfl) (fun ac1 wd1 FF1 MM1 => then_n ?_))
  refine wp_seq (rg_seq FF1 MM1 [o_, t_ (.bool false), o_] [4, 0, 1, 5] (fun Kt => CallP Tryd.prog 68 [iN x] [] (.bool false) ∧ Kt [(5, .bool false), (4, iN 0), (0, iN x), (1, iN y)] []) (by kernel_rfl) (fun _ => by kernel_rfl) (⟨(callP_of en_nani (nani_any x) _), fun ac2 wd2 FF2 MM2 => then_n ?_⟩))
  refine wp_seq (rg_seq FF2 MM2 [o_, t_ (.bool false), o_] [5, 4, 0, 1, 6] (fun Kt => CallP Tryd.prog 68 [iN y] [] (.bool false) ∧ Kt [(6, .bool false), (5, .bool false), (4, iN 0), (0, iN x), (1, iN y)] []) (by kernel_rfl) (fun _ => by kernel_rfl) (⟨(callP_of en_nani (nani_any y) _), fun ac3 wd3 FF3 MM3 => then_n ?_⟩))
  refine wp_seq ?_
  refine wp_seq (rg_seq FF3 MM3 [o_] [6, 4, 0, 1, 11] (fun Kt => Kt [(11, .bool false), (6, .bool false), (4, iN 0), (0, iN x), (1, iN y)] []) (by kernel_rfl) (fun _ => by kernel_rfl) (fun ac4 wd4 FF4 MM4 => then_n ?_))
  refine wp_cond_false (FF4.ev 0 rfl) ?_
  refine wp_skip ?_
  refine then_n ?_
  refine wp_seq ?_
  refine wp_seq (rg_seq FF4 MM4 [o_] [6, 4, 0, 1, 13] (fun Kt => Kt [(13, .bool false), (6, .bool false), (4, iN 0), (0, iN x), (1, iN y)] []) (by kernel_rfl) (fun _ => by kernel_rfl) (fun ac5 wd5 FF5 MM5 => then_n ?_))
  refine wp_cond_false (FF5.ev 0 rfl) ?_
  refine wp_skip ?_
  refine then_n ?_
  refine wp_seq ?_
  refine wp_seq (rg_seq FF5 MM5 [o_, o_, o_] [6, 4, 0, 1, 16] (fun Kt => Kt [(16, .bool (decide (x < y))), (6, .bool false), (4, iN 0), (0, iN x), (1, iN y)] []) (by kernel_rfl) (fun _ => by kernel_rfl) (fun ac6 wd6 FF6 MM6 => then_n ?_))
  by_cases hs16 : x < y
  · refine wp_cond_true ((FF6.ev 0 rfl).trans (dec_t hs16)) ?_
    refine wp_seq (rg_seq FF6 MM6 [o_] [6, 4, 0, 1] (fun Kt => Kt [(4, .int .i64 (-1 : Int)), (6, .bool false), (0, iN x), (1, iN y)] []) (by kernel_rfl) (fun _ => by kernel_rfl) (fun ac7 wd7 FF7 MM7 => then_n ?_))
    refine wp_ret ?_
    repeat first | refine then_ret ?_ | refine inb_ret ?_
    exact (ret_fr FF7 0 Tryd.results52 rfl ⟨congrArg (fun z => Ending.returned (Value.int .i64 z)) (cmpm (by omega)), MM7.below⟩)
  · refine wp_cond_false ((FF6.ev 0 rfl).trans (dec_f hs16)) ?_
    refine wp_skip ?_
    refine then_n ?_
    refine wp_seq ?_
    refine wp_seq (rg_seq FF6 MM6 [o_, o_, o_] [6, 4, 0, 1, 19] (fun Kt => Kt [(19, .bool (decide (x > y))), (6, .bool false), (4, iN 0), (0, iN x), (1, iN y)] []) (by kernel_rfl) (fun _ => by kernel_rfl) (fun ac8 wd8 FF8 MM8 => then_n ?_))
    by_cases hs19 : x > y
    · refine wp_cond_true ((FF8.ev 0 rfl).trans (dec_t hs19)) ?_
      refine wp_seq (rg_seq FF8 MM8 [o_] [6, 4, 0, 1] (fun Kt => Kt [(4, iN 1), (6, .bool false), (0, iN x), (1, iN y)] []) (by kernel_rfl) (fun _ => by kernel_rfl) (fun ac9 wd9 FF9 MM9 => then_n ?_))
      refine wp_ret ?_
      repeat first | refine then_ret ?_ | refine inb_ret ?_
      exact (ret_fr FF9 0 Tryd.results52 rfl ⟨congrArg (fun z => Ending.returned (Value.int .i64 z)) (cmp1 (by omega)), MM9.below⟩)
    · refine wp_cond_false ((FF8.ev 0 rfl).trans (dec_f hs19)) ?_
      refine wp_skip ?_
      refine then_n ?_
      refine wp_seq (rg_seq FF8 MM8 [o_] [6, 4, 0, 1] (fun Kt => Kt [(4, iN 0), (6, .bool false), (0, iN x), (1, iN y)] []) (by kernel_rfl) (fun _ => by kernel_rfl) (fun ac10 wd10 FF10 MM10 => then_n ?_))
      refine wp_ret ?_
      repeat first | refine then_ret ?_ | refine inb_ret ?_
      exact (ret_fr FF10 0 Tryd.results52 rfl ⟨congrArg (fun z => Ending.returned (Value.int .i64 z)) (cmp0 (by omega)), MM10.below⟩)
set_option maxRecDepth 100000 in
theorem cmpu_any (x y : Nat) (w0 : World) :
    Calls Tryd.prog 53 #[iW x, iW y] w0 fun e w' => e = .returned (.int .i64 (cmpN x y)) ∧ Below w0.heap.size w0 w' := by
  refine enter_fr Tryd.func53 rfl Tryd.ntmps53 (by simp) fun ac (FF : Fr 20 ac [(0, iW x), (1, iW y)]) => ?_
  have MM := MemS.start w0
  refine wp_seq (rg_seq FF MM [o_] [0, 1, 4] (fun Kt => Kt [(4, iN 0), (0, iW x), (1, iW y)] []) (by kernel_rfl) (fun _ => by kernel_rfl) (fun ac1 wd1 FF1 MM1 => then_n ?_))
  refine wp_seq (rg_seq FF1 MM1 [o_, t_ (.bool false), o_] [4, 0, 1, 5] (fun Kt => CallP Tryd.prog 69 [iW x] [] (.bool false) ∧ Kt [(5, .bool false), (4, iN 0), (0, iW x), (1, iW y)] []) (by kernel_rfl) (fun _ => by kernel_rfl) (⟨(callP_of en_nanu (nanu_any x) _), fun ac2 wd2 FF2 MM2 => then_n ?_⟩))
  refine wp_seq (rg_seq FF2 MM2 [o_, t_ (.bool false), o_] [5, 4, 0, 1, 6] (fun Kt => CallP Tryd.prog 69 [iW y] [] (.bool false) ∧ Kt [(6, .bool false), (5, .bool false), (4, iN 0), (0, iW x), (1, iW y)] []) (by kernel_rfl) (fun _ => by kernel_rfl) (⟨(callP_of en_nanu (nanu_any y) _), fun ac3 wd3 FF3 MM3 => then_n ?_⟩))
  refine wp_seq ?_
  refine wp_seq (rg_seq FF3 MM3 [o_] [6, 4, 0, 1, 11] (fun Kt => Kt [(11, .bool false), (6, .bool false), (4, iN 0), (0, iW x), (1, iW y)] []) (by kernel_rfl) (fun _ => by kernel_rfl) (fun ac4 wd4 FF4 MM4 => then_n ?_))
  refine wp_cond_false (FF4.ev 0 rfl) ?_
  refine wp_skip ?_
  refine then_n ?_
  refine wp_seq ?_
  refine wp_seq (rg_seq FF4 MM4 [o_] [6, 4, 0, 1, 13] (fun Kt => Kt [(13, .bool false), (6, .bool false), (4, iN 0), (0, iW x), (1, iW y)] []) (by kernel_rfl) (fun _ => by kernel_rfl) (fun ac5 wd5 FF5 MM5 => then_n ?_))
  refine wp_cond_false (FF5.ev 0 rfl) ?_
  refine wp_skip ?_
  refine then_n ?_
  refine wp_seq ?_
  refine wp_seq (rg_seq FF5 MM5 [o_, o_, o_] [6, 4, 0, 1, 16] (fun Kt => Kt [(16, .bool (decide (x < y))), (6, .bool false), (4, iN 0), (0, iW x), (1, iW y)] []) (by kernel_rfl) (fun _ => by kernel_rfl) (fun ac6 wd6 FF6 MM6 => then_n ?_))
  by_cases hs16 : x < y
  · refine wp_cond_true ((FF6.ev 0 rfl).trans (dec_t hs16)) ?_
    refine wp_seq (rg_seq FF6 MM6 [o_] [6, 4, 0, 1] (fun Kt => Kt [(4, .int .i64 (-1 : Int)), (6, .bool false), (0, iW x), (1, iW y)] []) (by kernel_rfl) (fun _ => by kernel_rfl) (fun ac7 wd7 FF7 MM7 => then_n ?_))
    refine wp_ret ?_
    repeat first | refine then_ret ?_ | refine inb_ret ?_
    exact (ret_fr FF7 0 Tryd.results53 rfl ⟨congrArg (fun z => Ending.returned (Value.int .i64 z)) (cmpm (by omega)), MM7.below⟩)
  · refine wp_cond_false ((FF6.ev 0 rfl).trans (dec_f hs16)) ?_
    refine wp_skip ?_
    refine then_n ?_
    refine wp_seq ?_
    refine wp_seq (rg_seq FF6 MM6 [o_, o_, o_] [6, 4, 0, 1, 19] (fun Kt => Kt [(19, .bool (decide (x > y))), (6, .bool false), (4, iN 0), (0, iW x), (1, iW y)] []) (by kernel_rfl) (fun _ => by kernel_rfl) (fun ac8 wd8 FF8 MM8 => then_n ?_))
    by_cases hs19 : x > y
    · refine wp_cond_true ((FF8.ev 0 rfl).trans (dec_t hs19)) ?_
      refine wp_seq (rg_seq FF8 MM8 [o_] [6, 4, 0, 1] (fun Kt => Kt [(4, iN 1), (6, .bool false), (0, iW x), (1, iW y)] []) (by kernel_rfl) (fun _ => by kernel_rfl) (fun ac9 wd9 FF9 MM9 => then_n ?_))
      refine wp_ret ?_
      repeat first | refine then_ret ?_ | refine inb_ret ?_
      exact (ret_fr FF9 0 Tryd.results53 rfl ⟨congrArg (fun z => Ending.returned (Value.int .i64 z)) (cmp1 (by omega)), MM9.below⟩)
    · refine wp_cond_false ((FF8.ev 0 rfl).trans (dec_f hs19)) ?_
      refine wp_skip ?_
      refine then_n ?_
      refine wp_seq (rg_seq FF8 MM8 [o_] [6, 4, 0, 1] (fun Kt => Kt [(4, iN 0), (6, .bool false), (0, iW x), (1, iW y)] []) (by kernel_rfl) (fun _ => by kernel_rfl) (fun ac10 wd10 FF10 MM10 => then_n ?_))
      refine wp_ret ?_
      repeat first | refine then_ret ?_ | refine inb_ret ?_
      exact (ret_fr FF10 0 Tryd.results53 rfl ⟨congrArg (fun z => Ending.returned (Value.int .i64 z)) (cmp0 (by omega)), MM10.below⟩)
set_option maxRecDepth 100000 in
theorem mul64_any (x y : Nat) (hx : x < 18446744073709551616) (hy : y < 18446744073709551616) (w0 : World) :
    Calls Tryd.prog 78 #[iW x, iW y] w0 fun e w' => e = .returned (.tuple #[iW (x * y / 18446744073709551616), iW (x * y % 18446744073709551616)]) ∧ Below w0.heap.size w0 w' := by
  refine enter_fr Tryd.func78 rfl Tryd.ntmps78 (by simp) fun ac (FF : Fr 51 ac [(0, iW x), (1, iW y)]) => ?_
  have MM := MemS.start w0
  obtain ⟨g1, g2, g3, g4⟩ := Lib.mul64_hi x y hx hy
  refine wp_seq (rg_seq FF MM [o_, o_] [0, 1, 4, 5] (fun Kt => Kt [(5, iW 0), (4, iW 0), (0, iW x), (1, iW y)] []) (by kernel_rfl) (fun _ => by kernel_rfl) (fun ac1 wd1 FF1 MM1 => then_n ?_))
  refine wp_seq (rg_seq FF1 MM1 [o_, t_ (iW (x % 4294967296)), o_] [5, 4, 0, 1, 6] (fun Kt => x < 18446744073709551616 ∧ 4294967295 < 18446744073709551616 ∧ iW (x &&& 4294967295) = iW (x % 4294967296) ∧ Kt [(6, iW (x % 4294967296)), (5, iW 0), (4, iW 0), (0, iW x), (1, iW y)] []) (by kernel_rfl) (fun _ => by kernel_rfl) (⟨(by have := hx; omega), (by decide), (vI (and_low 32 _)), fun ac2 wd2 FF2 MM2 => then_n ?_⟩))
  refine wp_seq (rg_seq FF2 MM2 [o_, o_, o_] [6, 5, 4, 0, 1, 7] (fun Kt => 32 ≤ 64 ∧ Kt [(7, iW (x / 4294967296)), (6, iW (x % 4294967296)), (5, iW 0), (4, iW 0), (0, iW x), (1, iW y)] []) (by kernel_rfl) (fun _ => by kernel_rfl) (⟨(by decide), fun ac3 wd3 FF3 MM3 => then_n ?_⟩))
  refine wp_seq (rg_seq FF3 MM3 [o_, t_ (iW (y % 4294967296)), o_] [7, 6, 5, 4, 0, 1, 8] (fun Kt => y < 18446744073709551616 ∧ 4294967295 < 18446744073709551616 ∧ iW (y &&& 4294967295) = iW (y % 4294967296) ∧ Kt [(8, iW (y % 4294967296)), (7, iW (x / 4294967296)), (6, iW (x % 4294967296)), (5, iW 0), (4, iW 0), (0, iW x), (1, iW y)] []) (by kernel_rfl) (fun _ => by kernel_rfl) (⟨(by have := hy; omega), (by decide), (vI (and_low 32 _)), fun ac4 wd4 FF4 MM4 => then_n ?_⟩))
  refine wp_seq (rg_seq FF4 MM4 [o_, o_, o_] [8, 7, 6, 5, 4, 0, 1, 9] (fun Kt => 32 ≤ 64 ∧ Kt [(9, iW (y / 4294967296)), (8, iW (y % 4294967296)), (7, iW (x / 4294967296)), (6, iW (x % 4294967296)), (5, iW 0), (4, iW 0), (0, iW x), (1, iW y)] []) (by kernel_rfl) (fun _ => by kernel_rfl) (⟨(by decide), fun ac5 wd5 FF5 MM5 => then_n ?_⟩))
  refine wp_seq (rg_seq FF5 MM5 [o_, o_, w_ 1, o_] [9, 8, 7, 6, 5, 4, 0, 1, 10] (fun Kt => (x % 4294967296) * (y % 4294967296) < 18446744073709551616 ∧ Kt [(10, iW ((x % 4294967296) * (y % 4294967296))), (9, iW (y / 4294967296)), (8, iW (y % 4294967296)), (7, iW (x / 4294967296)), (6, iW (x % 4294967296)), (5, iW 0), (4, iW 0), (0, iW x), (1, iW y)] []) (by kernel_rfl) (fun _ => by kernel_rfl) (⟨g1, fun ac6 wd6 FF6 MM6 => then_n ?_⟩))
  refine wp_seq (rg_seq FF6 MM6 [o_, o_, w_ 1, o_, o_, w_ 1, o_] [9, 8, 7, 6, 5, 4, 0, 1, 11] (fun Kt => (x / 4294967296) * (y % 4294967296) < 18446744073709551616 ∧ 32 ≤ 64 ∧ ((x / 4294967296) * (y % 4294967296)) + (((x % 4294967296) * (y % 4294967296)) / 4294967296) < 18446744073709551616 ∧ Kt [(11, iW (((x / 4294967296) * (y % 4294967296)) + (((x % 4294967296) * (y % 4294967296)) / 4294967296))), (9, iW (y / 4294967296)), (8, iW (y % 4294967296)), (7, iW (x / 4294967296)), (6, iW (x % 4294967296)), (5, iW 0), (4, iW 0), (0, iW x), (1, iW y)] []) (by kernel_rfl) (fun _ => by kernel_rfl) (⟨(Nat.lt_of_le_of_lt (Nat.le_add_right _ _) g2), (by decide), g2, fun ac7 wd7 FF7 MM7 => then_n ?_⟩))
  refine wp_seq (rg_seq FF7 MM7 [o_, t_ (iW ((((x / 4294967296) * (y % 4294967296)) + (((x % 4294967296) * (y % 4294967296)) / 4294967296)) % 4294967296)), o_] [11, 9, 8, 7, 6, 5, 4, 0, 1, 12] (fun Kt => (((x / 4294967296) * (y % 4294967296)) + (((x % 4294967296) * (y % 4294967296)) / 4294967296)) < 18446744073709551616 ∧ 4294967295 < 18446744073709551616 ∧ iW ((((x / 4294967296) * (y % 4294967296)) + (((x % 4294967296) * (y % 4294967296)) / 4294967296)) &&& 4294967295) = iW ((((x / 4294967296) * (y % 4294967296)) + (((x % 4294967296) * (y % 4294967296)) / 4294967296)) % 4294967296) ∧ Kt [(12, iW ((((x / 4294967296) * (y % 4294967296)) + (((x % 4294967296) * (y % 4294967296)) / 4294967296)) % 4294967296)), (11, iW (((x / 4294967296) * (y % 4294967296)) + (((x % 4294967296) * (y % 4294967296)) / 4294967296))), (9, iW (y / 4294967296)), (8, iW (y % 4294967296)), (7, iW (x / 4294967296)), (6, iW (x % 4294967296)), (5, iW 0), (4, iW 0), (0, iW x), (1, iW y)] []) (by kernel_rfl) (fun _ => by kernel_rfl) (⟨g2, (by decide), (vI (and_low 32 _)), fun ac8 wd8 FF8 MM8 => then_n ?_⟩))
  refine wp_seq (rg_seq FF8 MM8 [o_, o_, o_] [12, 11, 9, 8, 7, 6, 5, 4, 0, 1, 13] (fun Kt => 32 ≤ 64 ∧ Kt [(13, iW ((((x / 4294967296) * (y % 4294967296)) + (((x % 4294967296) * (y % 4294967296)) / 4294967296)) / 4294967296)), (12, iW ((((x / 4294967296) * (y % 4294967296)) + (((x % 4294967296) * (y % 4294967296)) / 4294967296)) % 4294967296)), (11, iW (((x / 4294967296) * (y % 4294967296)) + (((x % 4294967296) * (y % 4294967296)) / 4294967296))), (9, iW (y / 4294967296)), (8, iW (y % 4294967296)), (7, iW (x / 4294967296)), (6, iW (x % 4294967296)), (5, iW 0), (4, iW 0), (0, iW x), (1, iW y)] []) (by kernel_rfl) (fun _ => by kernel_rfl) (⟨(by decide), fun ac9 wd9 FF9 MM9 => then_n ?_⟩))
  refine wp_seq (rg_seq FF9 MM9 [o_, o_, o_, w_ 1, w_ 1, o_] [13, 12, 11, 9, 8, 7, 6, 5, 4, 0, 1] (fun Kt => (x % 4294967296) * (y / 4294967296) < 18446744073709551616 ∧ ((((x / 4294967296) * (y % 4294967296)) + (((x % 4294967296) * (y % 4294967296)) / 4294967296)) % 4294967296) + ((x % 4294967296) * (y / 4294967296)) < 18446744073709551616 ∧ Kt [(12, iW (((((x / 4294967296) * (y % 4294967296)) + (((x % 4294967296) * (y % 4294967296)) / 4294967296)) % 4294967296) + ((x % 4294967296) * (y / 4294967296)))), (13, iW ((((x / 4294967296) * (y % 4294967296)) + (((x % 4294967296) * (y % 4294967296)) / 4294967296)) / 4294967296)), (11, iW (((x / 4294967296) * (y % 4294967296)) + (((x % 4294967296) * (y % 4294967296)) / 4294967296))), (9, iW (y / 4294967296)), (8, iW (y % 4294967296)), (7, iW (x / 4294967296)), (6, iW (x % 4294967296)), (5, iW 0), (4, iW 0), (0, iW x), (1, iW y)] []) (by kernel_rfl) (fun _ => by kernel_rfl) (⟨(Nat.lt_of_le_of_lt (Nat.le_add_left _ _) g3), g3, fun ac10 wd10 FF10 MM10 => then_n ?_⟩))
  have g5 : x * y / 18446744073709551616 < 18446744073709551616 := Nat.div_lt_of_lt_mul (Nat.mul_lt_mul_of_lt_of_lt hx hy)
  refine wp_seq (rg_seq FF10 MM10 [o_, o_, w_ 1, o_, w_ 1, o_, o_, u_ 1 (iW (x * y / 18446744073709551616)), o_] [12, 11, 9, 8, 7, 6, 5, 4, 0, 1] (fun Kt => (x / 4294967296) * (y / 4294967296) < 18446744073709551616 ∧ ((x / 4294967296) * (y / 4294967296)) + ((((x / 4294967296) * (y % 4294967296)) + (((x % 4294967296) * (y % 4294967296)) / 4294967296)) / 4294967296) < 18446744073709551616 ∧ 32 ≤ 64 ∧ (((x / 4294967296) * (y / 4294967296)) + ((((x / 4294967296) * (y % 4294967296)) + (((x % 4294967296) * (y % 4294967296)) / 4294967296)) / 4294967296)) + ((((((x / 4294967296) * (y % 4294967296)) + (((x % 4294967296) * (y % 4294967296)) / 4294967296)) % 4294967296) + ((x % 4294967296) * (y / 4294967296))) / 4294967296) < 18446744073709551616 ∧ iW ((((x / 4294967296) * (y / 4294967296)) + ((((x / 4294967296) * (y % 4294967296)) + (((x % 4294967296) * (y % 4294967296)) / 4294967296)) / 4294967296)) + ((((((x / 4294967296) * (y % 4294967296)) + (((x % 4294967296) * (y % 4294967296)) / 4294967296)) % 4294967296) + ((x % 4294967296) * (y / 4294967296))) / 4294967296)) = iW (x * y / 18446744073709551616) ∧ Kt [(4, iW (x * y / 18446744073709551616)), (12, iW (((((x / 4294967296) * (y % 4294967296)) + (((x % 4294967296) * (y % 4294967296)) / 4294967296)) % 4294967296) + ((x % 4294967296) * (y / 4294967296)))), (11, iW (((x / 4294967296) * (y % 4294967296)) + (((x % 4294967296) * (y % 4294967296)) / 4294967296))), (9, iW (y / 4294967296)), (8, iW (y % 4294967296)), (7, iW (x / 4294967296)), (6, iW (x % 4294967296)), (5, iW 0), (0, iW x), (1, iW y)] []) (by kernel_rfl) (fun _ => by kernel_rfl) (⟨(Nat.lt_of_le_of_lt (Nat.le_trans (Nat.le_add_right _ _) (Nat.le_trans (Nat.le_add_right _ _) (Nat.le_of_eq g4))) g5), (Nat.lt_of_le_of_lt (Nat.le_trans (Nat.le_add_right _ _) (Nat.le_of_eq g4)) g5), (by decide), (lt_of_eq_lt g4 g5), (vI g4), fun ac11 wd11 FF11 MM11 => then_n ?_⟩))
  refine wp_seq (rg_seq FF11 MM11 [o_, o_, o_, o_] [4, 12, 11, 9, 8, 7, 6, 5, 0, 1] (fun Kt => Kt [(5, iW ((x * y) % 18446744073709551616)), (4, iW (x * y / 18446744073709551616)), (12, iW (((((x / 4294967296) * (y % 4294967296)) + (((x % 4294967296) * (y % 4294967296)) / 4294967296)) % 4294967296) + ((x % 4294967296) * (y / 4294967296)))), (11, iW (((x / 4294967296) * (y % 4294967296)) + (((x % 4294967296) * (y % 4294967296)) / 4294967296))), (9, iW (y / 4294967296)), (8, iW (y % 4294967296)), (7, iW (x / 4294967296)), (6, iW (x % 4294967296)), (0, iW x), (1, iW y)] []) (by kernel_rfl) (fun _ => by kernel_rfl) (fun ac12 wd12 FF12 MM12 => then_n ?_))
  refine wp_ret ?_
  repeat first | refine then_ret ?_ | refine inb_ret ?_
  exact (ret_tup2 FF12 1 0 Tryd.results78 rfl rfl ⟨rfl, MM12.below⟩)
set_option maxRecDepth 100000 in
theorem bmul_any (x y : Nat) (hx : x < 18446744073709551616) (hy : y < 18446744073709551616) (w0 : World) :
    Calls Tryd.prog 82 #[iW x, iW y] w0 fun e w' => e = .returned (.tuple #[iW (x * y / 18446744073709551616), iW (x * y % 18446744073709551616)]) ∧ Below w0.heap.size w0 w' := by
  refine enter_fr Tryd.func82 rfl Tryd.ntmps82 (by simp) fun ac (FF : Fr 30 ac [(0, iW x), (1, iW y)]) => ?_
  have MM := MemS.start w0
  refine wp_seq (rg_seq FF MM [o_, o_] [0, 1, 4, 5] (fun Kt => Kt [(5, iW 0), (4, iW 0), (0, iW x), (1, iW y)] []) (by kernel_rfl) (fun _ => by kernel_rfl) (fun ac1 wd1 FF1 MM1 => then_n ?_))
  refine wp_seq ?_
  refine wp_cond_false rfl ?_
  refine wp_skip ?_
  refine then_n ?_
  refine wp_seq (rg_seq FF1 MM1 [o_, o_, t_ (.tuple #[iW (x * y / 18446744073709551616), iW (x * y % 18446744073709551616)]), o_, o_, o_, o_, o_] [5, 4, 0, 1, 8, 9] (fun Kt => CallP Tryd.prog 78 [iW x, iW y] [] (.tuple #[iW (x * y / 18446744073709551616), iW (x * y % 18446744073709551616)]) ∧ Kt [(9, iW (x * y % 18446744073709551616)), (8, iW (x * y / 18446744073709551616)), (5, iW 0), (4, iW 0), (0, iW x), (1, iW y)] []) (by kernel_rfl) (fun _ => by kernel_rfl) (⟨(callP_of en_mul64 (mul64_any x y hx hy) _), fun ac2 wd2 FF2 MM2 => then_n ?_⟩))
  refine wp_seq (rg_seq FF2 MM2 [o_, o_, o_, o_] [5, 4, 0, 1] (fun Kt => Kt [(5, iW (x * y % 18446744073709551616)), (4, iW (x * y / 18446744073709551616)), (0, iW x), (1, iW y)] []) (by kernel_rfl) (fun _ => by kernel_rfl) (fun ac3 wd3 FF3 MM3 => then_n ?_))
  refine wp_ret ?_
  repeat first | refine then_ret ?_ | refine inb_ret ?_
  exact (ret_tup2 FF3 1 0 Tryd.results82 rfl rfl ⟨rfl, MM3.below⟩)
end Go.Proofs.YtlljedijldkcbaaDoor
namespace Go.Proofs.YtlljedijldkcbaaDoor
open Go.RowKit
theorem lz_grp : CallP Tryd.prog 87 [iW 10000000000000000000] [] (iN 0) := callP_of en_lz64 (fun w => by
  have h := lz64_any 10000000000000000000 (by decide) w
  rw [show 64 - bsz 10000000000000000000 = 0 by have : bsz 10000000000000000000 = 64 := (bsz_of (n := 64) (by decide) (.inr (by decide))).symm; omega] at h
  exact h) _
set_option maxRecDepth 100000 in
theorem div64_core (h m1 m0 A u B r0 : Nat) (hlt : h < 10000000000000000000) (hm1 : m1 < 4294967296) (hm0 : m0 < 4294967296) (hA : h * 4294967296 + m1 = A * 10000000000000000000 + u) (hu : u < 10000000000000000000) (hB : u * 4294967296 + m0 = B * 10000000000000000000 + r0) (hr0 : r0 < 10000000000000000000) (w0 : World) :
    Calls Tryd.prog 79 #[iW h, iW (m1 * 4294967296 + m0), iW 10000000000000000000] w0 fun e w' => e = .returned (.tuple #[iW (A * 4294967296 + B), iW r0]) ∧ Below w0.heap.size w0 w' := by
  refine enter_fr Tryd.func79 rfl Tryd.ntmps79 (by simp) fun ac (FF : Fr 135 ac [(0, iW h), (1, iW (m1 * 4294967296 + m0)), (2, iW 10000000000000000000)]) => ?_
  have MM := MemS.start w0
  obtain ⟨a1, a2, a3⟩ := half_up hA hm1 hlt
  obtain ⟨b1, b2, b3⟩ := half_up hB hm0 hu
  refine wp_seq (rg_seq FF MM [o_, o_] [0, 1, 2, 6, 7] (fun Kt => Kt [(7, iW 0), (6, iW 0), (0, iW h), (1, iW (m1 * 4294967296 + m0)), (2, iW 10000000000000000000)] []) (by kernel_rfl) (fun _ => by kernel_rfl) (fun ac1 wd1 FF1 MM1 => then_n ?_))
  refine wp_seq ?_
  refine wp_seq (rg_seq FF1 MM1 [o_, w_ 3] [7, 6, 0, 1, 2, 20] (fun Kt => ¬ (10000000000000000000 = 0) ∧ Kt [(20, .bool false), (7, iW 0), (6, iW 0), (0, iW h), (1, iW (m1 * 4294967296 + m0)), (2, iW 10000000000000000000)] []) (by kernel_rfl) (fun _ => by kernel_rfl) (⟨(by decide), fun ac2 wd2 FF2 MM2 => then_n ?_⟩))
  refine wp_cond_false (FF2.ev 0 rfl) ?_
  refine wp_skip ?_
  refine then_n ?_
  refine wp_seq ?_
  refine wp_seq (rg_seq FF2 MM2 [o_, o_, w_ 3] [7, 6, 0, 1, 2, 24] (fun Kt => ¬ (10000000000000000000 ≤ h) ∧ Kt [(24, .bool false), (7, iW 0), (6, iW 0), (0, iW h), (1, iW (m1 * 4294967296 + m0)), (2, iW 10000000000000000000)] []) (by kernel_rfl) (fun _ => by kernel_rfl) (⟨(by omega), fun ac3 wd3 FF3 MM3 => then_n ?_⟩))
  refine wp_cond_false (FF3.ev 0 rfl) ?_
  refine wp_skip ?_
  refine then_n ?_
  refine wp_seq ?_
  refine wp_seq (rg_seq FF3 MM3 [o_, o_] [7, 6, 0, 1, 2, 27] (fun Kt => Kt [(27, .bool (decide (h = 0))), (7, iW 0), (6, iW 0), (0, iW h), (1, iW (m1 * 4294967296 + m0)), (2, iW 10000000000000000000)] []) (by kernel_rfl) (fun _ => by kernel_rfl) (fun ac4 wd4 FF4 MM4 => then_n ?_))
  by_cases hs27 : h = 0
  · refine wp_cond_true ((FF4.ev 0 rfl).trans (dec_t hs27)) ?_
    refine wp_seq (rg_draw FF4 MM4 [.inl (iW (m1 * 4294967296 + m0)), .inl (iW 10000000000000000000), .inl (iW ((m1 * 4294967296 + m0) / 10000000000000000000)), .inl (iW (m1 * 4294967296 + m0)), .inl (iW 10000000000000000000), .inl (iW ((m1 * 4294967296 + m0) % 10000000000000000000)), .inl (iW (A * 4294967296 + B)), .inl (iW r0)] [] [o_, o_, o_, o_, o_, o_, t_ (iW (A * 4294967296 + B)), t_ (iW r0)] [] [7, 6, 0, 1, 2] (fun nb => [10000000000000000000 ≠ 0, (m1 * 4294967296 + m0) / 10000000000000000000 < 18446744073709551616, 10000000000000000000 ≠ 0, iW ((m1 * 4294967296 + m0) / 10000000000000000000) = iW (A * 4294967296 + B), iW ((m1 * 4294967296 + m0) % 10000000000000000000) = iW r0]) (fun nb Kt => Kt [(7, iW r0), (6, iW (A * 4294967296 + B)), (0, iW h), (1, iW (m1 * 4294967296 + m0)), (2, iW 10000000000000000000)] []) (by kernel_rfl) (by kernel_rfl) (by kernel_rfl) (fun _ => by kernel_rfl) (fun _ _ => by kernel_rfl) trivial (fun nb => ⟨(by decide), (by omega), (by decide), (vI (by clear a1 a2 b1 b2; omega)), (vI (by clear a1 a2 b1 b2; omega)), trivial⟩) (fun nb => fun ac5 wd5 FF5 MM5 => then_n ?_))
    refine wp_ret ?_
    repeat first | refine then_ret ?_ | refine inb_ret ?_
    exact (ret_tup2 FF5 1 0 Tryd.results79 rfl rfl ⟨rfl, MM5.below⟩)
  · refine wp_cond_false ((FF4.ev 0 rfl).trans (dec_f hs27)) ?_
    refine wp_skip ?_
    refine then_n ?_
    refine wp_seq (rg_seq FF4 MM4 [o_, t_ (iN 0), o_, o_] [7, 6, 0, 1, 2, 8] (fun Kt => CallP Tryd.prog 87 [iW 10000000000000000000] [] (iN 0) ∧ Kt [(8, iW 0), (7, iW 0), (6, iW 0), (0, iW h), (1, iW (m1 * 4294967296 + m0)), (2, iW 10000000000000000000)] []) (by kernel_rfl) (fun _ => by kernel_rfl) (⟨lz_grp, fun ac6 wd6 FF6 MM6 => then_n ?_⟩))
    refine wp_seq (rg_seq FF6 MM6 [o_, o_, t_ (iW 10000000000000000000), o_] [8, 7, 6, 0, 1, 2] (fun Kt => iW (10000000000000000000 * 1 % 18446744073709551616) = iW 10000000000000000000 ∧ Kt [(2, iW 10000000000000000000), (8, iW 0), (7, iW 0), (6, iW 0), (0, iW h), (1, iW (m1 * 4294967296 + m0))] []) (by kernel_rfl) (fun _ => by kernel_rfl) (⟨(vI (by decide)), fun ac7 wd7 FF7 MM7 => then_n ?_⟩))
    refine wp_seq (rg_seq FF7 MM7 [o_, t_ (iW 2328306436), o_] [2, 8, 7, 6, 0, 1, 9] (fun Kt => 32 ≤ 64 ∧ iW (10000000000000000000 / 4294967296) = iW 2328306436 ∧ Kt [(9, iW 2328306436), (2, iW 10000000000000000000), (8, iW 0), (7, iW 0), (6, iW 0), (0, iW h), (1, iW (m1 * 4294967296 + m0))] []) (by kernel_rfl) (fun _ => by kernel_rfl) (⟨(by decide), (vI (by decide)), fun ac8 wd8 FF8 MM8 => then_n ?_⟩))
    refine wp_seq (rg_seq FF8 MM8 [o_, t_ (iW 2313682944), o_] [9, 2, 8, 7, 6, 0, 1, 10] (fun Kt => 10000000000000000000 < 18446744073709551616 ∧ 4294967295 < 18446744073709551616 ∧ iW (10000000000000000000 &&& 4294967295) = iW 2313682944 ∧ Kt [(10, iW 2313682944), (9, iW 2328306436), (2, iW 10000000000000000000), (8, iW 0), (7, iW 0), (6, iW 0), (0, iW h), (1, iW (m1 * 4294967296 + m0))] []) (by kernel_rfl) (fun _ => by kernel_rfl) (⟨(by decide), (by decide), (vI (by decide)), fun ac9 wd9 FF9 MM9 => then_n ?_⟩))
    refine wp_seq (rg_seq FF9 MM9 [o_, o_, t_ (iW h), o_, o_, w_ 1, t_ (iW 0), t_ (iW h), o_] [10, 9, 2, 8, 7, 6, 0, 1, 11] (fun Kt => iW (h * 1 % 18446744073709551616) = iW h ∧ 0 ≤ 64 ∧ 64 - 0 < 18446744073709551616 ∧ 64 ≤ 64 ∧ iW ((m1 * 4294967296 + m0) / 18446744073709551616) = iW 0 ∧ h < 18446744073709551616 ∧ 0 < 18446744073709551616 ∧ iW (h ||| 0) = iW h ∧ Kt [(11, iW h), (10, iW 2313682944), (9, iW 2328306436), (2, iW 10000000000000000000), (8, iW 0), (7, iW 0), (6, iW 0), (0, iW h), (1, iW (m1 * 4294967296 + m0))] []) (by kernel_rfl) (fun _ => by kernel_rfl) (⟨(vI (by omega)), (by decide), (by decide), (by decide), (vI (by omega)), (by have := hlt; omega), (by decide), (vI (Nat.or_zero _)), fun ac10 wd10 FF10 MM10 => then_n ?_⟩))
    refine wp_seq (rg_seq FF10 MM10 [o_, o_, t_ (iW (m1 * 4294967296 + m0)), o_] [11, 10, 9, 2, 8, 7, 6, 0, 1, 12] (fun Kt => iW ((m1 * 4294967296 + m0) * 1 % 18446744073709551616) = iW (m1 * 4294967296 + m0) ∧ Kt [(12, iW (m1 * 4294967296 + m0)), (11, iW h), (10, iW 2313682944), (9, iW 2328306436), (2, iW 10000000000000000000), (8, iW 0), (7, iW 0), (6, iW 0), (0, iW h), (1, iW (m1 * 4294967296 + m0))] []) (by kernel_rfl) (fun _ => by kernel_rfl) (⟨(vI (by omega)), fun ac11 wd11 FF11 MM11 => then_n ?_⟩))
    refine wp_seq (rg_seq FF11 MM11 [o_, t_ (iW m1), o_] [12, 11, 10, 9, 2, 8, 7, 6, 0, 1, 13] (fun Kt => 32 ≤ 64 ∧ iW ((m1 * 4294967296 + m0) / 4294967296) = iW m1 ∧ Kt [(13, iW m1), (12, iW (m1 * 4294967296 + m0)), (11, iW h), (10, iW 2313682944), (9, iW 2328306436), (2, iW 10000000000000000000), (8, iW 0), (7, iW 0), (6, iW 0), (0, iW h), (1, iW (m1 * 4294967296 + m0))] []) (by kernel_rfl) (fun _ => by kernel_rfl) (⟨(by decide), (vI (by omega)), fun ac12 wd12 FF12 MM12 => then_n ?_⟩))
    refine wp_seq (rg_seq FF12 MM12 [o_, t_ (iW m0), o_] [13, 12, 11, 10, 9, 2, 8, 7, 6, 0, 1, 14] (fun Kt => (m1 * 4294967296 + m0) < 18446744073709551616 ∧ 4294967295 < 18446744073709551616 ∧ iW ((m1 * 4294967296 + m0) &&& 4294967295) = iW m0 ∧ Kt [(14, iW m0), (13, iW m1), (12, iW (m1 * 4294967296 + m0)), (11, iW h), (10, iW 2313682944), (9, iW 2328306436), (2, iW 10000000000000000000), (8, iW 0), (7, iW 0), (6, iW 0), (0, iW h), (1, iW (m1 * 4294967296 + m0))] []) (by kernel_rfl) (fun _ => by kernel_rfl) (⟨(by omega), (by decide), (vI ((and_low 32 _).trans (by omega))), fun ac13 wd13 FF13 MM13 => then_n ?_⟩))
    refine wp_seq (rg_seq FF13 MM13 [o_, o_, o_, o_] [14, 13, 12, 11, 10, 9, 2, 8, 7, 6, 0, 1, 15] (fun Kt => 2328306436 ≠ 0 ∧ h / 2328306436 < 18446744073709551616 ∧ Kt [(15, iW (h / 2328306436)), (14, iW m0), (13, iW m1), (12, iW (m1 * 4294967296 + m0)), (11, iW h), (10, iW 2313682944), (9, iW 2328306436), (2, iW 10000000000000000000), (8, iW 0), (7, iW 0), (6, iW 0), (0, iW h), (1, iW (m1 * 4294967296 + m0))] []) (by kernel_rfl) (fun _ => by kernel_rfl) (⟨(by decide), (by have := hlt; omega), fun ac14 wd14 FF14 MM14 => then_n ?_⟩))
    refine wp_seq (rg_seq FF14 MM14 [o_, o_, o_, w_ 1, u_ 1 (iW (h % 2328306436)), o_] [15, 14, 13, 12, 11, 10, 9, 2, 8, 7, 6, 0, 1, 16] (fun Kt => (h / 2328306436) * 2328306436 < 18446744073709551616 ∧ ((h / 2328306436) * 2328306436) ≤ h ∧ h - ((h / 2328306436) * 2328306436) < 18446744073709551616 ∧ iW (h - ((h / 2328306436) * 2328306436)) = iW (h % 2328306436) ∧ Kt [(16, iW (h % 2328306436)), (15, iW (h / 2328306436)), (14, iW m0), (13, iW m1), (12, iW (m1 * 4294967296 + m0)), (11, iW h), (10, iW 2313682944), (9, iW 2328306436), (2, iW 10000000000000000000), (8, iW 0), (7, iW 0), (6, iW 0), (0, iW h), (1, iW (m1 * 4294967296 + m0))] []) (by kernel_rfl) (fun _ => by kernel_rfl) (⟨(by have := hlt; omega), (by have := hlt; omega), (by have := hlt; omega), (vI (by omega)), fun ac15 wd15 FF15 MM15 => then_n ?_⟩))
    refine wp_mid (fun a' w' => Fr 135 a' [(15, iW A), (14, iW m0), (13, iW m1), (12, iW (m1 * 4294967296 + m0)), (11, iW h), (10, iW 2313682944), (9, iW 2328306436), (2, iW 10000000000000000000), (8, iW 0), (7, iW 0), (6, iW 0), (0, iW h), (1, iW (m1 * 4294967296 + m0))] ∧ MemS (fun k => k < w0.heap.size) w0 w' [] []) ?_ ?_
    · skip
      refine wp_for2w (fun a' w' => ∃ q : Nat, ∃ r : Nat, h = q * 2328306436 + r ∧ A ≤ q ∧ r < 4294967296 ∧ q ≤ 4294967296 ∧ Fr 135 a' [(16, iW r), (15, iW q), (14, iW m0), (13, iW m1), (12, iW (m1 * 4294967296 + m0)), (11, iW h), (10, iW 2313682944), (9, iW 2328306436), (2, iW 10000000000000000000), (8, iW 0), (7, iW 0), (6, iW 0), (0, iW h), (1, iW (m1 * 4294967296 + m0))] ∧ MemS (fun k => k < w0.heap.size) w0 w' [] []) (fun a' _ => (cnt 15 a').toNat) ⟨h / 2328306436, h % 2328306436, by omega, a1, by omega, a2, FF15.pick [0, 1, 2, 3, 4, 5, 6, 7, 8, 9, 10, 11, 12, 13], MM15⟩ ?_
      rintro ac16 wd16 ⟨q, r, hE, hQ, hr, hq, FF16, MM16⟩
      have hc := cnt_of (FF16.get 1 rfl)
      by_cases h1 : q ≥ 4294967296
      · skip
        refine rg_seq FF16 MM16 [o_, w_ 2, o_, o_, o_, o_, o_, o_, o_, o_, o_, o_] [16, 15, 14, 13, 12, 11, 10, 9, 2, 8, 7, 6, 0, 1, 78] (fun Kt => q ≥ 4294967296 ∧ Kt [(78, .bool true), (16, iW r), (15, iW q), (14, iW m0), (13, iW m1), (12, iW (m1 * 4294967296 + m0)), (11, iW h), (10, iW 2313682944), (9, iW 2328306436), (2, iW 10000000000000000000), (8, iW 0), (7, iW 0), (6, iW 0), (0, iW h), (1, iW (m1 * 4294967296 + m0))] []) (by kernel_rfl) (fun _ => by kernel_rfl) (⟨h1, fun ac17 wd17 FF17 MM17 => ?_⟩)
        refine then_n (.inl ⟨FF17.ev 0 rfl, ?_⟩)
        obtain ⟨k1, k2⟩ := half_ge hE hA (by first | exact .inl h1 | exact .inr h2) hlt hm1
        refine wp_seq (rg_seq FF17 MM17 [o_, w_ 1, o_] [16, 15, 14, 13, 12, 11, 10, 9, 2, 8, 7, 6, 0, 1] (fun Kt => 1 ≤ q ∧ q - 1 < 18446744073709551616 ∧ Kt [(15, iW (q - 1)), (16, iW r), (14, iW m0), (13, iW m1), (12, iW (m1 * 4294967296 + m0)), (11, iW h), (10, iW 2313682944), (9, iW 2328306436), (2, iW 10000000000000000000), (8, iW 0), (7, iW 0), (6, iW 0), (0, iW h), (1, iW (m1 * 4294967296 + m0))] []) (by kernel_rfl) (fun _ => by kernel_rfl) (⟨k2, (by omega), fun ac18 wd18 FF18 MM18 => then_n ?_⟩))
        refine wp_seq (rg_seq FF18 MM18 [o_, o_, w_ 1, o_] [15, 16, 14, 13, 12, 11, 10, 9, 2, 8, 7, 6, 0, 1] (fun Kt => r + 2328306436 < 18446744073709551616 ∧ Kt [(16, iW (r + 2328306436)), (15, iW (q - 1)), (14, iW m0), (13, iW m1), (12, iW (m1 * 4294967296 + m0)), (11, iW h), (10, iW 2313682944), (9, iW 2328306436), (2, iW 10000000000000000000), (8, iW 0), (7, iW 0), (6, iW 0), (0, iW h), (1, iW (m1 * 4294967296 + m0))] []) (by kernel_rfl) (fun _ => by kernel_rfl) (⟨(by clear hE; omega), fun ac19 wd19 FF19 MM19 => then_n ?_⟩))
        refine wp_seq (rg_seq FF19 MM19 [o_, o_] [16, 15, 14, 13, 12, 11, 10, 9, 2, 8, 7, 6, 0, 1, 85] (fun Kt => Kt [(85, .bool (decide ((r + 2328306436) ≥ 4294967296))), (16, iW (r + 2328306436)), (15, iW (q - 1)), (14, iW m0), (13, iW m1), (12, iW (m1 * 4294967296 + m0)), (11, iW h), (10, iW 2313682944), (9, iW 2328306436), (2, iW 10000000000000000000), (8, iW 0), (7, iW 0), (6, iW 0), (0, iW h), (1, iW (m1 * 4294967296 + m0))] []) (by kernel_rfl) (fun _ => by kernel_rfl) (fun ac20 wd20 FF20 MM20 => then_n ?_))
        by_cases hs85 : (r + 2328306436) ≥ 4294967296
        · refine wp_cond_true ((FF20.ev 0 rfl).trans (dec_t hs85)) ?_
          refine wp_exit ?_
          repeat first | refine then_exit ?_ | refine (inb_other (by decide) _ _ _).2 ?_ | refine (inb_exit _ _ _ _).2 ?_
          have hz : q - 1 = A := Nat.le_antisymm (half_le (half_st hE k2) hA hu (half_bk hq (by assumption))) k1
          refine then_n ?_
          rw [hz] at FF20
          exact ⟨FF20.pick [2, 3, 4, 5, 6, 7, 8, 9, 10, 11, 12, 13, 14], MM20⟩
        · refine wp_cond_false ((FF20.ev 0 rfl).trans (dec_f hs85)) ?_
          refine wp_skip ?_
          refine inb_n ?_
          have hd := cnt_of (FF20.get 2 rfl)
          refine then_n ⟨⟨q - 1, r + 2328306436, half_st hE k2, k1, (by clear hE k1; omega), (Nat.le_trans (Nat.sub_le _ _) hq), FF20.pick [1, 2, 3, 4, 5, 6, 7, 8, 9, 10, 11, 12, 13, 14], MM20⟩, ?_⟩
          rw [hc, hd]; clear hE hQ k1 hA hB a1 a2 a3 b1 b2 b3; omega
      · by_cases h2 : q * 2313682944 > 4294967296 * r + m1
        · skip
          refine rg_seq FF16 MM16 [o_, w_ 3, o_, o_, o_, w_ 1, o_, w_ 1, o_, w_ 1, w_ 2, o_] [16, 15, 14, 13, 12, 11, 10, 9, 2, 8, 7, 6, 0, 1, 78] (fun Kt => ¬ (q ≥ 4294967296) ∧ q * 2313682944 < 18446744073709551616 ∧ 4294967296 * r < 18446744073709551616 ∧ (4294967296 * r) + m1 < 18446744073709551616 ∧ (q * 2313682944) > ((4294967296 * r) + m1) ∧ Kt [(78, .bool true), (16, iW r), (15, iW q), (14, iW m0), (13, iW m1), (12, iW (m1 * 4294967296 + m0)), (11, iW h), (10, iW 2313682944), (9, iW 2328306436), (2, iW 10000000000000000000), (8, iW 0), (7, iW 0), (6, iW 0), (0, iW h), (1, iW (m1 * 4294967296 + m0))] []) (by kernel_rfl) (fun _ => by kernel_rfl) (⟨h1, (by clear hE; omega), (by clear hE; omega), (by clear hE; omega), h2, fun ac21 wd21 FF21 MM21 => ?_⟩)
          refine then_n (.inl ⟨FF21.ev 0 rfl, ?_⟩)
          obtain ⟨k1, k2⟩ := half_ge hE hA (by first | exact .inl h1 | exact .inr h2) hlt hm1
          refine wp_seq (rg_seq FF21 MM21 [o_, w_ 1, o_] [16, 15, 14, 13, 12, 11, 10, 9, 2, 8, 7, 6, 0, 1] (fun Kt => 1 ≤ q ∧ q - 1 < 18446744073709551616 ∧ Kt [(15, iW (q - 1)), (16, iW r), (14, iW m0), (13, iW m1), (12, iW (m1 * 4294967296 + m0)), (11, iW h), (10, iW 2313682944), (9, iW 2328306436), (2, iW 10000000000000000000), (8, iW 0), (7, iW 0), (6, iW 0), (0, iW h), (1, iW (m1 * 4294967296 + m0))] []) (by kernel_rfl) (fun _ => by kernel_rfl) (⟨k2, (by omega), fun ac22 wd22 FF22 MM22 => then_n ?_⟩))
          refine wp_seq (rg_seq FF22 MM22 [o_, o_, w_ 1, o_] [15, 16, 14, 13, 12, 11, 10, 9, 2, 8, 7, 6, 0, 1] (fun Kt => r + 2328306436 < 18446744073709551616 ∧ Kt [(16, iW (r + 2328306436)), (15, iW (q - 1)), (14, iW m0), (13, iW m1), (12, iW (m1 * 4294967296 + m0)), (11, iW h), (10, iW 2313682944), (9, iW 2328306436), (2, iW 10000000000000000000), (8, iW 0), (7, iW 0), (6, iW 0), (0, iW h), (1, iW (m1 * 4294967296 + m0))] []) (by kernel_rfl) (fun _ => by kernel_rfl) (⟨(by clear hE; omega), fun ac23 wd23 FF23 MM23 => then_n ?_⟩))
          refine wp_seq (rg_seq FF23 MM23 [o_, o_] [16, 15, 14, 13, 12, 11, 10, 9, 2, 8, 7, 6, 0, 1, 85] (fun Kt => Kt [(85, .bool (decide ((r + 2328306436) ≥ 4294967296))), (16, iW (r + 2328306436)), (15, iW (q - 1)), (14, iW m0), (13, iW m1), (12, iW (m1 * 4294967296 + m0)), (11, iW h), (10, iW 2313682944), (9, iW 2328306436), (2, iW 10000000000000000000), (8, iW 0), (7, iW 0), (6, iW 0), (0, iW h), (1, iW (m1 * 4294967296 + m0))] []) (by kernel_rfl) (fun _ => by kernel_rfl) (fun ac24 wd24 FF24 MM24 => then_n ?_))
          by_cases hs85 : (r + 2328306436) ≥ 4294967296
          · refine wp_cond_true ((FF24.ev 0 rfl).trans (dec_t hs85)) ?_
            refine wp_exit ?_
            repeat first | refine then_exit ?_ | refine (inb_other (by decide) _ _ _).2 ?_ | refine (inb_exit _ _ _ _).2 ?_
            have hz : q - 1 = A := Nat.le_antisymm (half_le (half_st hE k2) hA hu (half_bk hq (by assumption))) k1
            refine then_n ?_
            rw [hz] at FF24
            exact ⟨FF24.pick [2, 3, 4, 5, 6, 7, 8, 9, 10, 11, 12, 13, 14], MM24⟩
          · refine wp_cond_false ((FF24.ev 0 rfl).trans (dec_f hs85)) ?_
            refine wp_skip ?_
            refine inb_n ?_
            have hd := cnt_of (FF24.get 2 rfl)
            refine then_n ⟨⟨q - 1, r + 2328306436, half_st hE k2, k1, (by clear hE k1; omega), (Nat.le_trans (Nat.sub_le _ _) hq), FF24.pick [1, 2, 3, 4, 5, 6, 7, 8, 9, 10, 11, 12, 13, 14], MM24⟩, ?_⟩
            rw [hc, hd]; clear hE hQ k1 hA hB a1 a2 a3 b1 b2 b3; omega
        · skip
          refine rg_seq FF16 MM16 [o_, w_ 3, o_, o_, o_, w_ 1, o_, w_ 1, o_, w_ 1, w_ 3, o_] [16, 15, 14, 13, 12, 11, 10, 9, 2, 8, 7, 6, 0, 1, 78] (fun Kt => ¬ (q ≥ 4294967296) ∧ q * 2313682944 < 18446744073709551616 ∧ 4294967296 * r < 18446744073709551616 ∧ (4294967296 * r) + m1 < 18446744073709551616 ∧ ¬ ((q * 2313682944) > ((4294967296 * r) + m1)) ∧ Kt [(78, .bool false), (16, iW r), (15, iW q), (14, iW m0), (13, iW m1), (12, iW (m1 * 4294967296 + m0)), (11, iW h), (10, iW 2313682944), (9, iW 2328306436), (2, iW 10000000000000000000), (8, iW 0), (7, iW 0), (6, iW 0), (0, iW h), (1, iW (m1 * 4294967296 + m0))] []) (by kernel_rfl) (fun _ => by kernel_rfl) (⟨h1, (by clear hE; omega), (by clear hE; omega), (by clear hE; omega), h2, fun ac25 wd25 FF25 MM25 => ?_⟩)
          refine then_n (.inr ⟨FF25.ev 0 rfl, ?_⟩)
          have hz : q = A := Nat.le_antisymm (half_le hE hA hu (Nat.le_of_not_lt h2)) hQ
          refine then_n ?_
          rw [hz] at FF25
          exact ⟨FF25.pick [2, 3, 4, 5, 6, 7, 8, 9, 10, 11, 12, 13, 14], MM25⟩
    · rintro ac26 wd26 ⟨FF26, MM26⟩
      refine wp_seq (rg_seq FF26 MM26 [o_, o_, o_, o_, o_, o_, o_, t_ (iW u), o_] [15, 14, 13, 12, 11, 10, 9, 2, 8, 7, 6, 0, 1, 17] (fun Kt => ((A * 10000000000000000000) % 18446744073709551616) ≤ 18446744073709551616 ∧ iW ((((((h * 4294967296) % 18446744073709551616) + m1) % 18446744073709551616) + (18446744073709551616 - ((A * 10000000000000000000) % 18446744073709551616))) % 18446744073709551616) = iW u ∧ Kt [(17, iW u), (15, iW A), (14, iW m0), (13, iW m1), (12, iW (m1 * 4294967296 + m0)), (11, iW h), (10, iW 2313682944), (9, iW 2328306436), (2, iW 10000000000000000000), (8, iW 0), (7, iW 0), (6, iW 0), (0, iW h), (1, iW (m1 * 4294967296 + m0))] []) (by kernel_rfl) (fun _ => by kernel_rfl) (⟨(by have := hlt; have := hm1; omega), (vI (wrap_sub hA hu)), fun ac27 wd27 FF27 MM27 => then_n ?_⟩))
      refine wp_seq (rg_seq FF27 MM27 [o_, o_, o_, o_] [17, 15, 14, 13, 12, 11, 10, 9, 2, 8, 7, 6, 0, 1, 18] (fun Kt => 2328306436 ≠ 0 ∧ u / 2328306436 < 18446744073709551616 ∧ Kt [(18, iW (u / 2328306436)), (17, iW u), (15, iW A), (14, iW m0), (13, iW m1), (12, iW (m1 * 4294967296 + m0)), (11, iW h), (10, iW 2313682944), (9, iW 2328306436), (2, iW 10000000000000000000), (8, iW 0), (7, iW 0), (6, iW 0), (0, iW h), (1, iW (m1 * 4294967296 + m0))] []) (by kernel_rfl) (fun _ => by kernel_rfl) (⟨(by decide), (by have := hu; omega), fun ac28 wd28 FF28 MM28 => then_n ?_⟩))
      refine wp_seq (rg_seq FF28 MM28 [o_, o_, o_, w_ 1, u_ 1 (iW (u % 2328306436)), o_] [18, 17, 15, 14, 13, 12, 11, 10, 9, 2, 8, 7, 6, 0, 1, 16] (fun Kt => (u / 2328306436) * 2328306436 < 18446744073709551616 ∧ ((u / 2328306436) * 2328306436) ≤ u ∧ u - ((u / 2328306436) * 2328306436) < 18446744073709551616 ∧ iW (u - ((u / 2328306436) * 2328306436)) = iW (u % 2328306436) ∧ Kt [(16, iW (u % 2328306436)), (18, iW (u / 2328306436)), (17, iW u), (15, iW A), (14, iW m0), (13, iW m1), (12, iW (m1 * 4294967296 + m0)), (11, iW h), (10, iW 2313682944), (9, iW 2328306436), (2, iW 10000000000000000000), (8, iW 0), (7, iW 0), (6, iW 0), (0, iW h), (1, iW (m1 * 4294967296 + m0))] []) (by kernel_rfl) (fun _ => by kernel_rfl) (⟨(by have := hu; omega), (by have := hu; omega), (by have := hu; omega), (vI (by omega)), fun ac29 wd29 FF29 MM29 => then_n ?_⟩))
      refine wp_mid (fun a' w' => Fr 135 a' [(18, iW B), (17, iW u), (15, iW A), (14, iW m0), (13, iW m1), (12, iW (m1 * 4294967296 + m0)), (11, iW h), (10, iW 2313682944), (9, iW 2328306436), (2, iW 10000000000000000000), (8, iW 0), (7, iW 0), (6, iW 0), (0, iW h), (1, iW (m1 * 4294967296 + m0))] ∧ MemS (fun k => k < w0.heap.size) w0 w' [] []) ?_ ?_
      · skip
        refine wp_for2w (fun a' w' => ∃ q : Nat, ∃ r : Nat, u = q * 2328306436 + r ∧ B ≤ q ∧ r < 4294967296 ∧ q ≤ 4294967296 ∧ Fr 135 a' [(16, iW r), (18, iW q), (17, iW u), (15, iW A), (14, iW m0), (13, iW m1), (12, iW (m1 * 4294967296 + m0)), (11, iW h), (10, iW 2313682944), (9, iW 2328306436), (2, iW 10000000000000000000), (8, iW 0), (7, iW 0), (6, iW 0), (0, iW h), (1, iW (m1 * 4294967296 + m0))] ∧ MemS (fun k => k < w0.heap.size) w0 w' [] []) (fun a' _ => (cnt 18 a').toNat) ⟨u / 2328306436, u % 2328306436, by omega, b1, by omega, b2, FF29.pick [0, 1, 2, 3, 4, 5, 6, 7, 8, 9, 10, 11, 12, 13, 14, 15], MM29⟩ ?_
        rintro ac30 wd30 ⟨q, r, hE, hQ, hr, hq, FF30, MM30⟩
        have hc := cnt_of (FF30.get 1 rfl)
        by_cases h1 : q ≥ 4294967296
        · skip
          refine rg_seq FF30 MM30 [o_, w_ 2, o_, o_, o_, o_, o_, o_, o_, o_, o_, o_] [16, 18, 17, 15, 14, 13, 12, 11, 10, 9, 2, 8, 7, 6, 0, 1, 113] (fun Kt => q ≥ 4294967296 ∧ Kt [(113, .bool true), (16, iW r), (18, iW q), (17, iW u), (15, iW A), (14, iW m0), (13, iW m1), (12, iW (m1 * 4294967296 + m0)), (11, iW h), (10, iW 2313682944), (9, iW 2328306436), (2, iW 10000000000000000000), (8, iW 0), (7, iW 0), (6, iW 0), (0, iW h), (1, iW (m1 * 4294967296 + m0))] []) (by kernel_rfl) (fun _ => by kernel_rfl) (⟨h1, fun ac31 wd31 FF31 MM31 => ?_⟩)
          refine then_n (.inl ⟨FF31.ev 0 rfl, ?_⟩)
          obtain ⟨k1, k2⟩ := half_ge hE hB (by first | exact .inl h1 | exact .inr h2) hu hm0
          refine wp_seq (rg_seq FF31 MM31 [o_, w_ 1, o_] [16, 18, 17, 15, 14, 13, 12, 11, 10, 9, 2, 8, 7, 6, 0, 1] (fun Kt => 1 ≤ q ∧ q - 1 < 18446744073709551616 ∧ Kt [(18, iW (q - 1)), (16, iW r), (17, iW u), (15, iW A), (14, iW m0), (13, iW m1), (12, iW (m1 * 4294967296 + m0)), (11, iW h), (10, iW 2313682944), (9, iW 2328306436), (2, iW 10000000000000000000), (8, iW 0), (7, iW 0), (6, iW 0), (0, iW h), (1, iW (m1 * 4294967296 + m0))] []) (by kernel_rfl) (fun _ => by kernel_rfl) (⟨k2, (by omega), fun ac32 wd32 FF32 MM32 => then_n ?_⟩))
          refine wp_seq (rg_seq FF32 MM32 [o_, o_, w_ 1, o_] [18, 16, 17, 15, 14, 13, 12, 11, 10, 9, 2, 8, 7, 6, 0, 1] (fun Kt => r + 2328306436 < 18446744073709551616 ∧ Kt [(16, iW (r + 2328306436)), (18, iW (q - 1)), (17, iW u), (15, iW A), (14, iW m0), (13, iW m1), (12, iW (m1 * 4294967296 + m0)), (11, iW h), (10, iW 2313682944), (9, iW 2328306436), (2, iW 10000000000000000000), (8, iW 0), (7, iW 0), (6, iW 0), (0, iW h), (1, iW (m1 * 4294967296 + m0))] []) (by kernel_rfl) (fun _ => by kernel_rfl) (⟨(by clear hE; omega), fun ac33 wd33 FF33 MM33 => then_n ?_⟩))
          refine wp_seq (rg_seq FF33 MM33 [o_, o_] [16, 18, 17, 15, 14, 13, 12, 11, 10, 9, 2, 8, 7, 6, 0, 1, 120] (fun Kt => Kt [(120, .bool (decide ((r + 2328306436) ≥ 4294967296))), (16, iW (r + 2328306436)), (18, iW (q - 1)), (17, iW u), (15, iW A), (14, iW m0), (13, iW m1), (12, iW (m1 * 4294967296 + m0)), (11, iW h), (10, iW 2313682944), (9, iW 2328306436), (2, iW 10000000000000000000), (8, iW 0), (7, iW 0), (6, iW 0), (0, iW h), (1, iW (m1 * 4294967296 + m0))] []) (by kernel_rfl) (fun _ => by kernel_rfl) (fun ac34 wd34 FF34 MM34 => then_n ?_))
          by_cases hs120 : (r + 2328306436) ≥ 4294967296
          · refine wp_cond_true ((FF34.ev 0 rfl).trans (dec_t hs120)) ?_
            refine wp_exit ?_
            repeat first | refine then_exit ?_ | refine (inb_other (by decide) _ _ _).2 ?_ | refine (inb_exit _ _ _ _).2 ?_
            have hz : q - 1 = B := Nat.le_antisymm (half_le (half_st hE k2) hB hr0 (half_bk hq (by assumption))) k1
            refine then_n ?_
            rw [hz] at FF34
            exact ⟨FF34.pick [2, 3, 4, 5, 6, 7, 8, 9, 10, 11, 12, 13, 14, 15, 16], MM34⟩
          · refine wp_cond_false ((FF34.ev 0 rfl).trans (dec_f hs120)) ?_
            refine wp_skip ?_
            refine inb_n ?_
            have hd := cnt_of (FF34.get 2 rfl)
            refine then_n ⟨⟨q - 1, r + 2328306436, half_st hE k2, k1, (by clear hE k1; omega), (Nat.le_trans (Nat.sub_le _ _) hq), FF34.pick [1, 2, 3, 4, 5, 6, 7, 8, 9, 10, 11, 12, 13, 14, 15, 16], MM34⟩, ?_⟩
            rw [hc, hd]; clear hE hQ k1 hA hB a1 a2 a3 b1 b2 b3; omega
        · by_cases h2 : q * 2313682944 > 4294967296 * r + m0
          · skip
            refine rg_seq FF30 MM30 [o_, w_ 3, o_, o_, o_, w_ 1, o_, w_ 1, o_, w_ 1, w_ 2, o_] [16, 18, 17, 15, 14, 13, 12, 11, 10, 9, 2, 8, 7, 6, 0, 1, 113] (fun Kt => ¬ (q ≥ 4294967296) ∧ q * 2313682944 < 18446744073709551616 ∧ 4294967296 * r < 18446744073709551616 ∧ (4294967296 * r) + m0 < 18446744073709551616 ∧ (q * 2313682944) > ((4294967296 * r) + m0) ∧ Kt [(113, .bool true), (16, iW r), (18, iW q), (17, iW u), (15, iW A), (14, iW m0), (13, iW m1), (12, iW (m1 * 4294967296 + m0)), (11, iW h), (10, iW 2313682944), (9, iW 2328306436), (2, iW 10000000000000000000), (8, iW 0), (7, iW 0), (6, iW 0), (0, iW h), (1, iW (m1 * 4294967296 + m0))] []) (by kernel_rfl) (fun _ => by kernel_rfl) (⟨h1, (by clear hE; omega), (by clear hE; omega), (by clear hE; omega), h2, fun ac35 wd35 FF35 MM35 => ?_⟩)
            refine then_n (.inl ⟨FF35.ev 0 rfl, ?_⟩)
            obtain ⟨k1, k2⟩ := half_ge hE hB (by first | exact .inl h1 | exact .inr h2) hu hm0
            refine wp_seq (rg_seq FF35 MM35 [o_, w_ 1, o_] [16, 18, 17, 15, 14, 13, 12, 11, 10, 9, 2, 8, 7, 6, 0, 1] (fun Kt => 1 ≤ q ∧ q - 1 < 18446744073709551616 ∧ Kt [(18, iW (q - 1)), (16, iW r), (17, iW u), (15, iW A), (14, iW m0), (13, iW m1), (12, iW (m1 * 4294967296 + m0)), (11, iW h), (10, iW 2313682944), (9, iW 2328306436), (2, iW 10000000000000000000), (8, iW 0), (7, iW 0), (6, iW 0), (0, iW h), (1, iW (m1 * 4294967296 + m0))] []) (by kernel_rfl) (fun _ => by kernel_rfl) (⟨k2, (by omega), fun ac36 wd36 FF36 MM36 => then_n ?_⟩))
            refine wp_seq (rg_seq FF36 MM36 [o_, o_, w_ 1, o_] [18, 16, 17, 15, 14, 13, 12, 11, 10, 9, 2, 8, 7, 6, 0, 1] (fun Kt => r + 2328306436 < 18446744073709551616 ∧ Kt [(16, iW (r + 2328306436)), (18, iW (q - 1)), (17, iW u), (15, iW A), (14, iW m0), (13, iW m1), (12, iW (m1 * 4294967296 + m0)), (11, iW h), (10, iW 2313682944), (9, iW 2328306436), (2, iW 10000000000000000000), (8, iW 0), (7, iW 0), (6, iW 0), (0, iW h), (1, iW (m1 * 4294967296 + m0))] []) (by kernel_rfl) (fun _ => by kernel_rfl) (⟨(by clear hE; omega), fun ac37 wd37 FF37 MM37 => then_n ?_⟩))
            refine wp_seq (rg_seq FF37 MM37 [o_, o_] [16, 18, 17, 15, 14, 13, 12, 11, 10, 9, 2, 8, 7, 6, 0, 1, 120] (fun Kt => Kt [(120, .bool (decide ((r + 2328306436) ≥ 4294967296))), (16, iW (r + 2328306436)), (18, iW (q - 1)), (17, iW u), (15, iW A), (14, iW m0), (13, iW m1), (12, iW (m1 * 4294967296 + m0)), (11, iW h), (10, iW 2313682944), (9, iW 2328306436), (2, iW 10000000000000000000), (8, iW 0), (7, iW 0), (6, iW 0), (0, iW h), (1, iW (m1 * 4294967296 + m0))] []) (by kernel_rfl) (fun _ => by kernel_rfl) (fun ac38 wd38 FF38 MM38 => then_n ?_))
            by_cases hs120 : (r + 2328306436) ≥ 4294967296
            · refine wp_cond_true ((FF38.ev 0 rfl).trans (dec_t hs120)) ?_
              refine wp_exit ?_
              repeat first | refine then_exit ?_ | refine (inb_other (by decide) _ _ _).2 ?_ | refine (inb_exit _ _ _ _).2 ?_
              have hz : q - 1 = B := Nat.le_antisymm (half_le (half_st hE k2) hB hr0 (half_bk hq (by assumption))) k1
              refine then_n ?_
              rw [hz] at FF38
              exact ⟨FF38.pick [2, 3, 4, 5, 6, 7, 8, 9, 10, 11, 12, 13, 14, 15, 16], MM38⟩
            · refine wp_cond_false ((FF38.ev 0 rfl).trans (dec_f hs120)) ?_
              refine wp_skip ?_
              refine inb_n ?_
              have hd := cnt_of (FF38.get 2 rfl)
              refine then_n ⟨⟨q - 1, r + 2328306436, half_st hE k2, k1, (by clear hE k1; omega), (Nat.le_trans (Nat.sub_le _ _) hq), FF38.pick [1, 2, 3, 4, 5, 6, 7, 8, 9, 10, 11, 12, 13, 14, 15, 16], MM38⟩, ?_⟩
              rw [hc, hd]; clear hE hQ k1 hA hB a1 a2 a3 b1 b2 b3; omega
          · skip
            refine rg_seq FF30 MM30 [o_, w_ 3, o_, o_, o_, w_ 1, o_, w_ 1, o_, w_ 1, w_ 3, o_] [16, 18, 17, 15, 14, 13, 12, 11, 10, 9, 2, 8, 7, 6, 0, 1, 113] (fun Kt => ¬ (q ≥ 4294967296) ∧ q * 2313682944 < 18446744073709551616 ∧ 4294967296 * r < 18446744073709551616 ∧ (4294967296 * r) + m0 < 18446744073709551616 ∧ ¬ ((q * 2313682944) > ((4294967296 * r) + m0)) ∧ Kt [(113, .bool false), (16, iW r), (18, iW q), (17, iW u), (15, iW A), (14, iW m0), (13, iW m1), (12, iW (m1 * 4294967296 + m0)), (11, iW h), (10, iW 2313682944), (9, iW 2328306436), (2, iW 10000000000000000000), (8, iW 0), (7, iW 0), (6, iW 0), (0, iW h), (1, iW (m1 * 4294967296 + m0))] []) (by kernel_rfl) (fun _ => by kernel_rfl) (⟨h1, (by clear hE; omega), (by clear hE; omega), (by clear hE; omega), h2, fun ac39 wd39 FF39 MM39 => ?_⟩)
            refine then_n (.inr ⟨FF39.ev 0 rfl, ?_⟩)
            have hz : q = B := Nat.le_antisymm (half_le hE hB hr0 (Nat.le_of_not_lt h2)) hQ
            refine then_n ?_
            rw [hz] at FF39
            exact ⟨FF39.pick [2, 3, 4, 5, 6, 7, 8, 9, 10, 11, 12, 13, 14, 15, 16], MM39⟩
      · rintro ac40 wd40 ⟨FF40, MM40⟩
        refine wp_seq (rg_seq FF40 MM40 [o_, w_ 1, o_, w_ 1, o_, o_, o_, o_, o_, o_, o_, t_ (iW r0), o_, t_ (iW r0), o_, o_] [18, 17, 15, 14, 13, 12, 11, 10, 9, 2, 8, 7, 6, 0, 1] (fun Kt => A * 4294967296 < 18446744073709551616 ∧ (A * 4294967296) + B < 18446744073709551616 ∧ ((B * 10000000000000000000) % 18446744073709551616) ≤ 18446744073709551616 ∧ iW ((((((u * 4294967296) % 18446744073709551616) + m0) % 18446744073709551616) + (18446744073709551616 - ((B * 10000000000000000000) % 18446744073709551616))) % 18446744073709551616) = iW r0 ∧ 0 ≤ 64 ∧ iW (r0 / 1) = iW r0 ∧ Kt [(7, iW r0), (6, iW ((A * 4294967296) + B)), (18, iW B), (17, iW u), (15, iW A), (14, iW m0), (13, iW m1), (12, iW (m1 * 4294967296 + m0)), (11, iW h), (10, iW 2313682944), (9, iW 2328306436), (2, iW 10000000000000000000), (8, iW 0), (0, iW h), (1, iW (m1 * 4294967296 + m0))] []) (by kernel_rfl) (fun _ => by kernel_rfl) (⟨(by omega), (by omega), (by have := hu; have := hm0; omega), (vI (wrap_sub hB hr0)), (by decide), (vI (Nat.div_one _)), fun ac41 wd41 FF41 MM41 => then_n ?_⟩))
        refine wp_ret ?_
        repeat first | refine then_ret ?_ | refine inb_ret ?_
        exact (ret_tup2 FF41 1 0 Tryd.results79 rfl rfl ⟨rfl, MM41.below⟩)
theorem div64_any (h m : Nat) (hlt : h < 10000000000000000000) (hm : m < 18446744073709551616) (w0 : World) :
    Calls Tryd.prog 79 #[iW h, iW m, iW 10000000000000000000] w0 fun e w' => e = .returned (.tuple #[iW ((h * 18446744073709551616 + m) / 10000000000000000000), iW ((h * 18446744073709551616 + m) % 10000000000000000000)]) ∧ Below w0.heap.size w0 w' := by
  obtain ⟨m1, m0, h1, h2, rfl⟩ : ∃ m1 m0, m1 < 4294967296 ∧ m0 < 4294967296 ∧ m = m1 * 4294967296 + m0 := ⟨m / 4294967296, m % 4294967296, by omega, by omega, by omega⟩
  have hA := (Nat.div_add_mod' (h * 4294967296 + m1) 10000000000000000000).symm
  have hu := Nat.mod_lt (h * 4294967296 + m1) (show 10000000000000000000 > 0 by decide)
  have hB := (Nat.div_add_mod' ((h * 4294967296 + m1) % 10000000000000000000 * 4294967296 + m0) 10000000000000000000).symm
  have hr := Nat.mod_lt ((h * 4294967296 + m1) % 10000000000000000000 * 4294967296 + m0) (show 10000000000000000000 > 0 by decide)
  obtain ⟨e1, e2⟩ := two_div hA hB hr
  rw [e1, e2]
  exact div64_core h m1 m0 _ _ _ _ hlt h1 h2 hA hu hB hr w0
end Go.Proofs.YtlljedijldkcbaaDoor
namespace Go.Proofs.YtlljedijldkcbaaDoor
open Go.RowKit
/-- The table of the powers of ten lies there. -/
def TabIn (w : World) : Prop := CellsIn w (some ⟨2, 0, none⟩) 20 (fun j => iW (10 ^ j))
def TabO (O : Blks) : Prop := CellsO O (some ⟨2, 0, none⟩) 20 (fun j => iW (10 ^ j))
theorem TabO.at {w : World} {O : Blks} (h : TabO O) (H : Has w O) : TabIn w := CellsO.at h H
theorem TabO.mono {O O' : Blks} (h : TabO O) (hs : ∀ x ∈ O, x ∈ O') : TabO O' := CellsO.mono h hs
theorem TabIn.keep {w w' : World} (h : TabIn w) (hb : Below w.heap.size w w') : TabIn w' := CellsIn.keep h hb
theorem tab_O {w : World} (h : TabIn w) : ∃ O : Blks, Has w O ∧ O.Pairwise (fun x y => x.1 ≠ y.1) ∧ TabO O := by
  rcases h with h | ⟨b, cs, T, fr, h1, h2, h3⟩
  · cases h
  · refine ⟨[(b, .cells cs T fr)], fun i x hx => ?_, by simp, .inr ⟨b, cs, T, fr, h1, by simp, h3⟩⟩
    cases i with
    | zero => simp at hx; subst hx; exact h2
    | succ i => simp at hx
def ren10 : Go.Shelf.Ren := ⟨fun | 285 => 91 | n => n, fun | 37 => 67 | 53 => 61 | 3 => 3 | 4 => 4 | 51 => 121 | 9 => 9 | 5 => 5 | 0 => 0 | n => n, fun | n => n⟩
theorem lay10 : Go.Proofs.Lays.n285 Tryd.prog ren10 := {
  mixed := by kernel_rfl
  f285 := Tryd.func91.trans (congrArg some (by kernel_rfl))
  t37 := Tryd.underlying67
  a37 := Tryd.isAgg67
  z37 := Tryd.sizeOf67
  v37 := Tryd.zeroValue67
  t53 := Tryd.underlying61
  a53 := Tryd.isAgg61
  z53 := Tryd.sizeOf61
  v53 := Tryd.zeroValue61
  t3 := Tryd.underlying3
  a3 := Tryd.isAgg3
  z3 := Tryd.sizeOf3
  v3 := Tryd.zeroValue3
  t4 := Tryd.underlying4
  a4 := Tryd.isAgg4
  z4 := Tryd.sizeOf4
  v4 := Tryd.zeroValue4
  t51 := Tryd.underlying121
  a51 := Tryd.isAgg121
  z51 := Tryd.sizeOf121
  v51 := Tryd.zeroValue121
  t9 := Tryd.underlying9
  a9 := Tryd.isAgg9
  z9 := Tryd.sizeOf9
  v9 := Tryd.zeroValue9
  t5 := Tryd.underlying5
  a5 := Tryd.isAgg5
  z5 := Tryd.sizeOf5
  v5 := Tryd.zeroValue5
  t0 := Tryd.underlying0
  a0 := Tryd.isAgg0
  z0 := Tryd.sizeOf0
  v0 := Tryd.zeroValue0 }
theorem rep_get (n k : Nat) : (List.replicate n 0).getD k 0 = 0 := by rw [List.getD_eq_getElem?_getD, List.getElem?_replicate]; split <;> rfl
theorem put_dec {nd u v : Nat} {dk : Array UInt8} (h : nd ≤ 24) (hk : Lib.FmtInv nd u 0 v dk) : Go.Sort.putCells (fun (b : UInt8) => Value.int .u8 (b.toNat : Int)) 0 dk (cn .u8 (List.replicate 24 0)) = cn .u8 (decK nd u ++ List.replicate (24 - nd) 0) := by
  apply Array.ext_getElem?
  intro k
  have hs := hk.size
  simp only [Go.Sort.putCells, Array.getElem?_mapIdx]
  rcases Nat.lt_or_ge k 24 with h1 | h1
  · have e1 : (cn .u8 (List.replicate 24 0))[k]? = some (.int .u8 ((0 : Nat) : Int)) := by
      rw [cn_get _ _ _ (by rw [List.length_replicate]; exact h1), rep_get]
    have hl : (decK nd u ++ List.replicate (24 - nd) 0).length = 24 := by rw [List.length_append, decK_len, List.length_replicate]; omega
    rw [e1, cn_get _ _ _ (by rw [hl]; exact h1)]
    simp only [Option.map_some, Nat.zero_le, true_and, Nat.zero_add, Nat.sub_zero]
    rcases Nat.lt_or_ge k nd with h2 | h2
    · rw [if_pos (by omega), hk.done k (Nat.zero_le _) h2, getD_app_l _ _ _ (by rw [decK_len]; exact h2), decK_get nd u h2]
      have := dig_le u (nd - 1 - k)
      simp only [Lib.dg, UInt8.toNat_ofNat']
      rw [Nat.mod_eq_of_lt (by omega)]
    · rw [if_neg (by omega), getD_app_r _ _ _ (by rw [decK_len]; exact h2), List.getD_eq_getElem?_getD, List.getElem?_replicate]
      split <;> rfl
  · have hl : (decK nd u ++ List.replicate (24 - nd) 0).length = 24 := by rw [List.length_append, decK_len, List.length_replicate]; omega
    rw [Array.getElem?_eq_none (by rw [cn_size, List.length_replicate]; exact h1), Array.getElem?_eq_none (by rw [cn_size, hl]; exact h1)]
    rfl
theorem fmt10_U (nd u : Nat) (hnd : nd ≤ 24) (hu : u < 10 ^ nd) (hu64 : u < 18446744073709551616) (g i : Nat) (L : Blks) (hi : L[i]? = some (g, .cells (cn .u8 (List.replicate 24 0)) 124)) :
    CallU Tryd.prog 91 [.slice (some ⟨g, 0, none⟩) nd 24, iW u] L (.tuple #[]) [(i, .cells (cn .u8 (decK nd u ++ List.replicate (24 - nd) 0)) 124)] := ⟨en_fmt10, fun w H => by
  have hb : w.heap[g]? = some (.cells (cn .u8 (List.replicate 24 0)) 124) := H i _ hi
  have hH : Go.Sort.Holds (fun (b : UInt8) => Value.int .u8 (b.toNat : Int)) w g 0 (Array.replicate nd (0 : UInt8)) := fun j hj => by
    rw [Array.size_replicate] at hj
    have hj' : j < 24 := by omega
    refine ⟨?_, ?_⟩
    · rw [cell_of hb, Nat.zero_add, cn_get _ _ _ (by rw [List.length_replicate]; exact hj'), rep_get]
      simp [hj]
    · simp [World.frozen?, hb]
  have hc := Any.internal_strconv_formatBase10 lay10 g 0 24 u (Array.replicate nd (0 : UInt8)) w hH (by rw [Array.size_replicate]; exact hu) hu64 (by rw [Array.size_replicate]; omega)
  rw [Array.size_replicate] at hc
  refine Calls.mono hc ?_
  rintro e w' ⟨rfl, n, v', dk, rfl, hk⟩
  have e0 : ∀ k, (Go.Sort.putRow (fun (b : UInt8) => Value.int .u8 (b.toNat : Int)) w g 0 dk).heap[k]? = if g = k then (w.heap[k]?).map (Go.Sort.onCells (Go.Sort.putCells (fun (b : UInt8) => Value.int .u8 (b.toNat : Int)) 0 dk)) else w.heap[k]? := fun k => by
    simp only [Go.Sort.putRow, Go.Sort.mapBlock, Array.getElem?_modify]
  refine ⟨rfl, rfl, rfl, rfl, ?_, fun k hk' hu' => ?_, fun o ho => (by cases ho), fun _ => rfl, fun x hx y hy => ?_⟩
  · show w.heap.size ≤ (Go.Sort.putRow (fun (b : UInt8) => Value.int .u8 (b.toNat : Int)) w g 0 dk).heap.size
    simp [Go.Sort.putRow, Go.Sort.mapBlock]
  · have hne : g ≠ k := hu' _ (List.mem_singleton.2 rfl) (g, _) hi
    exact (e0 k).trans (if_neg hne)
  · rw [List.mem_singleton] at hx
    subst hx
    rw [hi] at hy
    obtain rfl := Option.some.inj hy
    refine (e0 g).trans ?_
    rw [if_pos rfl, hb, Option.map_some]
    simp only [Go.Sort.onCells]
    rw [put_dec hnd hk]⟩
theorem dec24 {nd u : Nat} (h : nd ≤ 24) : (decK nd u ++ List.replicate (24 - nd) 0).length = 24 := by rw [List.length_append, decK_len, List.length_replicate]; omega
theorem dec24_lt (nd u k : Nat) : ∀ i, (decK nd u ++ List.replicate k 0).getD i 0 < 256 := pad_lt _ (decK_lt nd u) _
theorem dec24_take (nd u k : Nat) : ((decK nd u ++ List.replicate k 0).drop 0).take nd = decK nd u := by
  rw [List.drop_zero, List.take_append_of_le_length (by rw [decK_len]; exact Nat.le_refl _), List.take_of_length_le (by rw [decK_len]; exact Nat.le_refl _)]
set_option maxRecDepth 100000 in
theorem l10_any (x : Nat) (hx : x ≤ 64) (w0 : World) :
    Calls Tryd.prog 96 #[iN x] w0 fun e w' => e = .returned (iN (lg x)) ∧ Below w0.heap.size w0 w' := by
  refine enter_fr Tryd.func96 rfl Tryd.ntmps96 (by simp) fun ac (FF : Fr 6 ac [(0, iN x)]) => ?_
  have MM := MemS.start w0
  refine wp_seq (rg_seq FF MM [o_] [0, 2] (fun Kt => Kt [(2, iN 0), (0, iN x)] []) (by kernel_rfl) (fun _ => by kernel_rfl) (fun ac1 wd1 FF1 MM1 => then_n ?_))
  refine wp_seq (rg_seq FF1 MM1 [o_, o_, t_ (iN (lg x)), o_] [2] (fun Kt => x * 78913 < 9223372036854775808 ∧ 18 ≤ 64 ∧ iN ((x * 78913) / 262144) = iN (lg x) ∧ Kt [(2, iN (lg x))] []) (by kernel_rfl) (fun _ => by kernel_rfl) (⟨(by have := hx; omega), (by decide), rfl, fun ac2 wd2 FF2 MM2 => then_n ?_⟩))
  refine wp_ret ?_
  repeat first | refine then_ret ?_ | refine inb_ret ?_
  exact (ret_fr FF2 0 Tryd.results96 rfl ⟨rfl, MM2.below⟩)
set_option maxRecDepth 100000 in
theorem bool2_true  (w0 : World) :
    Calls Tryd.prog 97 #[.bool true] w0 fun e w' => e = .returned (iN 1) ∧ Below w0.heap.size w0 w' := by
  refine enter_fr Tryd.func97 rfl Tryd.ntmps97 (by simp) fun ac (FF : Fr 4 ac [(0, .bool true)]) => ?_
  have MM := MemS.start w0
  refine wp_seq (rg_seq FF MM [o_] [0, 2] (fun Kt => Kt [(2, iN 0), (0, .bool true)] []) (by kernel_rfl) (fun _ => by kernel_rfl) (fun ac1 wd1 FF1 MM1 => then_n ?_))
  refine wp_seq ?_
  refine wp_seq (rg_seq FF1 MM1 [o_] [2, 3] (fun Kt => Kt [(3, .bool true), (2, iN 0)] []) (by kernel_rfl) (fun _ => by kernel_rfl) (fun ac2 wd2 FF2 MM2 => then_n ?_))
  refine wp_cond_true (FF2.ev 0 rfl) ?_
  refine wp_seq (rg_seq FF2 MM2 [o_] [2] (fun Kt => Kt [(2, iN 1)] []) (by kernel_rfl) (fun _ => by kernel_rfl) (fun ac3 wd3 FF3 MM3 => then_n ?_))
  refine wp_ret ?_
  repeat first | refine then_ret ?_ | refine inb_ret ?_
  exact (ret_fr FF3 0 Tryd.results97 rfl ⟨rfl, MM3.below⟩)
set_option maxRecDepth 100000 in
theorem bool2_false  (w0 : World) :
    Calls Tryd.prog 97 #[.bool false] w0 fun e w' => e = .returned (iN 0) ∧ Below w0.heap.size w0 w' := by
  refine enter_fr Tryd.func97 rfl Tryd.ntmps97 (by simp) fun ac (FF : Fr 4 ac [(0, .bool false)]) => ?_
  have MM := MemS.start w0
  refine wp_seq (rg_seq FF MM [o_] [0, 2] (fun Kt => Kt [(2, iN 0), (0, .bool false)] []) (by kernel_rfl) (fun _ => by kernel_rfl) (fun ac1 wd1 FF1 MM1 => then_n ?_))
  refine wp_seq ?_
  refine wp_seq (rg_seq FF1 MM1 [o_] [2, 3] (fun Kt => Kt [(3, .bool false), (2, iN 0)] []) (by kernel_rfl) (fun _ => by kernel_rfl) (fun ac2 wd2 FF2 MM2 => then_n ?_))
  refine wp_cond_false (FF2.ev 0 rfl) ?_
  refine wp_skip ?_
  refine then_n ?_
  refine wp_seq (rg_seq FF2 MM2 [o_] [2] (fun Kt => Kt [(2, iN 0)] []) (by kernel_rfl) (fun _ => by kernel_rfl) (fun ac3 wd3 FF3 MM3 => then_n ?_))
  refine wp_ret ?_
  repeat first | refine then_ret ?_ | refine inb_ret ?_
  exact (ret_fr FF3 0 Tryd.results97 rfl ⟨rfl, MM3.below⟩)
set_option maxRecDepth 100000 in
theorem small_any (i : Nat) (hi : i < 100) (w0 : World) :
    Calls Tryd.prog 89 #[iN i] w0 fun e w' => e = .returned (sB (decN i)) ∧ Below w0.heap.size w0 w' := by
  refine enter_fr Tryd.func89 rfl Tryd.ntmps89 (by simp) fun ac (FF : Fr 15 ac [(0, iN i)]) => ?_
  have MM := MemS.start w0
  refine wp_seq (rg_seq FF MM [o_] [0, 2] (fun Kt => Kt [(2, sB []), (0, iN i)] []) (by kernel_rfl) (fun _ => by kernel_rfl) (fun ac1 wd1 FF1 MM1 => then_n ?_))
  refine wp_seq ?_
  refine wp_seq (rg_seq FF1 MM1 [o_, o_] [2, 0, 4] (fun Kt => Kt [(4, .bool (decide (i < 10))), (2, sB []), (0, iN i)] []) (by kernel_rfl) (fun _ => by kernel_rfl) (fun ac2 wd2 FF2 MM2 => then_n ?_))
  by_cases hs4 : i < 10
  · refine wp_cond_true ((FF2.ev 0 rfl).trans (dec_t hs4)) ?_
    refine wp_seq (rg_seq FF2 MM2 [o_, o_, o_, t_ (sB (decN i)), o_] [2, 0] (fun Kt => i + 1 < 9223372036854775808 ∧ i ≤ (i + 1) ∧ (i + 1) ≤ (bs digs36).size ∧ Value.string ((bs digs36).extract i (i + 1)) = sB (decN i) ∧ Kt [(2, sB (decN i)), (0, iN i)] []) (by kernel_rfl) (fun _ => by kernel_rfl) (⟨(by have := hi; omega), (by have := hi; omega), (by rw [bs_size, show digs36.length = 36 from (by kernel_rfl)]; have := hi; omega), (vS2 ((bs_extract _ _ _).trans (congrArg bs ((digs_at hs4).trans (dec_small1 hs4))))), fun ac3 wd3 FF3 MM3 => then_n ?_⟩))
    refine wp_ret ?_
    repeat first | refine then_ret ?_ | refine inb_ret ?_
    exact (ret_fr FF3 0 Tryd.results89 rfl ⟨rfl, MM3.below⟩)
  · refine wp_cond_false ((FF2.ev 0 rfl).trans (dec_f hs4)) ?_
    refine wp_skip ?_
    refine then_n ?_
    refine wp_seq (rg_seq FF2 MM2 [o_, o_, o_, o_, o_, t_ (sB (decN i)), o_] [2, 0] (fun Kt => i * 2 < 9223372036854775808 ∧ i * 2 < 9223372036854775808 ∧ (i * 2) + 2 < 9223372036854775808 ∧ (i * 2) ≤ ((i * 2) + 2) ∧ ((i * 2) + 2) ≤ (bs smalls8).size ∧ Value.string ((bs smalls8).extract (i * 2) ((i * 2) + 2)) = sB (decN i) ∧ Kt [(2, sB (decN i)), (0, iN i)] []) (by kernel_rfl) (fun _ => by kernel_rfl) (⟨(by have := hi; omega), (by have := hi; omega), (by have := hi; omega), (by have := hi; omega), (by rw [bs_size, show smalls8.length = 200 from (by kernel_rfl)]; have := hi; omega), (vS2 ((bs_extract _ _ _).trans (congrArg bs ((smalls_at hi).trans (dec_small2 hs4 hi))))), fun ac4 wd4 FF4 MM4 => then_n ?_⟩))
    refine wp_ret ?_
    repeat first | refine then_ret ?_ | refine inb_ret ?_
    exact (ret_fr FF4 0 Tryd.results89 rfl ⟨rfl, MM4.below⟩)
set_option maxRecDepth 100000 in
theorem ndig_any (O : Blks) (hD : Distinct O) (hT : TabO O) (u : Nat) (h0 : u ≠ 0) (hu : u < 18446744073709551616) (w0 : World) (H : Has w0 O) :
    Calls Tryd.prog 90 #[iW u] w0 fun e w' => e = .returned (iN (dsz u)) ∧ Below w0.heap.size w0 w' := by
  refine enter_fr Tryd.func90 rfl Tryd.ntmps90 (by simp) fun ac (FF : Fr 15 ac [(0, iW u)]) => ?_
  have MM : MemS (fun k => k < w0.heap.size ∧ ∀ x ∈ O, x.1 ≠ k) w0 w0 O [] := MemS.startN H hD
  obtain ⟨hn1, hn2⟩ := ndig h0 hu
  refine wp_seq (rg_seq FF MM [o_] [0, 2] (fun Kt => Kt [(2, iN 0), (0, iW u)] O) (by kernel_rfl) (fun _ => by kernel_rfl) (fun ac1 wd1 FF1 MM1 => then_n ?_))
  refine wp_seq (rg_seq FF1 MM1 [o_, t_ (iN (bsz u)), t_ (iN (lg (bsz u))), o_] [2, 0, 3] (fun Kt => CallP Tryd.prog 55 [iW u] [] (iN (bsz u)) ∧ CallP Tryd.prog 96 [iN (bsz u)] [] (iN (lg (bsz u))) ∧ Kt [(3, iN (lg (bsz u))), (2, iN 0), (0, iW u)] O) (by kernel_rfl) (fun _ => by kernel_rfl) (⟨(callP_of en_len64 (len64_any u hu) _), (callP_of en_l10 (l10_any (bsz u) (bsz64 (show u < 18446744073709551616 from hu))) _), fun ac2 wd2 FF2 MM2 => then_n ?_⟩))
  by_cases hc : 10 ^ lg (bsz u) ≤ u
  · skip
    rw [if_pos hc] at hn1
    refine wp_seq (rg_seq FF2 MM2 [o_, o_, o_, w_ 1, f_ (iW (10 ^ lg (bsz u))), w_ 2, t_ (iN 1), t_ (iN (dsz u)), o_] [2, 0] (fun Kt => (lg (bsz u)) < 20 ∧ RunV Tryd.prog [(10, .pointer (some ⟨2, lg (bsz u), none⟩)), (9, iN (lg (bsz u))), (8, iW u), (7, iN (lg (bsz u))), (3, iN (lg (bsz u))), (2, iN 0), (0, iW u)] O (opAt Tryd.f90 2 4) (iW (10 ^ lg (bsz u))) ∧ u ≥ (10 ^ lg (bsz u)) ∧ CallP Tryd.prog 97 [.bool true] [] (iN 1) ∧ (lg (bsz u)) + 1 < 9223372036854775808 ∧ iN ((lg (bsz u)) + 1) = iN (dsz u) ∧ Kt [(2, iN (dsz u)), (0, iW u)] O) (by kernel_rfl) (fun _ => by kernel_rfl) (⟨(by omega), (rowLoad_ok (p := some ⟨2, 0, none⟩) (i := lg (bsz u)) (V := fun j => iW (10 ^ j)) (x := .tmp 10) (by kernel_rfl) rfl Tryd.underlying61 rfl hT (fun _ hx => hx) (by omega)), hc, (callP_of en_bool2 bool2_true _), (by omega), (vI hn1.symm), fun ac3 wd3 FF3 MM3 => then_n ?_⟩))
    refine wp_ret ?_
    repeat first | refine then_ret ?_ | refine inb_ret ?_
    exact (ret_fr FF3 0 Tryd.results90 rfl ⟨rfl, MM3.belowN H (fun _ hx => hx)⟩)
  · skip
    rw [if_neg hc] at hn1
    refine wp_seq (rg_seq FF2 MM2 [o_, o_, o_, w_ 1, f_ (iW (10 ^ lg (bsz u))), w_ 3, t_ (iN 0), t_ (iN (dsz u)), o_] [2, 0] (fun Kt => (lg (bsz u)) < 20 ∧ RunV Tryd.prog [(10, .pointer (some ⟨2, lg (bsz u), none⟩)), (9, iN (lg (bsz u))), (8, iW u), (7, iN (lg (bsz u))), (3, iN (lg (bsz u))), (2, iN 0), (0, iW u)] O (opAt Tryd.f90 2 4) (iW (10 ^ lg (bsz u))) ∧ ¬ (u ≥ (10 ^ lg (bsz u))) ∧ CallP Tryd.prog 97 [.bool false] [] (iN 0) ∧ (lg (bsz u)) + 0 < 9223372036854775808 ∧ iN ((lg (bsz u)) + 0) = iN (dsz u) ∧ Kt [(2, iN (dsz u)), (0, iW u)] O) (by kernel_rfl) (fun _ => by kernel_rfl) (⟨(by omega), (rowLoad_ok (p := some ⟨2, 0, none⟩) (i := lg (bsz u)) (V := fun j => iW (10 ^ j)) (x := .tmp 10) (by kernel_rfl) rfl Tryd.underlying61 rfl hT (fun _ hx => hx) (by omega)), hc, (callP_of en_bool2 bool2_false _), (by omega), (vI hn1.symm), fun ac4 wd4 FF4 MM4 => then_n ?_⟩))
    refine wp_ret ?_
    repeat first | refine then_ret ?_ | refine inb_ret ?_
    exact (ret_fr FF4 0 Tryd.results90 rfl ⟨rfl, MM4.belowN H (fun _ hx => hx)⟩)
set_option maxRecDepth 100000 in
theorem ifmt_any (O : Blks) (hD : Distinct O) (hT : TabO O) (u : Nat) (hu : u < 18446744073709551616) (w0 : World) (H : Has w0 O) :
    Calls Tryd.prog 81 #[iW u, iN 10] w0 fun e w' => e = .returned (sB (decN u)) ∧ Below w0.heap.size w0 w' := by
  refine enter_fr Tryd.func81 rfl Tryd.ntmps81 (by simp) fun ac (FF : Fr 32 ac [(0, iW u), (1, iN 10)]) => ?_
  have MM : MemS (fun k => k < w0.heap.size ∧ ∀ x ∈ O, x.1 ≠ k) w0 w0 O [] := MemS.startN H hD
  refine wp_seq (rg_seq FF MM [o_] [0, 1, 4] (fun Kt => Kt [(4, sB []), (0, iW u), (1, iN 10)] O) (by kernel_rfl) (fun _ => by kernel_rfl) (fun ac1 wd1 FF1 MM1 => then_n ?_))
  refine wp_seq ?_
  refine wp_seq (rg_seq FF1 MM1 [o_, w_ 2] [4, 0, 1, 10] (fun Kt => 10 = 10 ∧ Kt [(10, .bool true), (4, sB []), (0, iW u), (1, iN 10)] O) (by kernel_rfl) (fun _ => by kernel_rfl) (⟨(by decide), fun ac2 wd2 FF2 MM2 => then_n ?_⟩))
  refine wp_cond_true (FF2.ev 0 rfl) ?_
  refine wp_seq ?_
  refine wp_seq (rg_seq FF2 MM2 [o_, o_] [4, 0, 1, 12] (fun Kt => Kt [(12, .bool (decide (u < 100))), (4, sB []), (0, iW u), (1, iN 10)] O) (by kernel_rfl) (fun _ => by kernel_rfl) (fun ac3 wd3 FF3 MM3 => then_n ?_))
  by_cases hs12 : u < 100
  · refine wp_cond_true ((FF3.ev 0 rfl).trans (dec_t hs12)) ?_
    refine wp_seq (rg_seq FF3 MM3 [o_, w_ 1, t_ (sB (decN u)), o_] [4, 0, 1] (fun Kt => u < 9223372036854775808 ∧ CallP Tryd.prog 89 [iN u] [] (sB (decN u)) ∧ Kt [(4, sB (decN u)), (0, iW u), (1, iN 10)] O) (by kernel_rfl) (fun _ => by kernel_rfl) (⟨(by have := hu; omega), (callP_of en_small (small_any u (by omega)) _), fun ac4 wd4 FF4 MM4 => then_n ?_⟩))
    refine wp_ret ?_
    repeat first | refine then_ret ?_ | refine inb_ret ?_
    exact (ret_fr FF4 0 Tryd.results81 rfl ⟨rfl, MM4.belowN H (fun _ hx => hx)⟩)
  · refine wp_cond_false ((FF3.ev 0 rfl).trans (dec_f hs12)) ?_
    have h0 : u ≠ 0 := by omega
    have hn20 := dsz_le (n := 20) (N := u) (by omega)
    have hn24 : dsz u ≤ 24 := by omega
    have hu10 := (dsz_ok u).1
    refine wp_skip ?_
    refine then_n ?_
    refine wp_seq (rg_seq FF3 MM3 [o_] [4, 0, 1, 5] (fun Kt => ∀ ba, Kt [(5, pT ba), (4, sB []), (0, iW u), (1, iN 10)] ((ba, .cells (cn .u8 (List.replicate 24 0)) 124) :: O)) (by kernel_rfl) (fun _ => by kernel_rfl) (fun ba => fun ac5 wd5 FF5 MM5 => then_n ?_))
    refine wp_seq (rg_seq FF5 MM5 [o_, u_ 1 (iN (dsz u)), o_] [5, 4, 0, 1, 6] (fun Kt => CallP Tryd.prog 90 [iW u] ((ba, .cells (cn .u8 (List.replicate 24 0)) 124) :: O) (iN (dsz u)) ∧ Kt [(6, iN (dsz u)), (5, pT ba), (4, sB []), (0, iW u), (1, iN 10)] ((ba, .cells (cn .u8 (List.replicate 24 0)) 124) :: O)) (by kernel_rfl) (fun _ => by kernel_rfl) (⟨⟨en_ndig, fun w Hw => ndig_any O hD hT u h0 hu w (Has.tl Hw)⟩, fun ac6 wd6 FF6 MM6 => then_n ?_⟩))
    refine wp_seq (rg_seq FF6 MM6 [o_, o_, o_, c_ (.tuple #[]) [(0, .cells (cn .u8 (decK (dsz u) u ++ List.replicate (24 - (dsz u)) 0)) 124)]] [6, 5, 4, 0, 1] (fun Kt => 0 ≤ (dsz u) ∧ (dsz u) ≤ 24 ∧ 0 < 24 ∧ CallU Tryd.prog 91 [.slice (some ⟨ba, 0, none⟩) (dsz u) 24, iW u] ((ba, .cells (cn .u8 (List.replicate 24 0)) 124) :: O) (.tuple #[]) [(0, .cells (cn .u8 (decK (dsz u) u ++ List.replicate (24 - (dsz u)) 0)) 124)] ∧ Kt [(6, iN (dsz u)), (5, pT ba), (4, sB []), (0, iW u), (1, iN 10)] ((ba, .cells (cn .u8 (decK (dsz u) u ++ List.replicate (24 - (dsz u)) 0)) 124) :: O)) (by kernel_rfl) (fun _ => by kernel_rfl) (⟨(by omega), (by omega), (by decide), (fmt10_U (dsz u) u hn24 hu10 hu ba 0 _ rfl), fun ac7 wd7 FF7 MM7 => then_n ?_⟩))
    refine wp_seq (rg_seq FF7 MM7 [o_, o_, l_ 0 (sB (decN u)), o_] [6, 5, 4, 0, 1] (fun Kt => 0 ≤ (dsz u) ∧ (dsz u) ≤ 24 ∧ 0 < 24 ∧ ba = ba ∧ StrAt (cn .u8 (decK (dsz u) u ++ List.replicate (24 - (dsz u)) 0)) 0 (dsz u) (bs (decN u)) ∧ Kt [(4, sB (decN u)), (6, iN (dsz u)), (5, pT ba), (0, iW u), (1, iN 10)] ((ba, .cells (cn .u8 (decK (dsz u) u ++ List.replicate (24 - (dsz u)) 0)) 124) :: O)) (by kernel_rfl) (fun _ => by kernel_rfl) (⟨(by omega), (by omega), (by decide), rfl, (by have h5 := str_part (len := dsz u) (off := 0) (dec24 (u := u) hn24) (dec24_lt (dsz u) u (24 - dsz u)) (by omega); rw [dec24_take] at h5; rw [decN_K h0]; exact h5), fun ac8 wd8 FF8 MM8 => then_n ?_⟩))
    refine wp_ret ?_
    repeat first | refine then_ret ?_ | refine inb_ret ?_
    exact (ret_fr FF8 0 Tryd.results81 rfl ⟨rfl, MM8.belowN H (fun _ hx => List.mem_cons_of_mem _ (hx))⟩)
set_option maxRecDepth 100000 in
theorem fmtu_O (O : Blks) (hD : Distinct O) (hT : TabO O) (u : Nat) (hu : u < 18446744073709551616) (w0 : World) (H : Has w0 O) :
    Calls Tryd.prog 73 #[iW u, iN 10] w0 fun e w' => e = .returned (sB (decN u)) ∧ Below w0.heap.size w0 w' := by
  refine enter_fr Tryd.func73 rfl Tryd.ntmps73 (by simp) fun ac (FF : Fr 8 ac [(0, iW u), (1, iN 10)]) => ?_
  have MM : MemS (fun k => k < w0.heap.size ∧ ∀ x ∈ O, x.1 ≠ k) w0 w0 O [] := MemS.startN H hD
  refine wp_seq (rg_seq FF MM [o_] [0, 1, 4] (fun Kt => Kt [(4, sB []), (0, iW u), (1, iN 10)] O) (by kernel_rfl) (fun _ => by kernel_rfl) (fun ac1 wd1 FF1 MM1 => then_n ?_))
  refine wp_seq (rg_seq FF1 MM1 [o_, o_, u_ 1 (sB (decN u)), o_] [4] (fun Kt => CallP Tryd.prog 81 [iW u, iN 10] O (sB (decN u)) ∧ Kt [(4, sB (decN u))] O) (by kernel_rfl) (fun _ => by kernel_rfl) (⟨⟨en_ifmt, fun w Hw => ifmt_any O hD hT u hu w Hw⟩, fun ac2 wd2 FF2 MM2 => then_n ?_⟩))
  refine wp_ret ?_
  repeat first | refine then_ret ?_ | refine inb_ret ?_
  exact (ret_fr FF2 0 Tryd.results73 rfl ⟨rfl, MM2.belowN H (fun _ hx => hx)⟩)
theorem fmtu_any (u : Nat) (hu : u < 18446744073709551616) (w : World) (hT : TabIn w) : Calls Tryd.prog 73 #[iW u, iN 10] w fun e w' => e = .returned (sB (decN u)) ∧ Below w.heap.size w w' := by
  obtain ⟨O, h1, h2, h3⟩ := tab_O hT
  exact fmtu_O O (distinct_of h2) h3 u hu w h1
end Go.Proofs.YtlljedijldkcbaaDoor
