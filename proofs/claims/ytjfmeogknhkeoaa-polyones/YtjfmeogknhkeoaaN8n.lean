/- Numbers as the fewest bytes, the lowest first. No program in this text. -/
import Derived.Test.YtjfmeogknhkeoaaP7n
namespace Go.Proofs.Ytjfmeogknhkeoaa

/-- How many bytes a number has. -/
def szT (N : Nat) : Nat → Nat
  | 0 => 0
  | k + 1 => if N < 256 ^ k then szT N k else k + 1
def sz (N : Nat) : Nat := szT N N
theorem szT_ok (N : Nat) : ∀ k, N < 256 ^ k → N < 256 ^ szT N k ∧ (szT N k = 0 ∨ 256 ^ (szT N k - 1) ≤ N)
  | 0, h => ⟨h, .inl rfl⟩
  | k + 1, h => by
    unfold szT
    split
    · rename_i h1; exact szT_ok N k h1
    · rename_i h1; exact ⟨h, .inr (Nat.le_of_not_lt h1)⟩
theorem sz_ok (N : Nat) : N < 256 ^ sz N ∧ (sz N = 0 ∨ 256 ^ (sz N - 1) ≤ N) := szT_ok N N (Nat.lt_pow_self (by decide))
theorem pw_le {m n : Nat} (h : m ≤ n) : 256 ^ m ≤ 256 ^ n := Nat.pow_le_pow_right (by decide) h
theorem pw_pos (n : Nat) : 0 < 256 ^ n := Nat.pow_pos (by decide)
theorem sz_le {N n : Nat} (h : N < 256 ^ n) : sz N ≤ n := by
  rcases (sz_ok N).2 with b | b
  · omega
  · rcases Nat.lt_or_ge n (sz N) with c | c
    · have := pw_le (show n ≤ sz N - 1 by omega); omega
    · exact c
theorem sz_of {N n : Nat} (h : N < 256 ^ n) (h2 : n = 0 ∨ 256 ^ (n - 1) ≤ N) : n = sz N := by
  have h1 := sz_le h
  rcases h2 with h2 | h2
  · omega
  · rcases Nat.lt_or_ge (sz N) n with c | c
    · have := pw_le (show sz N ≤ n - 1 by omega)
      have := (sz_ok N).1
      omega
    · omega
theorem sz_mono {M N : Nat} (h : M ≤ N) : sz M ≤ sz N := sz_le (Nat.lt_of_le_of_lt h (sz_ok N).1)
theorem lt_sz {N n : Nat} (h : sz N ≤ n) : N < 256 ^ n := Nat.lt_of_lt_of_le (sz_ok N).1 (pw_le h)
/-- The fewest bytes. -/
def minB (N : Nat) : List Nat := leB (sz N) N
theorem minB_len (N : Nat) : (minB N).length = sz N := leB_len _ _
theorem minB_lt (N i : Nat) : (minB N).getD i 0 < 256 := leB_lt _ _ _
theorem minB_get (N i : Nat) : (minB N).getD i 0 = N / 256 ^ i % 256 := by
  rcases Nat.lt_or_ge i (sz N) with h | h
  · exact leB_get h
  · rw [List.getD_eq_getElem?_getD, List.getElem?_eq_none (by rw [minB_len]; exact h), Nat.div_eq_of_lt (lt_sz h)]; rfl
theorem leB_succ (n N : Nat) : leB (n + 1) N = leB n N ++ [N / 256 ^ n % 256] := by simp [leB, List.range_succ]
theorem leV_leB (n N : Nat) : leV (leB n N) = N % 256 ^ n := by
  induction n with
  | zero => simp [leB, leV, Nat.mod_one]
  | succ n ih => rw [leB_succ, leV_app, ih, leB_len, Nat.pow_succ, Nat.mod_mul]; simp [leV]
theorem leV_none {A : List Nat} (h : ∀ i, A.getD i 0 = 0) : leV A = 0 := by
  induction A with
  | nil => rfl
  | cons x r ih =>
    have h0 := h 0
    simp at h0
    rw [leV, ih (fun i => by have := h (i + 1); simpa using this), h0]
/-- Noughts at the end are cut off. -/
theorem trim_ok {X : List Nat} (hX : ∀ i, X.getD i 0 < 256) {n : Nat} (hn : n ≤ X.length) (h0 : ∀ i, n ≤ i → X.getD i 0 = 0) (h1 : n = 0 ∨ X.getD (n - 1) 0 ≠ 0) : X.take n = minB (leV X) := by
  have e : leV X = leV (X.take n) := by
    conv => lhs; rw [← List.take_append_drop n X]
    rw [leV_app, leV_none (A := X.drop n) (fun i => by have := h0 (n + i) (by omega); simpa only [List.getD_eq_getElem?_getD, List.getElem?_drop] using this), Nat.mul_zero, Nat.add_zero]
  have l : (X.take n).length = n := by simp; omega
  have hlt : leV X < 256 ^ n := by
    rw [e]
    have := leV_lt (X.take n) (fun i => by
      rw [List.getD_eq_getElem?_getD, List.getElem?_take]
      split
      · have := hX i; rwa [List.getD_eq_getElem?_getD] at this
      · decide)
    rwa [l] at this
  have hs : n = sz (leV X) := sz_of hlt (h1.imp id fun h => Nat.le_of_not_lt fun hc => h (by rw [← leV_div X hX, Nat.div_eq_of_lt hc]))
  unfold minB
  rw [← hs]
  refine ext_getD (by rw [l, leB_len]) fun i hi => ?_
  rw [l] at hi
  rw [leB_get hi, leV_div X hX, List.getD_eq_getElem?_getD, List.getElem?_take, if_pos hi, List.getD_eq_getElem?_getD]
/-! ### Sums -/
theorem add_end {M N i : Nat} (h1 : sz M ≤ i) (h2 : sz N ≤ i) (h3 : carB M N i = 0) : M + N < 256 ^ i := by
  unfold carB at h3
  rw [Nat.mod_eq_of_lt (lt_sz h1), Nat.mod_eq_of_lt (lt_sz h2)] at h3
  rcases Nat.lt_or_ge (M + N) (256 ^ i) with h | h
  · exact h
  · have := Nat.div_pos h (pw_pos i); omega
theorem add_val {M N i : Nat} (h : M + N < 256 ^ i) : leV (leB i (M + N)) = M + N := by rw [leV_leB, Nat.mod_eq_of_lt h]
theorem car_more {M N i : Nat} (h : carB M N i > 0) : i ≤ sz M + sz N := by
  rcases Nat.lt_or_ge (sz M + sz N) i with c | c
  · exfalso
    have h1 := lt_sz (N := M) (n := i - 1) (by omega)
    have h2 := lt_sz (N := N) (n := i - 1) (by omega)
    have h3 : 256 ^ i = 256 ^ (i - 1) * 256 := by rw [← Nat.pow_succ]; congr 1; omega
    have : carB M N i = 0 := by
      unfold carB
      rw [Nat.mod_eq_of_lt (show M < 256 ^ i by omega), Nat.mod_eq_of_lt (show N < 256 ^ i by omega)]
      exact Nat.div_eq_of_lt (by omega)
    omega
  · exact c
/-! ### Differences -/
def borN (M N i : Nat) : Nat := if M % 256 ^ i < N % 256 ^ i then 1 else 0
theorem bor_zero (M N : Nat) : borN M N 0 = 0 := by simp [borN, Nat.mod_one]
theorem bor_lt (M N i : Nat) : borN M N i < 2 := by unfold borN; split <;> decide
theorem sub_core {M N B : Nat} (hB : 0 < B) (h : N ≤ M) : (M - N) / B = M / B - N / B - (if M % B < N % B then 1 else 0) ∧ N / B + (if M % B < N % B then 1 else 0) ≤ M / B := by
  have h1 := Nat.div_add_mod M B
  have h2 := Nat.div_add_mod N B
  have b1 := Nat.mod_lt M hB
  have b2 := Nat.mod_lt N hB
  have hd : N / B ≤ M / B := Nat.div_le_div_right h
  generalize M / B = m at *
  generalize N / B = n at *
  generalize M % B = r at *
  generalize N % B = s at *
  split
  · rename_i hlt
    have hne : n < m := by
      rcases Nat.lt_or_ge n m with c | c
      · exact c
      · obtain rfl : n = m := by omega
        omega
    obtain ⟨q, rfl⟩ := Nat.exists_eq_add_of_lt hne
    have e : M - N = (r + B - s) + B * q := by
      have : B * (n + q + 1) = B * n + B * q + B := by rw [Nat.mul_add, Nat.mul_add, Nat.mul_one]
      omega
    refine ⟨?_, by omega⟩
    rw [e, Nat.add_mul_div_left _ _ hB, Nat.div_eq_of_lt (by omega)]
    omega
  · obtain ⟨q, rfl⟩ := Nat.exists_eq_add_of_le hd
    have e : M - N = (r - s) + B * q := by
      have : B * (n + q) = B * n + B * q := Nat.mul_add _ _ _
      omega
    refine ⟨?_, by omega⟩
    rw [e, Nat.add_mul_div_left _ _ hB, Nat.div_eq_of_lt (by omega)]
    omega
theorem bor_step (M N i : Nat) : borN M N (i + 1) = if M / 256 ^ i % 256 < N / 256 ^ i % 256 + borN M N i then 1 else 0 := by
  have e : ∀ X : Nat, X % 256 ^ (i + 1) = X % 256 ^ i + 256 ^ i * (X / 256 ^ i % 256) := fun X => by
    rw [Nat.pow_succ, Nat.mod_mul]
  unfold borN
  rw [e M, e N]
  have b1 := Nat.mod_lt M (pw_pos i)
  have b2 := Nat.mod_lt N (pw_pos i)
  generalize M / 256 ^ i % 256 = a
  generalize N / 256 ^ i % 256 = b
  generalize M % 256 ^ i = r at *
  generalize N % 256 ^ i = s at *
  generalize 256 ^ i = B at *
  rcases Nat.lt_trichotomy a b with c | c | c
  · obtain ⟨q, rfl⟩ := Nat.exists_eq_add_of_lt c
    have : B * (a + q + 1) = B * a + B * q + B := by rw [Nat.mul_add, Nat.mul_add, Nat.mul_one]
    rw [if_pos (show r + B * a < s + B * (a + q + 1) by omega), if_pos (by omega)]
  · subst c
    by_cases h : r < s
    · rw [if_pos (show r + B * a < s + B * a by omega), if_pos h, if_pos (by omega)]
    · rw [if_neg (show ¬ r + B * a < s + B * a by omega), if_neg h, if_neg (by omega)]
  · obtain ⟨q, rfl⟩ := Nat.exists_eq_add_of_lt c
    have : B * (b + q + 1) = B * b + B * q + B := by rw [Nat.mul_add, Nat.mul_add, Nat.mul_one]
    rw [if_neg (show ¬ r + B * (b + q + 1) < s + B * b by omega), if_neg (by split <;> omega)]
theorem sub_neg {M N i : Nat} (hle : N ≤ M) (h : M / 256 ^ i % 256 < N / 256 ^ i % 256 + borN M N i) : (M - N) / 256 ^ i % 256 + (N / 256 ^ i % 256 + borN M N i) = M / 256 ^ i % 256 + 256 ∧ borN M N (i + 1) = 1 := by
  refine ⟨?_, by rw [bor_step, if_pos h]⟩
  obtain ⟨e, e2⟩ := sub_core (pw_pos i) hle
  have e' : (M - N) / 256 ^ i = M / 256 ^ i - N / 256 ^ i - borN M N i := e
  have e2' : N / 256 ^ i + borN M N i ≤ M / 256 ^ i := e2
  have := bor_lt M N i
  rw [e']
  generalize M / 256 ^ i = m at *
  generalize N / 256 ^ i = n at *
  generalize borN M N i = b at *
  clear e e' e2 hle
  omega
theorem sub_pos {M N i : Nat} (hle : N ≤ M) (h : ¬ M / 256 ^ i % 256 < N / 256 ^ i % 256 + borN M N i) : (M - N) / 256 ^ i % 256 + (N / 256 ^ i % 256 + borN M N i) = M / 256 ^ i % 256 ∧ borN M N (i + 1) = 0 := by
  refine ⟨?_, by rw [bor_step, if_neg h]⟩
  obtain ⟨e, e2⟩ := sub_core (pw_pos i) hle
  have e' : (M - N) / 256 ^ i = M / 256 ^ i - N / 256 ^ i - borN M N i := e
  have e2' : N / 256 ^ i + borN M N i ≤ M / 256 ^ i := e2
  have := bor_lt M N i
  rw [e']
  generalize M / 256 ^ i = m at *
  generalize N / 256 ^ i = n at *
  generalize borN M N i = b at *
  clear e e' e2 hle
  omega
def subN (M N : Nat) : List Nat := if N ≤ M then minB (M - N) else []
/-! ### Which is more -/
def cmpN (M N : Nat) : Int := if M < N then -1 else if M = N then 0 else 1
theorem cmp_neg (M N : Nat) : cmpN M N < 0 ↔ M < N := by unfold cmpN; split <;> (try split) <;> simp_all
theorem cmp_len {M N : Nat} (h : sz M < sz N) : M < N := Nat.lt_of_not_le fun h2 => by have := sz_mono h2; omega
theorem div_step (M i : Nat) : M / 256 ^ i = 256 * (M / 256 ^ (i + 1)) + M / 256 ^ i % 256 := by
  rw [Nat.pow_succ, ← Nat.div_div_eq_div_mul]; omega
theorem cmp_lt {M N i : Nat} (h : M / 256 ^ (i + 1) = N / 256 ^ (i + 1)) (h2 : M / 256 ^ i % 256 < N / 256 ^ i % 256) : M < N := by
  have h1 : M / 256 ^ i < N / 256 ^ i := by rw [div_step M i, div_step N i, h]; omega
  exact Nat.lt_of_not_le fun h3 => by have := Nat.div_le_div_right (c := 256 ^ i) h3; omega
theorem cmp_eq {M N i : Nat} (h : M / 256 ^ (i + 1) = N / 256 ^ (i + 1)) (h2 : M / 256 ^ i % 256 = N / 256 ^ i % 256) : M / 256 ^ i = N / 256 ^ i := by
  rw [div_step M i, div_step N i, h, h2]
theorem cmp_top {M N : Nat} (h : sz M = sz N) : M / 256 ^ sz M = N / 256 ^ sz M := by
  rw [Nat.div_eq_of_lt (sz_ok M).1, Nat.div_eq_of_lt (by rw [h]; exact (sz_ok N).1)]
theorem pad_leB {N n k : Nat} (hk : n ≤ k) : ((minB N ++ List.replicate k 0).take n) = leB n N := by
  refine ext_getD (by simp [minB_len, leB_len]; omega) fun i hi => ?_
  have hi' : i < n := by simp at hi; omega
  rw [leB_get hi', ← minB_get N i, List.getD_eq_getElem?_getD, List.getElem?_take, if_pos hi', List.getD_eq_getElem?_getD]
  rcases Nat.lt_or_ge i (minB N).length with c | c
  · rw [List.getElem?_append_left c]
  · rw [List.getElem?_append_right c, List.getElem?_eq_none c, List.getElem?_replicate]
    split <;> rfl
end Go.Proofs.Ytjfmeogknhkeoaa
