/- Numbers of Poly1305: words, products, what is beyond 2^130. No program in this text. -/
import Derived.Test.YtcmoohkkaibgkaaLst
namespace Go.Proofs.Ytcmoohkkaibgkaa

theorem or_shl (k : Nat) {a b : Nat} (h : a < 2 ^ k) : a ||| b * 2 ^ k = a + b * 2 ^ k := by
  have := Nat.shiftLeft_add_eq_or_of_lt h b
  rw [Nat.shiftLeft_eq] at this
  rw [Nat.or_comm, ← this, Nat.add_comm]
def le8 (X : List Nat) : Nat := X.getD 0 0 + X.getD 1 0 * 256 + X.getD 2 0 * 65536 + X.getD 3 0 * 16777216 + X.getD 4 0 * 4294967296 + X.getD 5 0 * 1099511627776 + X.getD 6 0 * 281474976710656 + X.getD 7 0 * 72057594037927936
theorem le8_lt (X : List Nat) (hX : ∀ i, X.getD i 0 < 256) : le8 X < 18446744073709551616 := by
  have h0 := hX 0; have h1 := hX 1; have h2 := hX 2; have h3 := hX 3; have h4 := hX 4; have h5 := hX 5; have h6 := hX 6; have h7 := hX 7
  unfold le8; omega
/-! ### Products of words -/
theorem mul32 {x y : Nat} (hx : x < 4294967296) (hy : y < 4294967296) : x * y ≤ 18446744065119617025 := by
  have := Nat.mul_le_mul (Nat.le_of_lt_succ hx) (Nat.le_of_lt_succ hy)
  omega
theorem mul64_eq (x y : Nat) : x * y = x / 4294967296 * (y / 4294967296) * 18446744073709551616 + (x / 4294967296 * (y % 4294967296) + x % 4294967296 * (y / 4294967296)) * 4294967296 + x % 4294967296 * (y % 4294967296) := by
  have hx := Nat.div_add_mod x 4294967296
  have hy := Nat.div_add_mod y 4294967296
  generalize x / 4294967296 = a at *
  generalize x % 4294967296 = b at *
  generalize y / 4294967296 = c at *
  generalize y % 4294967296 = d at *
  rw [← hx, ← hy]
  grind
theorem mul64_hi {x y : Nat} (hx : x < 18446744073709551616) (hy : y < 18446744073709551616) :
    x / 4294967296 * (y / 4294967296) + (x / 4294967296 * (y % 4294967296) + x % 4294967296 * (y % 4294967296) / 4294967296) / 4294967296 + ((x / 4294967296 * (y % 4294967296) + x % 4294967296 * (y % 4294967296) / 4294967296) % 4294967296 + x % 4294967296 * (y / 4294967296)) / 4294967296 = x * y / 18446744073709551616 ∧
    x * y / 18446744073709551616 < 18446744073709551616 := by
  have e := mul64_eq x y
  have h1 := mul32 (x := x / 4294967296) (y := y / 4294967296) (by omega) (by omega)
  have h2 := mul32 (x := x / 4294967296) (y := y % 4294967296) (by omega) (by omega)
  have h3 := mul32 (x := x % 4294967296) (y := y / 4294967296) (by omega) (by omega)
  have h4 := mul32 (x := x % 4294967296) (y := y % 4294967296) (by omega) (by omega)
  rw [e]
  generalize x / 4294967296 * (y / 4294967296) = p at *
  generalize x / 4294967296 * (y % 4294967296) = q at *
  generalize x % 4294967296 * (y / 4294967296) = r at *
  generalize x % 4294967296 * (y % 4294967296) = s at *
  clear e hx hy
  constructor <;> omega
theorem mul64_le {x y : Nat} (hx : x < 18446744073709551616) (hy : y < 18446744073709551616) : x * y ≤ 340282366920938463426481119284349108225 := by
  have := Nat.mul_le_mul (Nat.le_of_lt_succ hx) (Nat.le_of_lt_succ hy)
  omega
/-- What is beyond 2^130 comes back 5 times. -/
def foldN (N : Nat) : Nat := N % 1361129467683753853853498429727072845824 + 5 * (N / 1361129467683753853853498429727072845824)
theorem times_words (p00 p01 p02 p10 p11 p12 : Nat) (h00 : p00 ≤ 21267647932558653966460912964485513216) (h01 : p01 ≤ 21267647932558653966460912964485513216) (h10 : p10 ≤ 21267647932558653966460912964485513216) (h11 : p11 ≤ 21267647932558653966460912964485513216) (h02 : p02 ≤ 6917529027641081856) (h12 : p12 ≤ 6917529027641081856) :
    p02 + (p01 + p00 / 18446744073709551616) / 18446744073709551616 < 18446744073709551616 ∧ p12 + (p11 + (p02 + (p01 + p00 / 18446744073709551616) / 18446744073709551616) + ((p10 + ((p01 + p00 / 18446744073709551616) % 18446744073709551616)) / 18446744073709551616)) / 18446744073709551616 < 9223372036854775808 ∧
    p00 % 18446744073709551616 + (p10 + ((p01 + p00 / 18446744073709551616) % 18446744073709551616)) % 18446744073709551616 * 18446744073709551616 + (p11 + (p02 + (p01 + p00 / 18446744073709551616) / 18446744073709551616) + ((p10 + ((p01 + p00 / 18446744073709551616) % 18446744073709551616)) / 18446744073709551616)) % 18446744073709551616 * 340282366920938463463374607431768211456 + (p12 + (p11 + (p02 + (p01 + p00 / 18446744073709551616) / 18446744073709551616) + ((p10 + ((p01 + p00 / 18446744073709551616) % 18446744073709551616)) / 18446744073709551616)) / 18446744073709551616) * 6277101735386680763835789423207666416102355444464034512896 = p00 + (p01 + p10) * 18446744073709551616 + (p02 + p11) * 340282366920938463463374607431768211456 + p12 * 6277101735386680763835789423207666416102355444464034512896 := by
  refine ⟨?_, ?_, ?_⟩ <;> omega
theorem fold_words (a b c d : Nat) (ha : a < 18446744073709551616) (hb : b < 18446744073709551616) (hc : c < 18446744073709551616) (hd : d < 9223372036854775808) :
    (5 * (c / 4 + d % 4 * 4611686018427387904) + a) % 18446744073709551616 = foldN (a + b * 18446744073709551616 + c * 340282366920938463463374607431768211456 + d * 6277101735386680763835789423207666416102355444464034512896) % 18446744073709551616 ∧
    (5 * (d / 4) + b + (5 * (c / 4 + d % 4 * 4611686018427387904) + a) / 18446744073709551616) % 18446744073709551616 = foldN (a + b * 18446744073709551616 + c * 340282366920938463463374607431768211456 + d * 6277101735386680763835789423207666416102355444464034512896) / 18446744073709551616 % 18446744073709551616 ∧
    c % 4 + (5 * (d / 4) + b + (5 * (c / 4 + d % 4 * 4611686018427387904) + a) / 18446744073709551616) / 18446744073709551616 = foldN (a + b * 18446744073709551616 + c * 340282366920938463463374607431768211456 + d * 6277101735386680763835789423207666416102355444464034512896) / 340282366920938463463374607431768211456 % 18446744073709551616 := by
  have e : foldN (a + b * 18446744073709551616 + c * 340282366920938463463374607431768211456 + d * 6277101735386680763835789423207666416102355444464034512896) = a + b * 18446744073709551616 + c % 4 * 340282366920938463463374607431768211456 + 5 * (c / 4 + d * 4611686018427387904) := by unfold foldN; omega
  rw [e]
  have e2 : a + b * 18446744073709551616 + c % 4 * 340282366920938463463374607431768211456 + 5 * (c / 4 + d * 4611686018427387904) = (5 * (c / 4 + d % 4 * 4611686018427387904) + a) % 18446744073709551616 + ((5 * (d / 4) + b + (5 * (c / 4 + d % 4 * 4611686018427387904) + a) / 18446744073709551616) % 18446744073709551616) * 18446744073709551616 + (c % 4 + (5 * (d / 4) + b + (5 * (c / 4 + d % 4 * 4611686018427387904) + a) / 18446744073709551616) / 18446744073709551616) * 340282366920938463463374607431768211456 := by omega
  rw [e2]
  have h1 : (5 * (c / 4 + d % 4 * 4611686018427387904) + a) % 18446744073709551616 < 18446744073709551616 := Nat.mod_lt _ (by decide)
  have h2 : (5 * (d / 4) + b + (5 * (c / 4 + d % 4 * 4611686018427387904) + a) / 18446744073709551616) % 18446744073709551616 < 18446744073709551616 := Nat.mod_lt _ (by decide)
  have h3 : c % 4 + (5 * (d / 4) + b + (5 * (c / 4 + d % 4 * 4611686018427387904) + a) / 18446744073709551616) / 18446744073709551616 < 18446744073709551616 := by omega
  generalize (5 * (c / 4 + d % 4 * 4611686018427387904) + a) % 18446744073709551616 = x at *
  generalize (5 * (d / 4) + b + (5 * (c / 4 + d % 4 * 4611686018427387904) + a) / 18446744073709551616) % 18446744073709551616 = y at *
  generalize c % 4 + (5 * (d / 4) + b + (5 * (c / 4 + d % 4 * 4611686018427387904) + a) / 18446744073709551616) / 18446744073709551616 = z at *
  clear e e2
  refine ⟨?_, ?_, ?_⟩ <;> omega
/-- Three words of a number. -/
theorem plus_words (x0 x1 x2 y0 y1 y2 : Nat) (M N : Nat) (h0 : x0 = M % 18446744073709551616) (h1 : x1 = M / 18446744073709551616 % 18446744073709551616) (h2 : x2 = M / 340282366920938463463374607431768211456 % 18446744073709551616) (k0 : y0 = N % 18446744073709551616) (k1 : y1 = N / 18446744073709551616 % 18446744073709551616) (k2 : y2 = N / 340282366920938463463374607431768211456 % 18446744073709551616) :
    (x0 + y0) % 18446744073709551616 = (M + N) % 18446744073709551616 ∧ (x1 + y1 + (x0 + y0) / 18446744073709551616) % 18446744073709551616 = (M + N) / 18446744073709551616 % 18446744073709551616 ∧ (x2 + y2 + (x1 + y1 + (x0 + y0) / 18446744073709551616) / 18446744073709551616) % 18446744073709551616 = (M + N) / 340282366920938463463374607431768211456 % 18446744073709551616 := by
  have e : ∀ n : Nat, n / 340282366920938463463374607431768211456 = n / 18446744073709551616 / 18446744073709551616 := fun n => by rw [Nat.div_div_eq_div_mul]
  rw [e] at h2 k2 ⊢
  refine ⟨by omega, by omega, by omega⟩
theorem ch0 (x z : Nat) : x ^^^ (0 &&& z) = x := by simp
theorem ch1 {x y : Nat} (hx : x < 18446744073709551616) (hy : y < 18446744073709551616) : x ^^^ (18446744073709551615 &&& (x ^^^ y)) = y := by
  have h : x ^^^ y < 2 ^ 64 := Nat.xor_lt_two_pow hx hy
  have e : 18446744073709551615 &&& (x ^^^ y) = x ^^^ y := by
    rw [Nat.and_comm]
    exact (Nat.and_two_pow_sub_one_eq_mod _ 64).trans (Nat.mod_eq_of_lt h)
  rw [e, ← Nat.xor_assoc, Nat.xor_self, Nat.zero_xor]
theorem xor64 {x y : Nat} (hx : x < 18446744073709551616) (hy : y < 18446744073709551616) : x ^^^ y < 18446744073709551616 := Nat.xor_lt_two_pow (n := 64) hx hy
theorem and64 {x y : Nat} (hx : x < 18446744073709551616) : x &&& y < 18446744073709551616 := Nat.lt_of_le_of_lt Nat.and_le_left hx
/-- Bytes of a number, the lowest first. -/
def leB (n N : Nat) : List Nat := (List.range n).map fun j => N / 256 ^ j % 256
theorem leB_len (n N : Nat) : (leB n N).length = n := by simp [leB]
theorem leB_lt (n N i : Nat) : (leB n N).getD i 0 < 256 := by
  rw [List.getD_eq_getElem?_getD]
  cases h : (leB n N)[i]? with
  | none => decide
  | some x =>
    obtain ⟨j, _, rfl⟩ := List.mem_map.1 (List.mem_of_getElem? h)
    exact Nat.mod_lt _ (by decide)
theorem leB_get {n N i : Nat} (h : i < n) : (leB n N).getD i 0 = N / 256 ^ i % 256 := by simp [leB, h]
def tagTo (N i : Nat) : List Nat := (List.range 16).map fun j => if j % 8 < i then N / 256 ^ j % 256 else 0
theorem tagTo_len (N i : Nat) : (tagTo N i).length = 16 := by simp [tagTo]
theorem tagTo_get (N i : Nat) {j : Nat} (h : j < 16) : (tagTo N i).getD j 0 = if j % 8 < i then N / 256 ^ j % 256 else 0 := by simp [tagTo, h]
theorem tagTo_zero (N : Nat) : List.replicate 16 0 = tagTo N 0 := by
  refine ext_getD (by simp [tagTo]) fun i hi => ?_
  simp only [List.length_replicate] at hi
  rw [tagTo_get N 0 hi, if_neg (by omega), List.getD_eq_getElem?_getD, List.getElem?_replicate, if_pos hi]
  rfl
theorem tagTo_all (N : Nat) : tagTo N 8 = leB 16 N := by
  refine ext_getD (by simp [tagTo, leB]) fun i hi => ?_
  rw [tagTo_len] at hi
  rw [tagTo_get N 8 hi, leB_get hi, if_pos (by omega)]
theorem byte_lo (N i : Nat) (h : i < 8) : N % 18446744073709551616 / 2 ^ (8 * i) % 256 = N / 256 ^ i % 256 := by
  have : i = 0 ∨ i = 1 ∨ i = 2 ∨ i = 3 ∨ i = 4 ∨ i = 5 ∨ i = 6 ∨ i = 7 := by omega
  rcases this with rfl | rfl | rfl | rfl | rfl | rfl | rfl | rfl <;> simp <;> omega
theorem byte_hi (N i : Nat) (h : i < 8) : N / 18446744073709551616 % 18446744073709551616 / 2 ^ (8 * i) % 256 = N / 256 ^ (i + 8) % 256 := by
  rw [byte_lo _ i h, Nat.div_div_eq_div_mul, Nat.pow_add, Nat.mul_comm (256 ^ i)]
theorem tagTo_step (N i : Nat) (h : i < 8) : ((tagTo N i).set i (N % 18446744073709551616 / 2 ^ (8 * i) % 256)).set (i + 8) (N / 18446744073709551616 % 18446744073709551616 / 2 ^ (8 * i) % 256) = tagTo N (i + 1) := by
  rw [byte_lo N i h, byte_hi N i h]
  refine ext_getD (by simp [tagTo]) fun j hj => ?_
  simp only [List.length_set, tagTo_len] at hj
  rw [getD_set, getD_set, tagTo_get N i hj, tagTo_get N (i + 1) hj]
  simp only [List.length_set, tagTo_len]
  by_cases e : i + 8 = j
  · subst e; rw [if_pos (by omega), if_pos (by omega)]
  · rw [if_neg (by omega)]
    by_cases e2 : i = j
    · subst e2; rw [if_pos (by omega), if_pos (by omega)]
    · rw [if_neg (by omega)]
      by_cases e3 : j % 8 < i
      · rw [if_pos e3, if_pos (by omega)]
      · rw [if_neg e3, if_neg (by omega)]
end Go.Proofs.Ytcmoohkkaibgkaa
