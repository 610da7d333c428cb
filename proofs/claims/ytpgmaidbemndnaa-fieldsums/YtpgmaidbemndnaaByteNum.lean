/- Numbers and their bytes. No program's walk in this text. -/
import Derived.Test.YtpgmaidbemndnaaW6
namespace Go.Proofs.Ytpgmaidbemndnaa

theorem bytes8 (v : Nat) (h : v < 18446744073709551616) :
    v / 256 ^ 0 % 256 * 256 ^ 0 + v / 256 ^ 1 % 256 * 256 ^ 1 + v / 256 ^ 2 % 256 * 256 ^ 2 + v / 256 ^ 3 % 256 * 256 ^ 3 + v / 256 ^ 4 % 256 * 256 ^ 4 + v / 256 ^ 5 % 256 * 256 ^ 5 + v / 256 ^ 6 % 256 * 256 ^ 6 + v / 256 ^ 7 % 256 * 256 ^ 7 = v := by
  simp only [Nat.reducePow]
  omega
theorem word_key (x q : Nat) (hq : q ≤ 3) (hw : wq x q < 18446744073709551616) : wordTo (keyL x) (8 * q) 8 = wq x q := by
  have g : ∀ k, k < 8 → (keyL x).getD (8 * q + k) 0 = wq x q / 256 ^ k % 256 := fun k hk => by
    rw [keyL_get x _ (by omega)]
    unfold kb
    rw [show (8 * q + k) / 8 = q by omega, show (8 * q + k) % 8 = k by omega]
  have e := bytes8 (wq x q) hw
  simp only [wordTo]
  rw [g 0 (by omega), g 1 (by omega), g 2 (by omega), g 3 (by omega), g 4 (by omega), g 5 (by omega), g 6 (by omega), g 7 (by omega), Nat.zero_add]
  exact e
theorem words_key (x : Nat) : wordTo (keyL x) 0 8 = w0 x ∧ wordTo (keyL x) 8 8 = w1 x ∧ wordTo (keyL x) 16 8 = w2 x ∧ wordTo (keyL x) 24 8 = w3 x :=
  ⟨word_key x 0 (by omega) (w0_lt x), word_key x 1 (by omega) (w1_lt x), word_key x 2 (by omega) (w2_lt x), word_key x 3 (by omega) (w3_lt x)⟩
theorem numOf_key (x : Nat) (hx : x < b255) : numOf (keyL x) = x := by
  obtain ⟨h0, h1, h2, h3⟩ := words_key x
  unfold numOf
  rw [h0, h1, h2, h3]
  have hh := w3_half x (by unfold b255 top4 at *; omega)
  have : x / b255 = 0 := Nat.div_eq_of_lt hx
  rw [this] at hh
  have h4 : w3 x % 9223372036854775808 = w3 x := by omega
  rw [h4]
  exact mk4_w x (by unfold b255 top4 at *; omega)
theorem keyL_inj {x y : Nat} (hx : x < b255) (hy : y < b255) (h : keyL x = keyL y) : x = y := by
  rw [← numOf_key x hx, ← numOf_key y hy, h]
theorem pN_255 : pN < b255 := by decide
theorem top_byte (x : Nat) (hx : x < pN) : kb x 31 < 128 := by
  have hh := w3_half x (Nat.lt_trans hx (by decide))
  have : x / b255 = 0 := Nat.div_eq_of_lt (Nat.lt_trans hx pN_255)
  rw [this] at hh
  simp [kb, wq]
  omega
/-- What a loop over the bytes has found below. -/
def belowTo (x : Nat) : Nat → Bool
  | 0 => decide (kb x 31 < 127) || decide (kb x 0 < 237)
  | i + 1 => belowTo x i || decide (kb x (i + 1) < 255)
theorem belowTo_false (x : Nat) : ∀ i, belowTo x i = false → 127 ≤ kb x 31 ∧ 237 ≤ kb x 0 ∧ ∀ j, 1 ≤ j → j ≤ i → 255 ≤ kb x j
  | 0, h => by
    simp [belowTo] at h
    exact ⟨h.1, h.2, fun j h1 h2 => by omega⟩
  | i + 1, h => by
    simp [belowTo] at h
    obtain ⟨a, b, c⟩ := belowTo_false x i h.1
    refine ⟨a, b, fun j h1 h2 => ?_⟩
    by_cases e : j = i + 1
    · subst e; exact h.2
    · exact c j h1 (by omega)
theorem full_8 (u : Nat) (h : u < 18446744073709551616) (c0 : 255 ≤ u % 256) (c1 : 255 ≤ u / 256 % 256) (c2 : 255 ≤ u / 65536 % 256) (c3 : 255 ≤ u / 16777216 % 256) (c4 : 255 ≤ u / 4294967296 % 256) (c5 : 255 ≤ u / 1099511627776 % 256) (c6 : 255 ≤ u / 281474976710656 % 256) (c7 : 255 ≤ u / 72057594037927936 % 256) : 18446744073709551615 ≤ u := by omega
theorem full_lo (u : Nat) (h : u < 18446744073709551616) (c0 : 237 ≤ u % 256) (c1 : 255 ≤ u / 256 % 256) (c2 : 255 ≤ u / 65536 % 256) (c3 : 255 ≤ u / 16777216 % 256) (c4 : 255 ≤ u / 4294967296 % 256) (c5 : 255 ≤ u / 1099511627776 % 256) (c6 : 255 ≤ u / 281474976710656 % 256) (c7 : 255 ≤ u / 72057594037927936 % 256) : 18446744073709551597 ≤ u := by omega
theorem full_hi (u : Nat) (h : u < 18446744073709551616) (c0 : 255 ≤ u % 256) (c1 : 255 ≤ u / 256 % 256) (c2 : 255 ≤ u / 65536 % 256) (c3 : 255 ≤ u / 16777216 % 256) (c4 : 255 ≤ u / 4294967296 % 256) (c5 : 255 ≤ u / 1099511627776 % 256) (c6 : 255 ≤ u / 281474976710656 % 256) (c7 : 127 ≤ u / 72057594037927936 % 256) : 9223372036854775807 ≤ u := by omega
theorem below_prime (x : Nat) (hx : x < pN) : belowTo x 30 = true := by
  cases hb : belowTo x 30 with
  | true => rfl
  | false =>
    exfalso
    obtain ⟨a, b, c⟩ := belowTo_false x 30 hb
    have e := mk4_w x (Nat.lt_trans hx (by decide))
    have c1 := c 1 (by omega) (by omega); have c2 := c 2 (by omega) (by omega); have c3 := c 3 (by omega) (by omega); have c4 := c 4 (by omega) (by omega); have c5 := c 5 (by omega) (by omega)
    have c6 := c 6 (by omega) (by omega); have c7 := c 7 (by omega) (by omega); have c8 := c 8 (by omega) (by omega); have c9 := c 9 (by omega) (by omega); have c10 := c 10 (by omega) (by omega)
    have c11 := c 11 (by omega) (by omega); have c12 := c 12 (by omega) (by omega); have c13 := c 13 (by omega) (by omega); have c14 := c 14 (by omega) (by omega); have c15 := c 15 (by omega) (by omega)
    have c16 := c 16 (by omega) (by omega); have c17 := c 17 (by omega) (by omega); have c18 := c 18 (by omega) (by omega); have c19 := c 19 (by omega) (by omega); have c20 := c 20 (by omega) (by omega)
    have c21 := c 21 (by omega) (by omega); have c22 := c 22 (by omega) (by omega); have c23 := c 23 (by omega) (by omega); have c24 := c 24 (by omega) (by omega); have c25 := c 25 (by omega) (by omega)
    have c26 := c 26 (by omega) (by omega); have c27 := c 27 (by omega) (by omega); have c28 := c 28 (by omega) (by omega); have c29 := c 29 (by omega) (by omega); have c30 := c 30 (by omega) (by omega)
    clear c hb
    simp [kb, wq] at a b c1 c2 c3 c4 c5 c6 c7 c8 c9 c10 c11 c12 c13 c14 c15 c16 c17 c18 c19 c20 c21 c22 c23 c24 c25 c26 c27 c28 c29 c30
    have m0 := full_lo (w0 x) (w0_lt x) b c1 c2 c3 c4 c5 c6 c7
    have m1 := full_8 (w1 x) (w1_lt x) c8 c9 c10 c11 c12 c13 c14 c15
    have m2 := full_8 (w2 x) (w2_lt x) c16 c17 c18 c19 c20 c21 c22 c23
    have m3 := full_hi (w3 x) (w3_lt x) c24 c25 c26 c27 c28 c29 c30 a
    clear c1 c2 c3 c4 c5 c6 c7 c8 c9 c10 c11 c12 c13 c14 c15 c16 c17 c18 c19 c20 c21 c22 c23 c24 c25 c26 c27 c28 c29 c30 a b
    unfold mk4 pN at *
    omega

/-- The highest bit of a key, turned. -/
def turnTop (ks : List Nat) : List Nat := ks.set 31 (ks.getD 31 0 ^^^ 128)
theorem xor_128 (b : Nat) (h : b < 256) : (b ^^^ 128) % 128 = b % 128 ∧ b ^^^ 128 < 256 := by
  refine ⟨?_, Nat.xor_lt_two_pow (n := 8) h (by decide)⟩
  have : (b ^^^ 128) % 2 ^ 7 = b % 2 ^ 7 ^^^ 128 % 2 ^ 7 := Nat.xor_mod_two_pow
  simpa using this
theorem turnTop_bytes {ks : List Nat} (h : Bytes ks) : Bytes (turnTop ks) := by
  refine ⟨by simp [turnTop, h.1], fun i => ?_⟩
  have hl := h.1
  unfold turnTop
  by_cases e : i = 31
  · subst e
    have : (ks.set 31 (ks.getD 31 0 ^^^ 128)).getD 31 0 = ks.getD 31 0 ^^^ 128 := by simp [hl]
    rw [this]
    exact (xor_128 _ (h.2 31)).2
  · have : (ks.set 31 (ks.getD 31 0 ^^^ 128)).getD i 0 = ks.getD i 0 := by
      simp [List.getElem?_set_ne (Ne.symm e)]
    rw [this]
    exact h.2 i
theorem wordTo_congr {ks ls : List Nat} (f : Nat) : ∀ k, (∀ j, j < k → ks.getD (f + j) 0 = ls.getD (f + j) 0) → wordTo ks f k = wordTo ls f k
  | 0, _ => rfl
  | k + 1, h => by
    unfold wordTo
    rw [wordTo_congr f k (fun j hj => h j (by omega)), h k (by omega)]
theorem numOf_turn {ks : List Nat} (h : Bytes ks) : numOf (turnTop ks) = numOf ks := by
  have hl := h.1
  have same : ∀ i, i ≠ 31 → (turnTop ks).getD i 0 = ks.getD i 0 := fun i hi => by
    unfold turnTop
    simp [List.getElem?_set_ne (Ne.symm hi)]
  have top : (turnTop ks).getD 31 0 = ks.getD 31 0 ^^^ 128 := by unfold turnTop; simp [hl]
  have e3 : wordTo (turnTop ks) 24 8 % 9223372036854775808 = wordTo ks 24 8 % 9223372036854775808 := by
    have a : wordTo (turnTop ks) 24 7 = wordTo ks 24 7 := wordTo_congr 24 7 (fun j hj => same _ (by omega))
    show (wordTo (turnTop ks) 24 7 + (turnTop ks).getD 31 0 * 256 ^ 7) % 9223372036854775808 = (wordTo ks 24 7 + ks.getD 31 0 * 256 ^ 7) % 9223372036854775808
    rw [a, top]
    have := (xor_128 _ (h.2 31)).1
    simp only [Nat.reducePow]
    omega
  unfold numOf
  rw [e3, wordTo_congr 0 8 (fun j hj => same _ (by omega)), wordTo_congr 8 8 (fun j hj => same _ (by omega)), wordTo_congr 16 8 (fun j hj => same _ (by omega))]

end Go.Proofs.Ytpgmaidbemndnaa
