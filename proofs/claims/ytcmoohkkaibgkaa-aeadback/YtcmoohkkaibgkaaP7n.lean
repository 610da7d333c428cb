/- Keys, byte by byte; sums with a carry. No program in this text. -/
import Derived.Test.YtcmoohkkaibgkaaP4n
namespace Go.Proofs.Ytcmoohkkaibgkaa

theorem and_split (x y m n : Nat) (hx : x < 256) (hm : m < 256) : (x + y * 256) &&& (m + n * 256) = (x &&& m) + (y &&& n) * 256 := by
  have h1 := Nat.and_mod_two_pow (a := x + y * 256) (b := m + n * 256) (n := 8)
  have h2 := Nat.and_div_two_pow (a := x + y * 256) (b := m + n * 256) (n := 8)
  have e1 : (x + y * 256) % 2 ^ 8 = x := by omega
  have e2 : (m + n * 256) % 2 ^ 8 = m := by omega
  have e3 : (x + y * 256) / 2 ^ 8 = y := by omega
  have e4 : (m + n * 256) / 2 ^ 8 = n := by omega
  rw [e1, e2] at h1
  rw [e3, e4] at h2
  have := Nat.div_add_mod ((x + y * 256) &&& (m + n * 256)) 256
  omega
theorem and255 {x : Nat} (h : x < 256) : x &&& 255 = x := (Nat.and_two_pow_sub_one_eq_mod x 8).trans (Nat.mod_eq_of_lt h)
theorem and_bytes (x0 x1 x2 x3 x4 x5 x6 x7 m0 m1 m2 m3 m4 m5 m6 m7 : Nat) (h : x0 < 256 ∧ x1 < 256 ∧ x2 < 256 ∧ x3 < 256 ∧ x4 < 256 ∧ x5 < 256 ∧ x6 < 256 ∧ x7 < 256) (k : m0 < 256 ∧ m1 < 256 ∧ m2 < 256 ∧ m3 < 256 ∧ m4 < 256 ∧ m5 < 256 ∧ m6 < 256 ∧ m7 < 256) :
    (x0 + x1 * 256 + x2 * 65536 + x3 * 16777216 + x4 * 4294967296 + x5 * 1099511627776 + x6 * 281474976710656 + x7 * 72057594037927936) &&& (m0 + m1 * 256 + m2 * 65536 + m3 * 16777216 + m4 * 4294967296 + m5 * 1099511627776 + m6 * 281474976710656 + m7 * 72057594037927936) =
    (x0 &&& m0) + (x1 &&& m1) * 256 + (x2 &&& m2) * 65536 + (x3 &&& m3) * 16777216 + (x4 &&& m4) * 4294967296 + (x5 &&& m5) * 1099511627776 + (x6 &&& m6) * 281474976710656 + (x7 &&& m7) * 72057594037927936 := by
  have e : ∀ a0 a1 a2 a3 a4 a5 a6 a7 : Nat, a0 + a1 * 256 + a2 * 65536 + a3 * 16777216 + a4 * 4294967296 + a5 * 1099511627776 + a6 * 281474976710656 + a7 * 72057594037927936 = a0 + (a1 + (a2 + (a3 + (a4 + (a5 + (a6 + a7 * 256) * 256) * 256) * 256) * 256) * 256) * 256 := fun a0 a1 a2 a3 a4 a5 a6 a7 => by omega
  rw [e, e, e, and_split _ _ _ _ h.1 k.1, and_split _ _ _ _ h.2.1 k.2.1, and_split _ _ _ _ h.2.2.1 k.2.2.1, and_split _ _ _ _ h.2.2.2.1 k.2.2.2.1, and_split _ _ _ _ h.2.2.2.2.1 k.2.2.2.2.1, and_split _ _ _ _ h.2.2.2.2.2.1 k.2.2.2.2.2.1, and_split _ _ _ _ h.2.2.2.2.2.2.1 k.2.2.2.2.2.2.1]
/-- A key's byte in r. -/
def rB (i x : Nat) : Nat := if i % 4 = 3 then x &&& 15 else if i % 4 = 0 ∧ i ≠ 0 then x &&& 252 else x
theorem cut_get {K : List Nat} {off : Nat} (i : Nat) (h : i < 8) : ((K.drop off).take 8).getD i 0 = K.getD (off + i) 0 := by
  simp [h]
theorem fac0_eq {K : List Nat} (hK : Bytes 32 K) : fac0 K = rB 0 (K.getD 0 0) + rB 1 (K.getD 1 0) * 256 + rB 2 (K.getD 2 0) * 65536 + rB 3 (K.getD 3 0) * 16777216 + rB 4 (K.getD 4 0) * 4294967296 + rB 5 (K.getD 5 0) * 1099511627776 + rB 6 (K.getD 6 0) * 281474976710656 + rB 7 (K.getD 7 0) * 72057594037927936 := by
  have g : ∀ i, i < 8 → ((K.drop 0).take 8).getD i 0 = K.getD i 0 := fun i h => by rw [cut_get i h, Nat.zero_add]
  unfold fac0 le8
  rw [g 0 (by decide), g 1 (by decide), g 2 (by decide), g 3 (by decide), g 4 (by decide), g 5 (by decide), g 6 (by decide), g 7 (by decide)]
  have b := hK.lt
  have := and_bytes (K.getD 0 0) (K.getD 1 0) (K.getD 2 0) (K.getD 3 0) (K.getD 4 0) (K.getD 5 0) (K.getD 6 0) (K.getD 7 0) 255 255 255 15 252 255 255 15 ⟨b 0, b 1, b 2, b 3, b 4, b 5, b 6, b 7⟩ (by decide)
  rw [and255 (b 0), and255 (b 1), and255 (b 2), and255 (b 5), and255 (b 6)] at this
  exact this
theorem fac1_eq {K : List Nat} (hK : Bytes 32 K) : fac1 K = rB 8 (K.getD 8 0) + rB 9 (K.getD 9 0) * 256 + rB 10 (K.getD 10 0) * 65536 + rB 11 (K.getD 11 0) * 16777216 + rB 12 (K.getD 12 0) * 4294967296 + rB 13 (K.getD 13 0) * 1099511627776 + rB 14 (K.getD 14 0) * 281474976710656 + rB 15 (K.getD 15 0) * 72057594037927936 := by
  have g : ∀ i, i < 8 → ((K.drop 8).take 8).getD i 0 = K.getD (8 + i) 0 := fun i h => by rw [cut_get i h]
  unfold fac1 le8
  rw [g 0 (by decide), g 1 (by decide), g 2 (by decide), g 3 (by decide), g 4 (by decide), g 5 (by decide), g 6 (by decide), g 7 (by decide)]
  have b := hK.lt
  have := and_bytes (K.getD 8 0) (K.getD 9 0) (K.getD 10 0) (K.getD 11 0) (K.getD 12 0) (K.getD 13 0) (K.getD 14 0) (K.getD 15 0) 252 255 255 15 252 255 255 15 ⟨b 8, b 9, b 10, b 11, b 12, b 13, b 14, b 15⟩ (by decide)
  rw [and255 (b 9), and255 (b 10), and255 (b 13), and255 (b 14)] at this
  exact this
theorem rOf_of {K K' : List Nat} (hK : Bytes 32 K) (hK' : Bytes 32 K') (h : ∀ i, i < 16 → rB i (K'.getD i 0) = rB i (K.getD i 0)) : rOf K' = rOf K := by
  unfold rOf
  rw [fac0_eq hK, fac0_eq hK', fac1_eq hK, fac1_eq hK']
  rw [h 0 (by decide), h 1 (by decide), h 2 (by decide), h 3 (by decide), h 4 (by decide), h 5 (by decide), h 6 (by decide), h 7 (by decide), h 8 (by decide), h 9 (by decide), h 10 (by decide), h 11 (by decide), h 12 (by decide), h 13 (by decide), h 14 (by decide), h 15 (by decide)]
theorem sOf_eq {K : List Nat} (hK : Bytes 32 K) : sOf K = leV (K.drop 16) := by
  unfold sOf
  have l1 : ((K.drop 16).take 8).length = 8 := by simp [hK.len]
  have l2 : ((K.drop 24).take 8).length = 8 := by simp [hK.len]
  rw [le8_leV _ l1, le8_leV _ l2]
  have : K.drop 16 = (K.drop 16).take 8 ++ (K.drop 24).take 8 := by
    rw [show K.drop 24 = (K.drop 16).drop 8 by simp]
    rw [List.take_of_length_le (l := (K.drop 16).drop 8) (by simp [hK.len]), List.take_append_drop]
  conv => rhs; rw [this, leV_app, l1]
  omega
theorem sOf_of {K K' : List Nat} (hK : Bytes 32 K) (hK' : Bytes 32 K') (h : ∀ i, 16 ≤ i → i < 32 → K'.getD i 0 = K.getD i 0) : sOf K' = sOf K := by
  rw [sOf_eq hK, sOf_eq hK']
  congr 1
  refine ext_getD (by simp [hK.len, hK'.len]) fun i hi => ?_
  simp [hK'.len] at hi
  have := h (16 + i) (by omega) (by omega)
  simpa only [List.getD_eq_getElem?_getD, List.getElem?_drop] using this
theorem leV_div : ∀ (A : List Nat), (∀ i, A.getD i 0 < 256) → ∀ i, leV A / 256 ^ i % 256 = A.getD i 0
  | [], _, i => by simp [leV]
  | x :: r, h, 0 => by have := h 0; simp at this; simp [leV]; omega
  | x :: r, h, i + 1 => by
    have h0 := h 0
    simp at h0
    have ih := leV_div r (fun i => by have := h (i + 1); simpa using this) i
    have : (x + 256 * leV r) / 256 ^ (i + 1) = leV r / 256 ^ i := by
      rw [Nat.pow_succ', ← Nat.div_div_eq_div_mul]
      congr 1
      omega
    simp only [leV, this, ih]
    simp
theorem sOf_byte {K : List Nat} (hK : Bytes 32 K) (i : Nat) : K.getD (16 + i) 0 = sOf K / 256 ^ i % 256 := by
  rw [sOf_eq hK, leV_div _ (fun i => by have := hK.lt (16 + i); simpa only [List.getD_eq_getElem?_getD, List.getElem?_drop] using this)]
  simp only [List.getD_eq_getElem?_getD, List.getElem?_drop]
/-! ### Bits that do not count -/
def bitsA (K O : List Nat) (j : Nat) : List Nat := (List.range 32).map fun i => if i % 4 = 3 ∧ i < 4 * j then (K.getD i 0 &&& 15) ||| (O.getD i 0 &&& 240) else K.getD i 0
theorem bitsA_len (K O : List Nat) (j : Nat) : (bitsA K O j).length = 32 := by simp [bitsA]
theorem bitsA_get (K O : List Nat) (j : Nat) {i : Nat} (h : i < 32) : (bitsA K O j).getD i 0 = if i % 4 = 3 ∧ i < 4 * j then (K.getD i 0 &&& 15) ||| (O.getD i 0 &&& 240) else K.getD i 0 := by simp [bitsA, h]
theorem bitsA_zero {K : List Nat} (O : List Nat) (hK : K.length = 32) : bitsA K O 0 = K := by
  refine ext_getD (by simp [bitsA, hK]) fun i hi => ?_
  rw [bitsA_len] at hi
  rw [bitsA_get K O 0 hi, if_neg (by omega)]
theorem bitsA_step (K O : List Nat) (j : Nat) (h : j < 4) : (bitsA K O j).set (4 * j + 3) (((bitsA K O j).getD (4 * j + 3) 0 &&& 15) ||| (O.getD (4 * j + 3) 0 &&& 240)) = bitsA K O (j + 1) := by
  refine ext_getD (by simp [bitsA]) fun i hi => ?_
  simp only [List.length_set, bitsA_len] at hi
  rw [getD_set, bitsA_get K O j hi, bitsA_get K O (j + 1) hi, bitsA_get K O j (by omega), bitsA_len]
  by_cases e : 4 * j + 3 = i
  · subst e
    rw [if_pos (show 4 * j + 3 = 4 * j + 3 ∧ 4 * j + 3 < 32 from ⟨rfl, by omega⟩), if_neg (show ¬ ((4 * j + 3) % 4 = 3 ∧ 4 * j + 3 < 4 * j) by omega), if_pos (show (4 * j + 3) % 4 = 3 ∧ 4 * j + 3 < 4 * (j + 1) by omega)]
  · rw [if_neg (by omega)]
    by_cases e2 : i % 4 = 3 ∧ i < 4 * j
    · rw [if_pos e2, if_pos (by omega)]
    · rw [if_neg e2, if_neg (by omega)]
def bitsB (K O : List Nat) (j : Nat) : List Nat := (List.range 32).map fun i => if i % 4 = 0 ∧ 0 < i ∧ i < 4 * j then (K.getD i 0 &&& 252) ||| (O.getD i 0 &&& 3) else K.getD i 0
theorem bitsB_len (K O : List Nat) (j : Nat) : (bitsB K O j).length = 32 := by simp [bitsB]
theorem bitsB_get (K O : List Nat) (j : Nat) {i : Nat} (h : i < 32) : (bitsB K O j).getD i 0 = if i % 4 = 0 ∧ 0 < i ∧ i < 4 * j then (K.getD i 0 &&& 252) ||| (O.getD i 0 &&& 3) else K.getD i 0 := by simp [bitsB, h]
theorem bitsB_zero {K : List Nat} (O : List Nat) (hK : K.length = 32) : bitsB K O 1 = K := by
  refine ext_getD (by simp [bitsB, hK]) fun i hi => ?_
  rw [bitsB_len] at hi
  rw [bitsB_get K O 1 hi, if_neg (by omega)]
theorem bitsB_step (K O : List Nat) (j : Nat) (h0 : 0 < j) (h : j < 4) : (bitsB K O j).set (4 * j) (((bitsB K O j).getD (4 * j) 0 &&& 252) ||| (O.getD (4 * j) 0 &&& 3)) = bitsB K O (j + 1) := by
  refine ext_getD (by simp [bitsB]) fun i hi => ?_
  simp only [List.length_set, bitsB_len] at hi
  rw [getD_set, bitsB_get K O j hi, bitsB_get K O (j + 1) hi, bitsB_get K O j (by omega), bitsB_len]
  by_cases e : 4 * j = i
  · subst e
    rw [if_pos (show 4 * j = 4 * j ∧ 4 * j < 32 from ⟨rfl, by omega⟩), if_neg (show ¬ (4 * j % 4 = 0 ∧ 0 < 4 * j ∧ 4 * j < 4 * j) by omega), if_pos (show 4 * j % 4 = 0 ∧ 0 < 4 * j ∧ 4 * j < 4 * (j + 1) by omega)]
  · rw [if_neg (by omega)]
    by_cases e2 : i % 4 = 0 ∧ 0 < i ∧ i < 4 * j
    · rw [if_pos e2, if_pos (by omega)]
    · rw [if_neg e2, if_neg (by omega)]
theorem or_lt8 {a b : Nat} (ha : a < 256) (hb : b < 256) : a ||| b < 256 := Nat.or_lt_two_pow (n := 8) ha hb
theorem and_lt8 {a b : Nat} (ha : a < 256) : a &&& b < 256 := Nat.lt_of_le_of_lt Nat.and_le_left ha
theorem bitsA_bytes {K O : List Nat} (hK : Bytes 32 K) (hO : Bytes 32 O) (j : Nat) : Bytes 32 (bitsA K O j) := ⟨bitsA_len K O j, fun i => by
  rcases Nat.lt_or_ge i 32 with h | h
  · rw [bitsA_get K O j h]
    split
    · exact or_lt8 (and_lt8 (hK.lt i)) (and_lt8 (hO.lt i))
    · exact hK.lt i
  · rw [List.getD_eq_getElem?_getD, List.getElem?_eq_none (by rw [bitsA_len]; exact h)]; decide⟩
theorem bitsB_bytes {K O : List Nat} (hK : Bytes 32 K) (hO : Bytes 32 O) (j : Nat) : Bytes 32 (bitsB K O j) := ⟨bitsB_len K O j, fun i => by
  rcases Nat.lt_or_ge i 32 with h | h
  · rw [bitsB_get K O j h]
    split
    · exact or_lt8 (and_lt8 (hK.lt i)) (and_lt8 (hO.lt i))
    · exact hK.lt i
  · rw [List.getD_eq_getElem?_getD, List.getElem?_eq_none (by rw [bitsB_len]; exact h)]; decide⟩
theorem mask_lo (a b : Nat) : ((a &&& 15) ||| (b &&& 240)) &&& 15 = a &&& 15 := by
  rw [Nat.and_or_distrib_right, Nat.and_assoc, Nat.and_assoc]; simp
theorem mask_hi (a b : Nat) : ((a &&& 252) ||| (b &&& 3)) &&& 252 = a &&& 252 := by
  rw [Nat.and_or_distrib_right, Nat.and_assoc, Nat.and_assoc]; simp
theorem poly_bits {K O : List Nat} (hK : Bytes 32 K) (hO : Bytes 32 O) (T : List Nat) : polyN (bitsB (bitsA K O 4) O 4) T = polyN K T := by
  have hA := bitsA_bytes hK hO 4
  have hB := bitsB_bytes hA hO 4
  have e1 : rOf (bitsB (bitsA K O 4) O 4) = rOf K := rOf_of hK hB fun i hi => by
    rw [bitsB_get _ O 4 (by omega), bitsA_get K O 4 (by omega)]
    unfold rB
    by_cases h3 : i % 4 = 3
    · rw [if_pos h3, if_pos h3, if_neg (by omega), if_pos ⟨h3, by omega⟩, mask_lo]
    · rw [if_neg h3, if_neg h3, if_neg (show ¬ (i % 4 = 3 ∧ i < 4 * 4) by omega)]
      by_cases h0 : i % 4 = 0 ∧ i ≠ 0
      · rw [if_pos h0, if_pos h0, if_pos (by omega), mask_hi]
      · rw [if_neg h0, if_neg h0, if_neg (by omega)]
  have e2 : sOf (bitsB (bitsA K O 4) O 4) = sOf K := sOf_of hK hB fun i h1 h2 => by
    rw [bitsB_get _ O 4 h2, bitsA_get K O 4 h2, if_neg (by omega), if_neg (by omega)]
  unfold polyN
  rw [e1, e2]
/-! ### The last half -/
def endZ (K : List Nat) (j : Nat) : List Nat := (List.range 32).map fun i => if 16 ≤ i ∧ i < j then 0 else K.getD i 0
theorem endZ_len (K : List Nat) (j : Nat) : (endZ K j).length = 32 := by simp [endZ]
theorem endZ_get (K : List Nat) (j : Nat) {i : Nat} (h : i < 32) : (endZ K j).getD i 0 = if 16 ≤ i ∧ i < j then 0 else K.getD i 0 := by simp [endZ, h]
theorem endZ_zero {K : List Nat} (hK : K.length = 32) : endZ K 16 = K := by
  refine ext_getD (by simp [endZ, hK]) fun i hi => ?_
  rw [endZ_len] at hi
  rw [endZ_get K 16 hi, if_neg (by omega)]
theorem endZ_step (K : List Nat) (j : Nat) (h : 16 ≤ j) (h2 : j < 32) : (endZ K j).set j 0 = endZ K (j + 1) := by
  refine ext_getD (by simp [endZ]) fun i hi => ?_
  simp only [List.length_set, endZ_len] at hi
  rw [getD_set, endZ_get K j hi, endZ_get K (j + 1) hi, endZ_len]
  by_cases e : j = i
  · subst e; rw [if_pos (by omega), if_pos (by omega)]
  · rw [if_neg (by omega)]
    by_cases e2 : 16 ≤ i ∧ i < j
    · rw [if_pos e2, if_pos (by omega)]
    · rw [if_neg e2, if_neg (by omega)]
theorem endZ_bytes {K : List Nat} (hK : Bytes 32 K) (j : Nat) : Bytes 32 (endZ K j) := ⟨endZ_len K j, fun i => by
  rcases Nat.lt_or_ge i 32 with h | h
  · rw [endZ_get K j h]
    split
    · decide
    · exact hK.lt i
  · rw [List.getD_eq_getElem?_getD, List.getElem?_eq_none (by rw [endZ_len]; exact h)]; decide⟩
theorem poly_endZ {K : List Nat} (hK : Bytes 32 K) (T : List Nat) : polyN (endZ K 32) T = leB 16 (hAll (rOf K) T % 1361129467683753853853498429727072845819) := by
  have hZ := endZ_bytes hK 32
  have e1 : rOf (endZ K 32) = rOf K := rOf_of hK hZ fun i hi => by rw [endZ_get K 32 (by omega), if_neg (by omega)]
  have e2 : sOf (endZ K 32) = 0 := by
    rw [sOf_eq hZ]
    have : (endZ K 32).drop 16 = List.replicate 16 0 := by
      refine ext_getD (by simp [endZ]) fun i hi => ?_
      simp [endZ] at hi
      have := endZ_get K 32 (i := 16 + i) (by omega)
      rw [if_pos (by omega)] at this
      simp only [List.getD_eq_getElem?_getD, List.getElem?_drop] at this ⊢
      rw [this, List.getElem?_replicate, if_pos (by omega)]; rfl
    rw [this, leV_zeros]
  unfold polyN
  rw [e1, e2, Nat.add_zero, tagTo_all]
theorem poly_leB (K T : List Nat) : polyN K T = leB 16 (hAll (rOf K) T % 1361129467683753853853498429727072845819 + sOf K) := by unfold polyN; rw [tagTo_all]
/-- Two numbers are added, byte by byte: what is there behind j bytes, what is carried. -/
def addTo (A B j : Nat) : List Nat := (List.range 16).map fun i => if i < j then (A + B) / 256 ^ i % 256 else A / 256 ^ i % 256
def carB (A B j : Nat) : Nat := (A % 256 ^ j + B % 256 ^ j) / 256 ^ j
theorem addTo_len (A B j : Nat) : (addTo A B j).length = 16 := by simp [addTo]
theorem addTo_get (A B j : Nat) {i : Nat} (h : i < 16) : (addTo A B j).getD i 0 = if i < j then (A + B) / 256 ^ i % 256 else A / 256 ^ i % 256 := by simp [addTo, h]
theorem addTo_lt (A B j i : Nat) : (addTo A B j).getD i 0 < 256 := by
  rcases Nat.lt_or_ge i 16 with h | h
  · rw [addTo_get A B j h]; split <;> exact Nat.mod_lt _ (by decide)
  · rw [List.getD_eq_getElem?_getD, List.getElem?_eq_none (by rw [addTo_len]; exact h)]; decide
theorem addTo_zero (A B : Nat) : addTo A B 0 = leB 16 A := by
  refine ext_getD (by simp [addTo, leB]) fun i hi => ?_
  rw [addTo_len] at hi
  rw [addTo_get A B 0 hi, leB_get hi, if_neg (by omega)]
theorem addTo_all (A B : Nat) : addTo A B 16 = leB 16 (A + B) := by
  refine ext_getD (by simp [addTo, leB]) fun i hi => ?_
  rw [addTo_len] at hi
  rw [addTo_get A B 16 hi, leB_get hi, if_pos hi]
theorem sum_div (A B p : Nat) (hp : 0 < p) : (A + B) / p = A / p + B / p + (A % p + B % p) / p := by
  have h1 := Nat.div_add_mod A p
  have h2 := Nat.div_add_mod B p
  have : A + B = (A % p + B % p) + p * (A / p + B / p) := by rw [Nat.mul_add]; omega
  rw [this, Nat.add_mul_div_left _ _ hp]; omega
theorem car_digit (A B j : Nat) : (carB A B j + (A / 256 ^ j % 256 + B / 256 ^ j % 256)) % 256 = (A + B) / 256 ^ j % 256 := by
  rw [sum_div A B (256 ^ j) (Nat.pow_pos (by decide))]
  unfold carB
  omega
theorem car_step (A B j : Nat) : (carB A B j + (A / 256 ^ j % 256 + B / 256 ^ j % 256)) / 256 = carB A B (j + 1) := by
  have e : ∀ X : Nat, X % 256 ^ (j + 1) = X % 256 ^ j + 256 ^ j * (X / 256 ^ j % 256) := fun X => by
    rw [Nat.pow_succ, Nat.mod_mul]
  unfold carB
  rw [e A, e B, Nat.pow_succ, ← Nat.div_div_eq_div_mul]
  congr 1
  have : A % 256 ^ j + 256 ^ j * (A / 256 ^ j % 256) + (B % 256 ^ j + 256 ^ j * (B / 256 ^ j % 256)) = (A % 256 ^ j + B % 256 ^ j) + 256 ^ j * (A / 256 ^ j % 256 + B / 256 ^ j % 256) := by rw [Nat.mul_add]; omega
  rw [this, Nat.add_mul_div_left _ _ (Nat.pow_pos (by decide))]
theorem car_zero (A B : Nat) : carB A B 0 = 0 := by simp [carB, Nat.mod_one]
theorem car_lt (A B j : Nat) : carB A B j < 2 := by
  unfold carB
  have h1 := Nat.mod_lt A (show 256 ^ j > 0 from Nat.pow_pos (by decide))
  have h2 := Nat.mod_lt B (show 256 ^ j > 0 from Nat.pow_pos (by decide))
  exact Nat.div_lt_of_lt_mul (by omega)
theorem addTo_step (A B j : Nat) (h : j < 16) : (addTo A B j).set j ((carB A B j + (A / 256 ^ j % 256 + B / 256 ^ j % 256)) % 256) = addTo A B (j + 1) := by
  rw [car_digit]
  refine ext_getD (by simp [addTo]) fun i hi => ?_
  simp only [List.length_set, addTo_len] at hi
  rw [getD_set, addTo_get A B j hi, addTo_get A B (j + 1) hi, addTo_len]
  by_cases e : j = i
  · subst e; rw [if_pos (by omega), if_pos (by omega)]
  · rw [if_neg (by omega)]
    by_cases e2 : i < j
    · rw [if_pos e2, if_pos (by omega)]
    · rw [if_neg e2, if_neg (by omega)]
end Go.Proofs.Ytcmoohkkaibgkaa
