/- The answer of the document: keys in digits, blocks, the tag. No program in this text. -/
import Derived.Test.YtcmoohkkaibgkaaP8n
namespace Go.Proofs.Ytcmoohkkaibgkaa

/-- A row of m places, the first j of them told. -/
def genL (m : Nat) (f : Nat → Nat) (j : Nat) : List Nat := (List.range m).map fun i => if i < j then f i else 0
theorem genL_len (m : Nat) (f : Nat → Nat) (j : Nat) : (genL m f j).length = m := by simp [genL]
theorem genL_get (m : Nat) (f : Nat → Nat) (j : Nat) {i : Nat} (h : i < m) : (genL m f j).getD i 0 = if i < j then f i else 0 := by simp [genL, h]
theorem genL_zero (m : Nat) (f : Nat → Nat) : List.replicate m 0 = genL m f 0 := by
  refine ext_getD (by simp [genL]) fun i hi => ?_
  simp only [List.length_replicate] at hi
  rw [genL_get m f 0 hi, if_neg (by omega), List.getD_eq_getElem?_getD, List.getElem?_replicate, if_pos hi]; rfl
theorem genL_step (m : Nat) (f : Nat → Nat) (j : Nat) (h : j < m) {x : Nat} (hx : x = f j) : (genL m f j).set j x = genL m f (j + 1) := by
  subst hx
  refine ext_getD (by simp [genL]) fun i hi => ?_
  simp only [List.length_set, genL_len] at hi
  rw [getD_set, genL_get m f j hi, genL_get m f (j + 1) hi, genL_len]
  by_cases e : j = i
  · subst e; rw [if_pos ⟨rfl, h⟩, if_pos (by omega)]
  · rw [if_neg (by omega)]
    by_cases e2 : i < j
    · rw [if_pos e2, if_pos (by omega)]
    · rw [if_neg e2, if_neg (by omega)]
theorem genL_lt {m : Nat} {f : Nat → Nat} {B : Nat} (hB : 0 < B) (h : ∀ i, f i < B) (j i : Nat) : (genL m f j).getD i 0 < B := by
  rcases Nat.lt_or_ge i m with hi | hi
  · rw [genL_get m f j hi]; split
    · exact h i
    · exact hB
  · rw [List.getD_eq_getElem?_getD, List.getElem?_eq_none (by rw [genL_len]; exact hi)]; exact hB
/-- Of a row each place that is asked turns, up to j. -/
def mskL (L : List Nat) (q : Nat → Bool) (c j : Nat) : List Nat := (List.range 17).map fun i => if q i = true ∧ i < j then L.getD i 0 &&& c else L.getD i 0
theorem mskL_len (L : List Nat) (q : Nat → Bool) (c j : Nat) : (mskL L q c j).length = 17 := by simp [mskL]
theorem mskL_get (L : List Nat) (q : Nat → Bool) (c j : Nat) {i : Nat} (h : i < 17) : (mskL L q c j).getD i 0 = if q i = true ∧ i < j then L.getD i 0 &&& c else L.getD i 0 := by simp [mskL, h]
theorem mskL_start {L : List Nat} (hL : L.length = 17) (q : Nat → Bool) (c j : Nat) (h : ∀ i, i < j → q i = false) : mskL L q c j = L := by
  refine ext_getD (by rw [mskL_len, hL]) fun i hi => ?_
  rw [mskL_len] at hi
  rw [mskL_get L q c j hi]
  by_cases e : i < j
  · rw [if_neg (by rw [h i e]; simp)]
  · rw [if_neg (by omega)]
theorem mskL_step (L : List Nat) (q : Nat → Bool) (c j j' : Nat) (h : j < 17) (hq : q j = true) (hj : j < j') (hn : ∀ i, j < i → i < j' → q i = false) : (mskL L q c j).set j ((mskL L q c j).getD j 0 &&& c) = mskL L q c j' := by
  refine ext_getD (by simp [mskL]) fun i hi => ?_
  simp only [List.length_set, mskL_len] at hi
  rw [getD_set, mskL_get L q c j hi, mskL_get L q c j' hi, mskL_get L q c j h, mskL_len]
  by_cases e : j = i
  · subst e
    rw [if_pos (show j = j ∧ j < 17 from ⟨rfl, h⟩), if_neg (show ¬ (q j = true ∧ j < j) by omega), if_pos (show q j = true ∧ j < j' from ⟨hq, hj⟩)]
  · rw [if_neg (show ¬ (j = i ∧ j < 17) by omega)]
    by_cases e2 : q i = true ∧ i < j
    · rw [if_pos e2, if_pos (show q i = true ∧ i < j' from ⟨e2.1, by omega⟩)]
    · rw [if_neg e2]
      by_cases e3 : i < j'
      · have : q i = false := by
          rcases Nat.lt_or_ge i j with h1 | h1
          · cases hqi : q i with
            | false => rfl
            | true => exact (e2 ⟨hqi, h1⟩).elim
          · exact hn i (by omega) e3
        rw [if_neg (by rw [this]; simp)]
      · rw [if_neg (by omega)]
def q3 (i : Nat) : Bool := decide (i % 4 = 3)
def q0 (i : Nat) : Bool := decide (i % 4 = 0 ∧ i ≠ 0)
def keyL (K : List Nat) : List Nat := genL 17 (fun i => K.getD i 0) 16
def rL (K : List Nat) : List Nat := mskL (mskL (keyL K) q3 15 19) q0 252 16
theorem rL_get (K : List Nat) {i : Nat} (h : i < 16) : (rL K).getD i 0 = rB i (K.getD i 0) := by
  have hk : (keyL K).getD i 0 = K.getD i 0 := by rw [keyL, genL_get _ _ _ (by omega), if_pos h]
  rw [rL, mskL_get _ _ _ _ (by omega), mskL_get _ _ _ _ (by omega), hk, rB]
  by_cases h3 : i % 4 = 3
  · rw [if_neg (by simp [q0]; omega), if_pos (by simp [q3]; omega), if_pos h3]
  · rw [if_neg (show ¬ (q3 i = true ∧ i < 19) by simp [q3]; omega), if_neg h3]
    by_cases h0 : i % 4 = 0 ∧ i ≠ 0
    · rw [if_pos (by simp [q0]; omega), if_pos h0]
    · rw [if_neg (by simp [q0]; omega), if_neg h0]
theorem rL_top (K : List Nat) : (rL K).getD 16 0 = 0 := by
  have hk : (keyL K).getD 16 0 = 0 := by rw [keyL, genL_get _ _ _ (by omega), if_neg (by omega)]
  rw [rL, mskL_get _ _ _ _ (by omega), mskL_get _ _ _ _ (by omega), hk]
  simp
theorem rB_lt {i x : Nat} (h : x < 256) : rB i x < 256 := by
  unfold rB
  split
  · exact and_lt8 h
  · split
    · exact and_lt8 h
    · exact h
theorem rL_dig {K : List Nat} (hK : Bytes 32 K) : rL K = dig (rOf K) := by
  have hl : (rL K).length = 17 := by rw [rL, mskL_len]
  have hd := dig_of hl (fun i hi => by rw [rL_get K hi]; exact rB_lt (hK.lt i))
  have e : rL K = [rB 0 (K.getD 0 0), rB 1 (K.getD 1 0), rB 2 (K.getD 2 0), rB 3 (K.getD 3 0), rB 4 (K.getD 4 0), rB 5 (K.getD 5 0), rB 6 (K.getD 6 0), rB 7 (K.getD 7 0), rB 8 (K.getD 8 0), rB 9 (K.getD 9 0), rB 10 (K.getD 10 0), rB 11 (K.getD 11 0), rB 12 (K.getD 12 0), rB 13 (K.getD 13 0), rB 14 (K.getD 14 0), rB 15 (K.getD 15 0), 0] := by
    refine ext_getD (by rw [hl]; rfl) fun i hi => ?_
    rw [hl] at hi
    rcases Nat.lt_or_ge i 16 with h | h
    · rw [rL_get K h]
      have : i = 0 ∨ i = 1 ∨ i = 2 ∨ i = 3 ∨ i = 4 ∨ i = 5 ∨ i = 6 ∨ i = 7 ∨ i = 8 ∨ i = 9 ∨ i = 10 ∨ i = 11 ∨ i = 12 ∨ i = 13 ∨ i = 14 ∨ i = 15 := by omega
      rcases this with rfl | rfl | rfl | rfl | rfl | rfl | rfl | rfl | rfl | rfl | rfl | rfl | rfl | rfl | rfl | rfl <;> rfl
    · obtain rfl : i = 16 := by omega
      rw [rL_top]; rfl
  have e2 : leV (rL K) = rOf K := by
    rw [e]
    unfold rOf
    rw [fac0_eq hK, fac1_eq hK]
    simp only [leV]
    generalize rB 0 (K.getD 0 0) = x0
    generalize rB 1 (K.getD 1 0) = x1
    generalize rB 2 (K.getD 2 0) = x2
    generalize rB 3 (K.getD 3 0) = x3
    generalize rB 4 (K.getD 4 0) = x4
    generalize rB 5 (K.getD 5 0) = x5
    generalize rB 6 (K.getD 6 0) = x6
    generalize rB 7 (K.getD 7 0) = x7
    generalize rB 8 (K.getD 8 0) = x8
    generalize rB 9 (K.getD 9 0) = x9
    generalize rB 10 (K.getD 10 0) = x10
    generalize rB 11 (K.getD 11 0) = x11
    generalize rB 12 (K.getD 12 0) = x12
    generalize rB 13 (K.getD 13 0) = x13
    generalize rB 14 (K.getD 14 0) = x14
    generalize rB 15 (K.getD 15 0) = x15
    clear e hd hl
    omega
  rw [e2] at hd
  exact hd
theorem endL_dig {K : List Nat} (hK : Bytes 32 K) : genL 17 (fun i => K.getD (16 + i) 0) 16 = dig (sOf K) := by
  refine ext_getD (by rw [genL_len, dig_len]) fun i hi => ?_
  rw [genL_len] at hi
  rw [genL_get _ _ _ hi]
  rcases Nat.lt_or_ge i 16 with h | h
  · rw [if_pos h, dig_lo _ h]; exact sOf_byte hK i
  · obtain rfl : i = 16 := by omega
    rw [if_neg (by omega), dig_hi]
    have h1 := leV_lt (K.drop 16) (fun i => by have := hK.lt (16 + i); simpa only [List.getD_eq_getElem?_getD, List.getElem?_drop] using this)
    rw [← sOf_eq hK] at h1
    have : (K.drop 16).length = 16 := by simp [hK.len]
    rw [this] at h1
    exact (Nat.div_eq_of_lt (Nat.lt_of_lt_of_le h1 (by decide))).symm
theorem blk_dig {R : List Nat} (h : R.length ≤ 16) (hR : ∀ i, R.getD i 0 < 256) : (genL 17 (fun i => R.getD i 0) R.length).set R.length 1 = dig (numR R) := by
  have e : (genL 17 (fun i => R.getD i 0) R.length).set R.length 1 = R ++ [1] ++ List.replicate (16 - R.length) 0 := by
    refine ext_getD (by simp [genL]; omega) fun i hi => ?_
    simp only [List.length_set, genL_len] at hi
    rw [getD_set, genL_get _ _ _ hi, genL_len]
    rcases Nat.lt_trichotomy i R.length with h1 | h1 | h1
    · rw [if_neg (by omega), if_pos h1, getD_app_l _ _ _ (by simp; omega), getD_app_l _ _ _ h1]
    · subst h1
      rw [if_pos ⟨rfl, by omega⟩, getD_app_l _ _ _ (by simp), getD_app_r _ _ _ (Nat.le_refl _)]
      simp
    · rw [if_neg (by omega), if_neg (by omega), getD_app_r _ _ _ (by simp; omega), List.getD_eq_getElem?_getD, List.getElem?_replicate]
      split <;> rfl
  rw [e]
  have hl : (R ++ [1] ++ List.replicate (16 - R.length) 0).length = 17 := by simp; omega
  have hd := dig_of hl (fun i _ => by
    rcases Nat.lt_or_ge i (R.length + 1) with h1 | h1
    · rw [getD_app_l _ _ _ (by simp; omega)]
      rcases Nat.lt_or_ge i R.length with h2 | h2
      · rw [getD_app_l _ _ _ h2]; exact hR i
      · obtain rfl : i = R.length := by omega
        rw [getD_app_r _ _ _ (Nat.le_refl _)]; simp
    · rw [getD_app_r _ _ _ (by simp; omega), List.getD_eq_getElem?_getD, List.getElem?_replicate]
      split <;> decide)
  rw [hd, leV_app (R ++ [1]), leV_zeros, Nat.mul_zero, Nat.add_zero]; rfl
/-- h of the answer behind k blocks. -/
def mK (r : Nat) (T : List Nat) : Nat → Nat
  | 0 => 0
  | k + 1 => prodN (mK r T k + numR ((T.drop (16 * k)).take 16)) r
theorem blkT_lt {T : List Nat} (hT : ∀ i, T.getD i 0 < 256) (k : Nat) : ∀ i, ((T.drop (16 * k)).take 16).getD i 0 < 256 := fun i => by
  simp only [List.getD_eq_getElem?_getD, List.getElem?_take, List.getElem?_drop]
  split
  · have := hT (16 * k + i); rwa [List.getD_eq_getElem?_getD] at this
  · decide
theorem mK_lt {r : Nat} (hr : r < 21267647932558653966460912964485513216) {T : List Nat} (hT : ∀ i, T.getD i 0 < 256) : ∀ k, mK r T k < 1361129467683753853853498429727072845824
  | 0 => by show 0 < _; decide
  | k + 1 => by
    have ih := mK_lt hr hT k
    have hn := numR_lt (R := (T.drop (16 * k)).take 16) (by simp; omega) (blkT_lt hT k)
    exact prodN_lt (by omega) (by omega)
theorem mul_mod_eq {a b c p : Nat} (h : a % p = b % p) : a * c % p = b * c % p := by rw [Nat.mul_mod, h, ← Nat.mul_mod]
theorem mK_mod (r : Nat) (T : List Nat) : ∀ k, mK r T k % 1361129467683753853853498429727072845819 = hK r T k % 1361129467683753853853498429727072845819
  | 0 => rfl
  | k + 1 => by
    rw [mK, hK, prodN_mod, foldN_mod]
    refine mul_mod_eq ?_
    rw [Nat.add_mod, mK_mod r T k, ← Nat.add_mod]
theorem mAll_mod (r : Nat) (T : List Nat) (k : Nat) (h1 : T.length ≤ 16 * k) (h2 : k = 0 ∨ 16 * (k - 1) < T.length) : mK r T k % 1361129467683753853853498429727072845819 = hAll r T % 1361129467683753853853498429727072845819 := by
  rw [mK_mod]
  unfold hAll
  rw [remT_len]
  by_cases h : 0 < T.length % 16
  · rw [if_pos h]
    obtain rfl : k = T.length / 16 + 1 := by omega
    have : (T.drop (16 * (T.length / 16))).take 16 = remT T := by
      rw [remT]; exact List.take_of_length_le (by simp; omega)
    rw [hK, this]; rfl
  · rw [if_neg h]
    obtain rfl : k = T.length / 16 := by omega
    rfl
theorem settle_lo {M : Nat} (h : ¬ (M + 5) / 340282366920938463463374607431768211456 > 3) : M % 1361129467683753853853498429727072845819 = M := Nat.mod_eq_of_lt (by omega)
theorem settle_hi {M : Nat} (hM : M < 1361129467683753853853498429727072845824) (h : (M + 5) / 340282366920938463463374607431768211456 > 3) : (M + 5) % 1361129467683753853853498429727072845824 = M % 1361129467683753853853498429727072845819 := by omega
theorem out_leB (N : Nat) : genL 16 (fun i => (dig N).getD i 0 % 256) 16 = leB 16 N := by
  refine ext_getD (by rw [genL_len, leB_len]) fun i hi => ?_
  rw [genL_len] at hi
  rw [genL_get _ _ _ hi, if_pos hi, leB_get hi, dig_lo _ hi, Nat.mod_mod]
end Go.Proofs.Ytcmoohkkaibgkaa
