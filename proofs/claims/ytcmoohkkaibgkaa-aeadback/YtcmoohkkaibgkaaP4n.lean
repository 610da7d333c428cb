/- A text in blocks: the numbers of Poly1305. No program in this text. -/
import Derived.Test.YtcmoohkkaibgkaaP0
namespace Go.Proofs.Ytcmoohkkaibgkaa

/-- The number of bytes, the lowest first. -/
def leV : List Nat → Nat
  | [] => 0
  | x :: r => x + 256 * leV r
theorem leV_app : ∀ (A B : List Nat), leV (A ++ B) = leV A + 256 ^ A.length * leV B
  | [], B => by simp [leV]
  | x :: r, B => by simp only [List.cons_append, leV, leV_app r B, List.length_cons, Nat.pow_succ]; grind
theorem leV_zeros (n : Nat) : leV (List.replicate n 0) = 0 := by
  induction n with
  | zero => rfl
  | succ n ih => rw [List.replicate_succ, leV, ih]
theorem leV_lt : ∀ (A : List Nat), (∀ i, A.getD i 0 < 256) → leV A < 256 ^ A.length
  | [], _ => by simp [leV]
  | x :: r, h => by
    have h0 := h 0
    have ih := leV_lt r (fun i => by have := h (i + 1); simpa using this)
    simp at h0
    simp only [leV, List.length_cons, Nat.pow_succ]
    omega
theorem le8_leV (A : List Nat) (h : A.length = 8) : le8 A = leV A := by
  match A, h with
  | [a, b, c, d, e, f, g, i], _ => simp [le8, leV]; omega
/-- A block's number: its bytes and a byte 1 behind them. -/
def numR (R : List Nat) : Nat := leV (R ++ [1])
def padR (R : List Nat) : List Nat := R ++ List.replicate (17 - R.length) 0
theorem padR_len {R : List Nat} (h : R.length ≤ 16) : (padR R).length = 17 := by simp [padR]; omega
theorem padR_lt {R : List Nat} (h : ∀ i, R.getD i 0 < 256) : ∀ i, (padR R).getD i 0 < 256 := pad_lt R h _
theorem padR_set {R : List Nat} (h : R.length ≤ 16) : (padR R).set R.length 1 = R ++ [1] ++ List.replicate (16 - R.length) 0 := by
  have : 17 - R.length = (16 - R.length) + 1 := by omega
  rw [padR, this, List.replicate_succ, List.set_append_right _ _ (Nat.le_refl _), Nat.sub_self, List.set_cons_zero]
  simp
theorem num_words {R : List Nat} (h : R.length ≤ 16) (hR : ∀ i, R.getD i 0 < 256) :
    le8 ((((padR R).set R.length 1).drop 0).take 8) = numR R % 18446744073709551616 ∧
    le8 ((((padR R).set R.length 1).drop 8).take 8) = numR R / 18446744073709551616 % 18446744073709551616 ∧
    ((padR R).set R.length 1).getD 16 0 = numR R / 340282366920938463463374607431768211456 % 18446744073709551616 := by
  have hY : ((padR R).set R.length 1).length = 17 := by rw [List.length_set, padR_len h]
  have hb : ∀ i, ((padR R).set R.length 1).getD i 0 < 256 := fun i => by
    rw [getD_set]
    split
    · decide
    · exact padR_lt hR i
  have hV : leV ((padR R).set R.length 1) = numR R := by
    rw [padR_set h, leV_app (R ++ [1]), leV_zeros, Nat.mul_zero, Nat.add_zero]; rfl
  generalize (padR R).set R.length 1 = Y at *
  have l1 : (Y.take 8).length = 8 := by simp; omega
  have l2 : ((Y.drop 8).take 8).length = 8 := by simp; omega
  have s1 : Y = Y.take 8 ++ ((Y.drop 8).take 8 ++ Y.drop 16) := by
    rw [← List.append_assoc]
    have : Y.take 8 ++ (Y.drop 8).take 8 = Y.take 16 := by rw [← List.take_add]
    rw [this, List.take_append_drop]
  have e3 : leV (Y.drop 16) = Y.getD 16 0 := by
    have : Y.drop 16 = [Y.getD 16 0] := by
      refine List.ext_getElem (by simp; omega) fun i h1 h2 => ?_
      simp at h2
      subst h2
      simp [hY]
    rw [this]; simp [leV]
  have hv : numR R = leV (Y.take 8) + 18446744073709551616 * (leV ((Y.drop 8).take 8) + 18446744073709551616 * Y.getD 16 0) := by
    rw [← hV]
    conv => lhs; rw [s1]
    rw [leV_app, leV_app, l1, l2, e3]
  have b1 : leV (Y.take 8) < 18446744073709551616 := by
    have := leV_lt (Y.take 8) (fun i => by have := cut_lt Y hb 8 0 i; simpa using this)
    rwa [l1] at this
  have b2 : leV ((Y.drop 8).take 8) < 18446744073709551616 := by
    have := leV_lt ((Y.drop 8).take 8) (fun i => by
      simp only [List.getD_eq_getElem?_getD, List.getElem?_take, List.getElem?_drop]
      split
      · have := hb (8 + i); rwa [List.getD_eq_getElem?_getD] at this
      · decide)
    rwa [l2] at this
  have b3 := hb 16
  rw [List.drop_zero, le8_leV _ l1, le8_leV _ l2, hv]
  generalize leV (Y.take 8) = a at *
  generalize leV ((Y.drop 8).take 8) = b at *
  generalize Y.getD 16 0 = c at *
  clear hv hV s1
  refine ⟨by omega, by omega, by omega⟩
theorem numR_lt {R : List Nat} (h : R.length ≤ 16) (hR : ∀ i, R.getD i 0 < 256) : numR R < 680564733841876926926749214863536422912 := by
  unfold numR
  rw [leV_app]
  have h1 := leV_lt R hR
  have h2 : 256 ^ R.length ≤ 256 ^ 16 := Nat.pow_le_pow_right (by decide) h
  simp only [leV]
  omega
/-! ### Texts -/
/-- h behind k blocks of 16 bytes. -/
def hK (r : Nat) (T : List Nat) : Nat → Nat
  | 0 => 0
  | k + 1 => foldN ((hK r T k + numR ((T.drop (16 * k)).take 16)) * r)
def remT (T : List Nat) : List Nat := T.drop (16 * (T.length / 16))
def hT (r : Nat) (T : List Nat) : Nat := hK r T (T.length / 16)
def hAll (r : Nat) (T : List Nat) : Nat := if 0 < (remT T).length then foldN ((hT r T + numR (remT T)) * r) else hT r T
theorem remT_len (T : List Nat) : (remT T).length = T.length % 16 := by simp [remT]; omega
theorem remT_lt {T : List Nat} (h : ∀ i, T.getD i 0 < 256) (i : Nat) : (remT T).getD i 0 < 256 := by
  simp only [remT, List.getD_eq_getElem?_getD, List.getElem?_drop]
  have := h (16 * (T.length / 16) + i); rwa [List.getD_eq_getElem?_getD] at this
theorem hK_app (r : Nat) (T Z : List Nat) : ∀ k, 16 * k ≤ T.length → hK r (T ++ Z) k = hK r T k
  | 0, _ => rfl
  | k + 1, h => by
    have : ((T ++ Z).drop (16 * k)).take 16 = (T.drop (16 * k)).take 16 := by
      rw [List.drop_append_of_le_length (by omega), List.take_append_of_le_length (by simp; omega)]
    rw [hK, hK, this, hK_app r T Z k (by omega)]
theorem foldN_lt {x r : Nat} (hx : x < 2381976568446569244243622252022377480192) (hr : r < 21267647932558653966460912964485513216) : foldN (x * r) < 1701411834604692317316873037158841057280 := by
  have : x * r ≤ 2381976568446569244243622252022377480192 * 21267647932558653966460912964485513216 := Nat.mul_le_mul (Nat.le_of_lt hx) (Nat.le_of_lt hr)
  unfold foldN
  omega
theorem hK_lt {r : Nat} (hr : r < 21267647932558653966460912964485513216) {T : List Nat} (hT : ∀ i, T.getD i 0 < 256) : ∀ k, hK r T k < 1701411834604692317316873037158841057280
  | 0 => by show 0 < _; decide
  | k + 1 => by
    have ih := hK_lt hr hT k
    have hn := numR_lt (R := (T.drop (16 * k)).take 16) (by simp; omega) (fun i => by
      simp only [List.getD_eq_getElem?_getD, List.getElem?_take, List.getElem?_drop]
      split
      · have := hT (16 * k + i); rwa [List.getD_eq_getElem?_getD] at this
      · decide)
    exact foldN_lt (by omega) hr
/-- A piece more: within a block. -/
theorem step_in (r : Nat) (T Z : List Nat) (h : (remT T ++ Z).length < 16) : hT r (T ++ Z) = hT r T ∧ remT (T ++ Z) = remT T ++ Z := by
  rw [List.length_append, remT_len] at h
  have e : (T ++ Z).length / 16 = T.length / 16 := by rw [List.length_append]; omega
  refine ⟨by rw [hT, e, hK_app r T Z _ (by omega)]; rfl, ?_⟩
  rw [remT, e, List.drop_append_of_le_length (by omega)]; rfl
/-- A piece more: a block is full. -/
theorem step_full (r : Nat) (T Z : List Nat) (h : (remT T ++ Z).length = 16) : hT r (T ++ Z) = foldN ((hT r T + numR (remT T ++ Z)) * r) ∧ remT (T ++ Z) = [] := by
  rw [List.length_append, remT_len] at h
  have e : (T ++ Z).length / 16 = T.length / 16 + 1 := by rw [List.length_append]; omega
  refine ⟨?_, ?_⟩
  · rw [hT, e, hK, hK_app r T Z _ (by omega)]
    have : ((T ++ Z).drop (16 * (T.length / 16))).take 16 = remT T ++ Z := by
      rw [List.drop_append_of_le_length (by omega)]
      exact List.take_of_length_le (by rw [List.length_append]; change (remT T).length + _ ≤ 16; rw [remT_len]; omega)
    rw [this]; rfl
  · rw [remT, e]
    exact List.drop_eq_nil_of_le (by rw [List.length_append]; omega)
def fac0 (K : List Nat) : Nat := le8 ((K.drop 0).take 8) &&& 1152921487695413247
def fac1 (K : List Nat) : Nat := le8 ((K.drop 8).take 8) &&& 1152921487695413244
def rOf (K : List Nat) : Nat := fac0 K + fac1 K * 18446744073709551616
def sOf (K : List Nat) : Nat := le8 ((K.drop 16).take 8) + le8 ((K.drop 24).take 8) * 18446744073709551616
theorem fac0_lt (K : List Nat) : fac0 K < 1152921504606846976 := Nat.lt_of_le_of_lt Nat.and_le_right (by decide)
theorem fac1_lt (K : List Nat) : fac1 K < 1152921504606846976 := Nat.lt_of_le_of_lt Nat.and_le_right (by decide)
theorem rOf_lt (K : List Nat) : rOf K < 21267647932558653966460912964485513216 := by
  have := fac0_lt K; have := fac1_lt K; unfold rOf; omega
theorem hAll_lt {K T : List Nat} (hT' : ∀ i, T.getD i 0 < 256) : hAll (rOf K) T < 2722258935367507707706996859454145691638 := by
  unfold hAll
  have h1 := hK_lt (rOf_lt K) hT' (T.length / 16)
  split
  · have hn := numR_lt (R := remT T) (by rw [remT_len]; omega) (remT_lt hT')
    have := foldN_lt (x := hT (rOf K) T + numR (remT T)) (by unfold hT; omega) (rOf_lt K)
    omega
  · unfold hT; omega
/-- The tag. -/
def polyN (K T : List Nat) : List Nat := tagTo (hAll (rOf K) T % 1361129467683753853853498429727072845819 + sOf K) 8
end Go.Proofs.Ytcmoohkkaibgkaa
