/- Plain arithmetic under package field: numbers below 2^256 in four words of 64 bits, sums with carry, the reduction modulo 2^255 - 19. No program in this text. -/
namespace Go.Proofs.Ytpgmaidbemndnaa

def w0 (n : Nat) : Nat := n % 18446744073709551616
def w1 (n : Nat) : Nat := n / 18446744073709551616 % 18446744073709551616
def w2 (n : Nat) : Nat := n / 18446744073709551616 / 18446744073709551616 % 18446744073709551616
def w3 (n : Nat) : Nat := n / 18446744073709551616 / 18446744073709551616 / 18446744073709551616 % 18446744073709551616
def top4 : Nat := 115792089237316195423570985008687907853269984665640564039457584007913129639936
def pN : Nat := 57896044618658097711785492504343953926634992332820282019728792003956564819949
def b255 : Nat := 57896044618658097711785492504343953926634992332820282019728792003956564819968

def sumLo (x y c : Nat) : Nat := (x + y + c) % 18446744073709551616
def sumHi (x y c : Nat) : Nat := (x + y + c) / 18446744073709551616
def subLo (x y b : Nat) : Nat := (x + 18446744073709551616 - y - b) % 18446744073709551616
def subHi (x y b : Nat) : Nat := if x < y + b then 1 else 0
def maHi (n m s t : Nat) : Nat := (n * m + s + t) / 18446744073709551616
def maLo (n m s t : Nat) : Nat := (n * m + s + t) % 18446744073709551616

def mk4 (a b c d : Nat) : Nat := a + 18446744073709551616 * b + 340282366920938463463374607431768211456 * c + 6277101735386680763835789423207666416102355444464034512896 * d

theorem w0_lt (n : Nat) : w0 n < 18446744073709551616 := Nat.mod_lt _ (by decide)
theorem w1_lt (n : Nat) : w1 n < 18446744073709551616 := Nat.mod_lt _ (by decide)
theorem w2_lt (n : Nat) : w2 n < 18446744073709551616 := Nat.mod_lt _ (by decide)
theorem w3_lt (n : Nat) : w3 n < 18446744073709551616 := Nat.mod_lt _ (by decide)

/-- Four words make up their number. -/
theorem mk4_w (n : Nat) (h : n < top4) : mk4 (w0 n) (w1 n) (w2 n) (w3 n) = n := by
  unfold mk4 w0 w1 w2 w3 top4 at *; omega
theorem mk4_lt {a b c d : Nat} (ha : a < 18446744073709551616) (hb : b < 18446744073709551616) (hc : c < 18446744073709551616) (hd : d < 18446744073709551616) : mk4 a b c d < top4 := by
  unfold mk4 top4; omega
theorem w_mk4 {a b c d : Nat} (ha : a < 18446744073709551616) (hb : b < 18446744073709551616) (hc : c < 18446744073709551616) (hd : d < 18446744073709551616) :
    w0 (mk4 a b c d) = a ∧ w1 (mk4 a b c d) = b ∧ w2 (mk4 a b c d) = c ∧ w3 (mk4 a b c d) = d := by
  unfold mk4 w0 w1 w2 w3; omega

theorem sumHi_le {x y c : Nat} (hx : x < 18446744073709551616) (hy : y < 18446744073709551616) (hc : c ≤ 1) : sumHi x y c ≤ 1 := by unfold sumHi; omega
theorem sumLo_lt (x y c : Nat) : sumLo x y c < 18446744073709551616 := Nat.mod_lt _ (by decide)
theorem subLo_lt (x y c : Nat) : subLo x y c < 18446744073709551616 := Nat.mod_lt _ (by decide)
theorem maLo_lt (n m s t : Nat) : maLo n m s t < 18446744073709551616 := Nat.mod_lt _ (by decide)
theorem subHi_le (x y c : Nat) : subHi x y c ≤ 1 := by unfold subHi; split <;> omega

theorem plus_words (x y : Nat) :
    sumLo (w0 x) (w0 y) 0 = w0 (x + y) ∧ sumLo (w1 x) (w1 y) (sumHi (w0 x) (w0 y) 0) = w1 (x + y) ∧
    sumLo (w2 x) (w2 y) (sumHi (w1 x) (w1 y) (sumHi (w0 x) (w0 y) 0)) = w2 (x + y) ∧
    sumLo (w3 x) (w3 y) (sumHi (w2 x) (w2 y) (sumHi (w1 x) (w1 y) (sumHi (w0 x) (w0 y) 0))) = w3 (x + y) := by
  unfold sumLo sumHi w0 w1 w2 w3; omega

theorem opp_words (x : Nat) (h : x ≤ pN) :
    subLo 18446744073709551597 (w0 x) 0 = w0 (pN - x) ∧ subLo 18446744073709551615 (w1 x) (subHi 18446744073709551597 (w0 x) 0) = w1 (pN - x) ∧
    subLo 18446744073709551615 (w2 x) (subHi 18446744073709551615 (w1 x) (subHi 18446744073709551597 (w0 x) 0)) = w2 (pN - x) ∧
    subLo 9223372036854775807 (w3 x) (subHi 18446744073709551615 (w2 x) (subHi 18446744073709551615 (w1 x) (subHi 18446744073709551597 (w0 x) 0))) = w3 (pN - x) := by
  unfold subLo subHi w0 w1 w2 w3 pN at *
  refine ⟨by omega, ?_, ?_, ?_⟩ <;> (repeat' split) <;> omega

theorem ma_lt {n m s t : Nat} (hn : n < 18446744073709551616) (hm : m < 18446744073709551616) (hs : s < 18446744073709551616) (ht : t < 18446744073709551616) :
    n * m + s + t < 340282366920938463463374607431768211456 := by
  have : n * m ≤ 18446744073709551615 * 18446744073709551615 := Nat.mul_le_mul (by omega) (by omega)
  omega
theorem maHi_lt {n m s t : Nat} (hn : n < 18446744073709551616) (hm : m < 18446744073709551616) (hs : s < 18446744073709551616) (ht : t < 18446744073709551616) : maHi n m s t < 18446744073709551616 := by
  have := ma_lt hn hm hs ht
  unfold maHi; omega

/-- n x + s, word by word. -/
theorem times_words (n x s : Nat) (hx : x < top4) :
    maLo n (w0 x) (w0 s) 0 = w0 (n * x + s) ∧ maLo n (w1 x) (w1 s) (maHi n (w0 x) (w0 s) 0) = w1 (n * x + s) ∧
    maLo n (w2 x) (w2 s) (maHi n (w1 x) (w1 s) (maHi n (w0 x) (w0 s) 0)) = w2 (n * x + s) ∧
    maLo n (w3 x) (w3 s) (maHi n (w2 x) (w2 s) (maHi n (w1 x) (w1 s) (maHi n (w0 x) (w0 s) 0))) = w3 (n * x + s) ∧
    (s < top4 → maHi n (w3 x) (w3 s) (maHi n (w2 x) (w2 s) (maHi n (w1 x) (w1 s) (maHi n (w0 x) (w0 s) 0))) = (n * x + s) / top4) := by
  have e : n * x = n * w0 x + 18446744073709551616 * (n * w1 x) + 340282366920938463463374607431768211456 * (n * w2 x) + 6277101735386680763835789423207666416102355444464034512896 * (n * w3 x) := by
    have h := mk4_w x hx
    unfold mk4 at h
    have h2 : n * x = n * (w0 x + 18446744073709551616 * w1 x + 340282366920938463463374607431768211456 * w2 x + 6277101735386680763835789423207666416102355444464034512896 * w3 x) := by rw [h]
    rw [h2, Nat.mul_add, Nat.mul_add, Nat.mul_add, Nat.mul_left_comm, Nat.mul_left_comm n 340282366920938463463374607431768211456, Nat.mul_left_comm n 6277101735386680763835789423207666416102355444464034512896]
  rw [e]
  unfold maLo maHi
  generalize n * w0 x = a
  generalize n * w1 x = b
  generalize n * w2 x = c
  generalize n * w3 x = d
  clear e hx
  unfold w0 w1 w2 w3 top4
  refine ⟨by omega, by omega, by omega, by omega, fun _ => by omega⟩

/-- The words of a number that is cut from its lowest word on. -/
theorem shift_words (n : Nat) : w0 (n / 18446744073709551616) = w1 n ∧ w1 (n / 18446744073709551616) = w2 n ∧ w2 (n / 18446744073709551616) = w3 n := by
  unfold w0 w1 w2 w3; omega
theorem shift_top (n : Nat) (h : n < 2135987035920910082395021706169552114602704522356652769947041607822219725780640550022962086936576) : w3 (n / 18446744073709551616) = n / top4 := by
  unfold w3 top4; omega


def ov (x t : Nat) : Nat := 2 * t + w3 x / 9223372036854775808
def mid (x t : Nat) : Nat := x % b255 + 19 * ov x t
def red (x t : Nat) : Nat := (x + top4 * t) % pN

theorem ov_le {x t : Nat} (ht : t ≤ 38) : ov x t ≤ 77 := by have := w3_lt x; unfold ov; omega
theorem cut_words (x : Nat) : w0 (x % b255) = w0 x ∧ w1 (x % b255) = w1 x ∧ w2 (x % b255) = w2 x ∧ w3 (x % b255) = w3 x % 9223372036854775808 := by
  have e : b255 = 18446744073709551616 * (18446744073709551616 * (18446744073709551616 * 9223372036854775808)) := by decide
  have h1 : x % b255 % 18446744073709551616 = x % 18446744073709551616 := by rw [e]; exact Nat.mod_mul_right_mod x _ _
  have h2 : x % b255 / 18446744073709551616 = x / 18446744073709551616 % (18446744073709551616 * (18446744073709551616 * 9223372036854775808)) := by
    rw [e]; exact Nat.mod_mul_right_div_self x _ _
  unfold w0 w1 w2 w3
  rw [h2]
  generalize x / 18446744073709551616 = y
  refine ⟨h1, Nat.mod_mul_right_mod y _ _, ?_, ?_⟩
  · rw [Nat.mod_mul_right_div_self]; exact Nat.mod_mul_right_mod _ _ _
  · rw [Nat.mod_mul_right_div_self, Nat.mod_mul_right_div_self]; omega
theorem small_words (n : Nat) (h : n < 18446744073709551616) : w0 n = n ∧ w1 n = 0 ∧ w2 n = 0 ∧ w3 n = 0 := by
  unfold w0 w1 w2 w3; omega
theorem w3_half (n : Nat) (h : n < top4) : w3 n / 9223372036854775808 = n / b255 := by
  unfold w3 top4 b255 at *; omega
theorem mid_lt {x t : Nat} (ht : t ≤ 38) : mid x t < b255 + 1464 := by
  have := ov_le (x := x) ht
  have h2 : x % b255 < b255 := Nat.mod_lt _ (by decide)
  unfold mid; omega
theorem red_mid {x t : Nat} (hx : x < top4) : red x t = mid x t % pN := by
  have h2 := w3_half x hx
  have h3 : x % b255 + b255 * (x / b255) = x := Nat.mod_add_div _ _
  have e : x + top4 * t = mid x t + pN * ov x t := by
    unfold mid ov
    rw [h2]
    generalize x % b255 = r at *
    generalize x / b255 = q at *
    subst h3
    unfold top4 pN b255
    omega
  unfold red
  rw [e, Nat.add_mul_mod_self_left]
/-- The last subtraction: below p it is what came; from p on it is that less p. -/
theorem settle_lo {x t : Nat} (hx : x < top4) (ht : t ≤ 38) (h : w3 (mid x t + 19) / 9223372036854775808 = 0) : mid x t = red x t := by
  have h1 := mid_lt (x := x) ht
  rw [red_mid hx]
  rw [w3_half _ (by unfold top4 b255 at *; omega)] at h
  generalize mid x t = m at *
  unfold b255 pN at *
  omega
theorem settle_hi {x t : Nat} (hx : x < top4) (ht : t ≤ 38) (h : ¬ w3 (mid x t + 19) / 9223372036854775808 = 0) : (mid x t + 19) % b255 = red x t ∧ w3 (mid x t + 19) / 9223372036854775808 = 1 := by
  have h1 := mid_lt (x := x) ht
  rw [red_mid hx]
  rw [w3_half _ (by unfold top4 b255 at *; omega)] at *
  generalize mid x t = m at *
  unfold b255 pN at *
  omega

def S1 (x y : Nat) : Nat := w0 x * y + 0
def S2 (x y : Nat) : Nat := w1 x * y + S1 x y / 18446744073709551616
def S3 (x y : Nat) : Nat := w2 x * y + S2 x y / 18446744073709551616
def S4 (x y : Nat) : Nat := w3 x * y + S3 x y / 18446744073709551616
def lowN (x y : Nat) : Nat := mk4 (w0 (S1 x y)) (w0 (S2 x y)) (w0 (S3 x y)) (w0 (S4 x y))

theorem word_mul_le {a y : Nat} (ha : a < 18446744073709551616) (hy : y < top4) : a * y ≤ 18446744073709551615 * (top4 - 1) := Nat.mul_le_mul (by omega) (by omega)
theorem S_lt (x : Nat) {y : Nat} (hy : y < top4) : S1 x y / 18446744073709551616 < top4 ∧ S2 x y / 18446744073709551616 < top4 ∧ S3 x y / 18446744073709551616 < top4 ∧ S4 x y / 18446744073709551616 < top4 := by
  have a0 := word_mul_le (w0_lt x) hy
  have a1 := word_mul_le (w1_lt x) hy
  have a2 := word_mul_le (w2_lt x) hy
  have a3 := word_mul_le (w3_lt x) hy
  unfold S4 S3 S2 S1
  unfold top4 at *
  omega
theorem S_small (x : Nat) {y : Nat} (hy : y < top4) : S1 x y < 2135987035920910082395021706169552114602704522356652769947041607822219725780640550022962086936576 ∧ S2 x y < 2135987035920910082395021706169552114602704522356652769947041607822219725780640550022962086936576 ∧ S3 x y < 2135987035920910082395021706169552114602704522356652769947041607822219725780640550022962086936576 ∧ S4 x y < 2135987035920910082395021706169552114602704522356652769947041607822219725780640550022962086936576 := by
  have h := S_lt x hy
  unfold top4 at h
  omega
theorem lowN_lt (x y : Nat) : lowN x y < top4 := mk4_lt (w0_lt _) (w0_lt _) (w0_lt _) (w0_lt _)
theorem prod_eq (x y : Nat) (hx : x < top4) : x * y = lowN x y + top4 * (S4 x y / 18446744073709551616) := by
  have e : x * y = w0 x * y + 18446744073709551616 * (w1 x * y) + 340282366920938463463374607431768211456 * (w2 x * y) + 6277101735386680763835789423207666416102355444464034512896 * (w3 x * y) := by
    have h := mk4_w x hx
    unfold mk4 at h
    have h2 : x * y = (w0 x + 18446744073709551616 * w1 x + 340282366920938463463374607431768211456 * w2 x + 6277101735386680763835789423207666416102355444464034512896 * w3 x) * y := by rw [h]
    rw [h2, Nat.add_mul, Nat.add_mul, Nat.add_mul, Nat.mul_assoc, Nat.mul_assoc 340282366920938463463374607431768211456, Nat.mul_assoc 6277101735386680763835789423207666416102355444464034512896]
  rw [e]
  unfold lowN mk4 S4 S3 S2 S1
  generalize w0 x * y = a
  generalize w1 x * y = b
  generalize w2 x * y = c
  generalize w3 x * y = d
  unfold w0 top4
  omega
/-- The product, its upper half counted 38 times, is the product modulo p. -/
theorem prod_red (x y : Nat) (hx : x < top4) (hy : y < top4) :
    (38 * (S4 x y / 18446744073709551616) + lowN x y) / top4 ≤ 38 ∧
    red ((38 * (S4 x y / 18446744073709551616) + lowN x y) % top4) ((38 * (S4 x y / 18446744073709551616) + lowN x y) / top4) = x * y % pN := by
  have h1 := prod_eq x y hx
  have h2 := (S_lt x hy).2.2.2
  have h3 := lowN_lt x y
  rw [h1]
  generalize S4 x y / 18446744073709551616 = H at *
  generalize lowN x y = L at *
  unfold red
  clear h1 hx hy
  have e : top4 = 2 * pN + 38 := by decide
  refine ⟨by unfold top4 at *; omega, ?_⟩
  have e2 : (38 * H + L) % top4 + top4 * ((38 * H + L) / top4) = 38 * H + L := Nat.mod_add_div _ _
  rw [e2]
  have e3 : L + top4 * H = (38 * H + L) + pN * (2 * H) := by rw [e, Nat.add_mul, ← Nat.mul_assoc pN 2 H, Nat.mul_comm pN 2]; omega
  rw [e3, Nat.add_mul_mod_self_left]
theorem red_lt (x t : Nat) : red x t < pN := Nat.mod_lt _ (by decide)

end Go.Proofs.Ytpgmaidbemndnaa
