/- Inverses modulo 2^255 - 19: the power p - 2. No program in this text but for the loop's own recursion. -/
import Derived.Test.YtfciodbgjljjhaaPrime
import Derived.Test.YtfciodbgjljjhaaW4
namespace Go.Proofs.Ytfciodbgjljjhaa

def eTo : Nat → Nat
  | 0 => 0
  | j + 1 => if j = 252 ∨ j = 250 then 2 * eTo j else 2 * eTo j + 1
theorem eTo_all : eTo 255 = pN - 2 := by decide +kernel
theorem invTo_pow (x j : Nat) : invTo x j = x ^ eTo j % pN := by
  induction j with
  | zero => show 1 = x ^ 0 % pN; rw [Nat.pow_zero]; decide
  | succ j ih =>
    unfold invTo eTo
    rw [ih, ← Nat.mul_mod, ← Nat.pow_add, ← Nat.two_mul]
    split
    · rfl
    · rw [Nat.pow_succ, Nat.mod_mul_mod]
theorem inv_pow (x : Nat) : invTo x 255 = x ^ (pN - 2) % pN := by rw [invTo_pow, eTo_all]
theorem inv_lt (x : Nat) : invTo x 255 < pN := by rw [inv_pow]; exact Nat.mod_lt _ (by decide)
theorem inv_zero : invTo 0 255 = 0 := by decide +kernel
theorem inv_mul (x : Nat) (h0 : 0 < x) (hx : x < pN) : x * invTo x 255 % pN = 1 := by
  have h := pN_lucas.2 x h0 hx
  have e : pN - 1 = (pN - 2) + 1 := by decide
  rw [e, Nat.pow_succ, Nat.mul_comm] at h
  rw [inv_pow, Nat.mul_mod_mod]
  exact h
theorem inv_pos (x : Nat) (h0 : 0 < x) (hx : x < pN) : 0 < invTo x 255 := by
  rcases Nat.eq_zero_or_pos (invTo x 255) with h | h
  · have := inv_mul x h0 hx; rw [h, Nat.mul_zero] at this; exact absurd this (by decide)
  · exact h
theorem inv_inv (x : Nat) (h0 : 0 < x) (hx : x < pN) : invTo (invTo x 255) 255 = x := by
  have h1 := inv_mul x h0 hx
  have h2 := inv_mul _ (inv_pos x h0 hx) (inv_lt x)
  have h3 := inv_lt (invTo x 255)
  generalize invTo (invTo x 255) 255 = z at *
  generalize invTo x 255 = y at *
  have e1 : x * (y * z) % pN = x := by rw [← Nat.mul_mod_mod, h2, Nat.mul_one, Nat.mod_eq_of_lt hx]
  have e2 : x * (y * z) % pN = z := by rw [← Nat.mul_assoc, ← Nat.mod_mul_mod, h1, Nat.one_mul, Nat.mod_eq_of_lt h3]
  rw [← e1, e2]
theorem inv_prod (x y : Nat) : invTo (x * y % pN) 255 = invTo x 255 * invTo y 255 % pN := by
  rw [inv_pow, inv_pow, inv_pow, pow_mod_mod, ← Nat.mul_mod, Nat.mul_pow]

end Go.Proofs.Ytfciodbgjljjhaa
