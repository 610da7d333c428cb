/- Bytes of digits. No program's walk in this text. -/
import Derived.Test.YtpgmaidbemndnaaRef5
namespace Go.Proofs.Ytpgmaidbemndnaa
open Go.RowKit

def byteN (n j : Nat) : Nat := n / 256 ^ j % 256
theorem mod_cut (m R k : Nat) (hk : 0 < k) : m % 256 ^ (R + k) / 256 ^ R % 256 = m / 256 ^ R % 256 := by
  rw [Nat.pow_add, Nat.mod_mul_right_div_self]
  obtain ⟨k', rfl⟩ : ∃ k', k = k' + 1 := ⟨k - 1, by omega⟩
  rw [Nat.pow_succ, Nat.mod_mul_left_mod]
theorem dg_byte (n q r : Nat) (hr : r < 2) : dg n q / 256 ^ r % 256 = byteN n (2 * q + r) := by
  unfold dg byteN
  rw [show (65536 : Nat) ^ q = 256 ^ (2 * q) by rw [Nat.pow_mul], show (65536 : Nat) = 256 ^ (r + (2 - r)) by rw [show r + (2 - r) = 2 by omega], mod_cut _ _ _ (by omega), Nat.div_div_eq_div_mul, ← Nat.pow_add]
theorem wq_eq (n q : Nat) (hq : q ≤ 3) : wq n q = n / 256 ^ (8 * q) % 256 ^ 8 := by
  have e8 : (256 : Nat) ^ 8 = 18446744073709551616 := by decide
  obtain rfl | rfl | rfl | rfl : q = 0 ∨ q = 1 ∨ q = 2 ∨ q = 3 := by omega
  · simp [wq, w0]
  · rw [show 8 * 1 = 8 from rfl, e8]; rfl
  · rw [show 8 * 2 = 8 + 8 from rfl, Nat.pow_add, ← Nat.div_div_eq_div_mul, e8]; rfl
  · rw [show 8 * 3 = 8 + 8 + 8 from rfl, Nat.pow_add, Nat.pow_add, ← Nat.div_div_eq_div_mul, ← Nat.div_div_eq_div_mul, e8]; rfl
theorem kb_byte (n j : Nat) (hj : j < 32) : kb n j = byteN n j := by
  unfold kb byteN
  have h8 : j % 8 + (8 - j % 8) = 8 := by have := Nat.mod_lt j (show 0 < 8 by omega); omega
  rw [wq_eq n (j / 8) (by omega)]
  have := mod_cut (n / 256 ^ (8 * (j / 8))) (j % 8) (8 - j % 8) (by have := Nat.mod_lt j (show 0 < 8 by omega); omega)
  rw [h8] at this
  rw [this, Nat.div_div_eq_div_mul, ← Nat.pow_add, Nat.div_add_mod]

structure Laid2 (n : Nat) (cs : Array Value) (k : Nat) : Prop where
  size : cs.size = 32
  at' : ∀ j, j < 2 * k → cs[j]? = some (.int .u8 (byteN n j : Nat))
theorem Laid2.step {n k : Nat} {cs : Array Value} (h : Laid2 n cs k) (hk : k < 16) {a b : Value} (ha : a = .int .u8 (byteN n (2 * k) : Nat)) (hb : b = .int .u8 (byteN n (2 * k + 1) : Nat)) : Laid2 n ((cs.setIfInBounds (2 * k) a).setIfInBounds (2 * k + 1) b) (k + 1) := by
  have hs := h.size
  refine ⟨by simp [hs], fun j hj => ?_⟩
  simp only [Array.getElem?_setIfInBounds, Array.size_setIfInBounds, hs]
  by_cases e1 : 2 * k + 1 = j
  · rw [if_pos e1, if_pos (by omega), hb, e1]
  · rw [if_neg e1]
    by_cases e0 : 2 * k = j
    · rw [if_pos e0, if_pos (by omega), ha, e0]
    · rw [if_neg e0]
      exact h.at' j (by omega)
theorem Laid2.done {n : Nat} {cs : Array Value} (h : Laid2 n cs 16) : cs = cs8 (keyL n) := by
  refine Array.ext_getElem? fun j => ?_
  rcases Nat.lt_or_ge j 32 with hj | hj
  · rw [h.at' j (by omega), cs8_get _ _ (by rw [keyL_len]; exact hj), keyL_get n j hj, kb_byte n j hj]
  · rw [Array.getElem?_eq_none (by rw [h.size]; exact hj), Array.getElem?_eq_none (by simp [cs8, keyL_len]; exact hj)]
theorem Laid2.ex {n k : Nat} {cs : Array Value} (h : Laid2 n cs k) (j : Nat) (hj : j < 32) : ∃ v, cs[j]? = some v := ⟨cs[j]'(by rw [h.size]; exact hj), by simp [h.size, hj]⟩

end Go.Proofs.Ytpgmaidbemndnaa
