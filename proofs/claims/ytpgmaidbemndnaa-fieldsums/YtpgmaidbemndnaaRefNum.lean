/- Plain arithmetic under the document's answer of layer 1: sixteen digits of 16 bits. No program in this text. -/
import Derived.Test.YtpgmaidbemndnaaNum
namespace Go.Proofs.Ytpgmaidbemndnaa

/-- The number of the first n digits. -/
def psum (h : Nat → Nat) : Nat → Nat
  | 0 => 0
  | n + 1 => psum h n + h n * 65536 ^ n
def dg (n j : Nat) : Nat := n / 65536 ^ j % 65536

theorem dg_lt (n j : Nat) : dg n j < 65536 := Nat.mod_lt _ (by decide)
theorem pow_pos' (n : Nat) : 0 < 65536 ^ n := Nat.pow_pos (by decide)
theorem psum_congr {f g : Nat → Nat} : ∀ n, (∀ j, j < n → f j = g j) → psum f n = psum g n
  | 0, _ => rfl
  | n + 1, h => by unfold psum; rw [psum_congr n (fun j hj => h j (by omega)), h n (by omega)]
theorem psum_step (h : Nat → Nat) (n : Nat) : psum h (n + 1) / 65536 ^ n = psum h n / 65536 ^ n + h n := by
  show (psum h n + h n * 65536 ^ n) / 65536 ^ n = _
  rw [Nat.add_mul_div_right _ _ (pow_pos' n)]
theorem psum_le {h : Nat → Nat} {B : Nat} (hB : 1 ≤ B) : ∀ n, (∀ j, j < n → h j < B) → psum h n ≤ B * 65536 ^ n
  | 0, _ => by simp [psum]
  | n + 1, hh => by
    have ih := psum_le hB n (fun j hj => hh j (by omega))
    have h1 := hh n (by omega)
    have h2 : h n * 65536 ^ n ≤ B * 65536 ^ n := Nat.mul_le_mul_right _ (by omega)
    show psum h n + h n * 65536 ^ n ≤ _
    rw [Nat.pow_succ]
    have : B * (65536 ^ n * 65536) = 65536 * (B * 65536 ^ n) := by rw [← Nat.mul_assoc, Nat.mul_comm]
    rw [this]
    omega
theorem psum_div {h : Nat → Nat} {B : Nat} (hB : 1 ≤ B) (n : Nat) (hh : ∀ j, j < n → h j < B) : psum h n / 65536 ^ n ≤ B := by
  have := Nat.div_le_div_right (c := 65536 ^ n) (psum_le hB n hh)
  rwa [Nat.mul_div_cancel _ (pow_pos' n)] at this
/-- What lies further on does not turn the low digits. -/
theorem psum_mod (h : Nat → Nat) (n : Nat) : ∀ k, psum h (n + k) % 65536 ^ n = psum h n % 65536 ^ n
  | 0 => rfl
  | k + 1 => by
    show (psum h (n + k) + h (n + k) * 65536 ^ (n + k)) % 65536 ^ n = _
    rw [Nat.pow_add, ← Nat.mul_assoc, Nat.mul_right_comm, Nat.add_mul_mod_self_right, psum_mod h n k]
theorem dg_of_mod {a b j : Nat} (h : a % 65536 ^ (j + 1) = b % 65536 ^ (j + 1)) : dg a j = dg b j := by
  unfold dg
  rw [Nat.pow_succ] at h
  rw [← Nat.mod_mul_right_div_self, ← Nat.mod_mul_right_div_self, h]
theorem dg_psum (h : Nat → Nat) (n j : Nat) (hj : j < n) : dg (psum h n) j = dg (psum h (j + 1)) j :=
  dg_of_mod (by rw [show n = (j + 1) + (n - (j + 1)) by omega]; exact psum_mod h (j + 1) _)
theorem psum_dg (N : Nat) : ∀ n, psum (dg N) n = N % 65536 ^ n
  | 0 => by simp [psum, Nat.mod_one]
  | n + 1 => by
    show psum (dg N) n + dg N n * 65536 ^ n = _
    rw [psum_dg N n, Nat.pow_succ, Nat.mod_mul, Nat.mul_comm]
    rfl
theorem psum_add (f g : Nat → Nat) : ∀ n, psum (fun j => f j + g j) n = psum f n + psum g n
  | 0 => rfl
  | n + 1 => by unfold psum; rw [psum_add f g n, Nat.add_mul]; omega
theorem psum_scale (c : Nat) (f : Nat → Nat) : ∀ n, psum (fun j => c * f j) n = c * psum f n
  | 0 => rfl
  | n + 1 => by unfold psum; rw [psum_scale c f n, Nat.mul_add, Nat.mul_assoc]
theorem psum_split (f : Nat → Nat) (n : Nat) : ∀ k, psum f (n + k) = psum f n + 65536 ^ n * psum (fun j => f (n + j)) k
  | 0 => by simp [psum]
  | k + 1 => by
    show psum f (n + k) + f (n + k) * 65536 ^ (n + k) = _
    rw [psum_split f n k]
    show _ = psum f n + 65536 ^ n * (psum (fun j => f (n + j)) k + f (n + k) * 65536 ^ k)
    rw [Nat.mul_add, Nat.pow_add, ← Nat.add_assoc]
    congr 1
    rw [Nat.mul_left_comm]

def q256 : Nat := 65536 ^ 16
theorem q256_top : q256 = top4 := by decide

/-- One pass: what goes beyond 2^256 comes back 38 times. -/
def fold (V : Nat) : Nat := V % q256 + 38 * (V / q256)
def hOf (V j : Nat) : Nat := dg V j + if j = 0 then 38 * (V / q256) else 0
theorem fold_mod (V : Nat) : fold V % pN = V % pN := by
  have e : V = V % q256 + q256 * (V / q256) := (Nat.mod_add_div V q256).symm
  have e2 : q256 = 2 * pN + 38 := by decide
  have e3 : V = fold V + pN * (2 * (V / q256)) := by
    unfold fold
    generalize V / q256 = a at *
    generalize V % q256 = b at *
    rw [e, e2, Nat.add_mul, ← Nat.mul_assoc pN 2 a, Nat.mul_comm pN 2]
    omega
  conv => rhs; rw [e3, Nat.add_mul_mod_self_left]
theorem psum_hOf (V : Nat) : psum (hOf V) 16 = fold V := by
  have h1 : psum (hOf V) 16 = psum (dg V) 16 + psum (fun j => if j = 0 then 38 * (V / q256) else 0) 16 := psum_add _ _ 16
  rw [h1, psum_dg]
  have : psum (fun j => if j = 0 then 38 * (V / q256) else 0) 16 = 38 * (V / q256) := by simp [psum]
  rw [this]
  rfl
theorem fold_fold {V : Nat} (h : V / q256 ≤ 1125899906842624) : fold (fold V) < q256 ∧ fold V / q256 ≤ 1 := by
  have e : fold V < q256 + 42784196460019713 := by
    have := Nat.mod_lt V (show 0 < q256 by decide)
    unfold fold; omega
  have h2 : fold V / q256 ≤ 1 := by
    rw [q256_top] at *
    generalize fold V = F at *
    unfold top4 at *
    omega
  refine ⟨?_, h2⟩
  unfold fold
  rw [show V % q256 + 38 * (V / q256) = fold V from rfl]
  generalize fold V = F at *
  rw [q256_top] at *
  unfold top4 at *
  omega
/-- Taken away once, as the loop does it. -/
def sub1 (n : Nat) : Nat := if n < pN then n else n - pN
theorem sub3 {n : Nat} (h : n < q256) : sub1 (sub1 (sub1 n)) = n % pN := by
  rw [q256_top] at h
  unfold sub1
  unfold top4 pN at *
  (repeat' split) <;> omega

/-- The digits of the prime. -/
def pd (i : Nat) : Nat := if i = 0 then 65517 else if i = 15 then 32767 else 65535
theorem pd_lt (i : Nat) : pd i < 65536 := by unfold pd; split; omega; split <;> omega
theorem pd_psum : psum pd 16 = pN := by decide
/-- Borrow, digit by digit: 1 where what came is less. -/
def bw (f g : Nat → Nat) : Nat → Nat
  | 0 => 0
  | i + 1 => 1 - (f i + 65536 - g i - bw f g i) / 65536
def bd (f g : Nat → Nat) (i : Nat) : Nat := (f i + 65536 - g i - bw f g i) % 65536
theorem bw_le (f g : Nat → Nat) (i : Nat) : bw f g i ≤ 1 := by cases i <;> simp [bw]
theorem bw_spec (f g : Nat → Nat) : ∀ n, (∀ j, j < n → f j < 65536) → (∀ j, j < n → g j < 65536) →
    psum (bd f g) n + psum g n = psum f n + bw f g n * 65536 ^ n
  | 0, _, _ => by simp [psum, bw]
  | n + 1, hf, hg => by
    have ih := bw_spec f g n (fun j hj => hf j (by omega)) (fun j hj => hg j (by omega))
    have h1 := hf n (by omega)
    have h2 := hg n (by omega)
    have h3 := bw_le f g n
    have key : bd f g n + g n + bw f g n = f n + bw f g (n + 1) * 65536 := by
      show (f n + 65536 - g n - bw f g n) % 65536 + g n + bw f g n = f n + (1 - (f n + 65536 - g n - bw f g n) / 65536) * 65536
      generalize bw f g n = b at *
      omega
    show psum (bd f g) n + bd f g n * 65536 ^ n + (psum g n + g n * 65536 ^ n) = psum f n + f n * 65536 ^ n + bw f g (n + 1) * 65536 ^ (n + 1)
    rw [Nat.pow_succ, show bw f g (n + 1) * (65536 ^ n * 65536) = bw f g (n + 1) * 65536 * 65536 ^ n by rw [Nat.mul_comm (65536 ^ n), Nat.mul_assoc]]
    have k2 : (bd f g n + g n + bw f g n) * 65536 ^ n = (f n + bw f g (n + 1) * 65536) * 65536 ^ n := by rw [key]
    rw [Nat.add_mul, Nat.add_mul, Nat.add_mul] at k2
    omega
theorem bd_lt (f g : Nat → Nat) (i : Nat) : bd f g i < 65536 := Nat.mod_lt _ (by decide)
theorem psum_lt {h : Nat → Nat} : ∀ n, (∀ j, j < n → h j < 65536) → psum h n < 65536 ^ n
  | 0, _ => by simp [psum]
  | n + 1, hh => by
    have ih := psum_lt n (fun j hj => hh j (by omega))
    have h1 := hh n (by omega)
    have h2 : h n * 65536 ^ n ≤ 65535 * 65536 ^ n := Nat.mul_le_mul_right _ (by omega)
    show psum h n + h n * 65536 ^ n < _
    rw [Nat.pow_succ]
    omega
/-- Digits below 65536 are those of their number. -/
theorem dg_eq {h : Nat → Nat} (n j : Nat) (hj : j < n) (hh : ∀ j, j < n → h j < 65536) : dg (psum h n) j = h j := by
  rw [dg_psum h n j hj]
  unfold dg
  rw [psum_step, Nat.div_eq_of_lt (psum_lt j (fun i hi => hh i (by omega))), Nat.zero_add, Nat.mod_eq_of_lt (hh j hj)]

end Go.Proofs.Ytpgmaidbemndnaa
