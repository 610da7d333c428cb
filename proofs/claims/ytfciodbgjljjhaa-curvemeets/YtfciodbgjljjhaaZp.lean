/- Whole numbers up to multiples of the prime, and what a step of the ladder makes of them. -/
import Derived.Test.YtfciodbgjljjhaaLad
import Derived.Test.YtfciodbgjljjhaaInvNum
namespace Go.Proofs.Ytfciodbgjljjhaa

/-- The prime goes into a. -/
def Z (a : Int) : Prop := ((pN : Nat) : Int) ∣ a
theorem Z.add {a b : Int} (h : Z a) (k : Z b) : Z (a + b) := Int.dvd_add h k
theorem Z.sub {a b : Int} (h : Z a) (k : Z b) : Z (a - b) := Int.dvd_sub h k
theorem Z.mul {a : Int} (h : Z a) (b : Int) : Z (a * b) := Int.dvd_mul_of_dvd_left h
theorem Z.mul' {a : Int} (b : Int) (h : Z a) : Z (b * a) := Int.dvd_mul_of_dvd_right h
theorem Z.neg {a : Int} (h : Z a) : Z (-a) := Int.dvd_neg.2 h
theorem Z.of_eq {a b : Int} (h : a = b) (k : Z b) : Z a := h ▸ k
theorem Z_zero : Z 0 := Int.dvd_zero _
theorem Z_nat (n : Nat) : Z (n : Int) ↔ n % pN = 0 := by
  unfold Z
  rw [Int.natCast_dvd_natCast]
  exact Nat.dvd_iff_mod_eq_zero
theorem Z_prime {a b : Int} (h : Z (a * b)) : Z a ∨ Z b := by
  unfold Z at *
  rw [Int.ofNat_dvd_left, Int.natAbs_mul] at h
  rw [Int.ofNat_dvd_left, Int.ofNat_dvd_left]
  by_cases ha : pN ∣ a.natAbs
  · exact .inl ha
  · exact .inr ((Nat.Coprime.symm (coprime_of pN_lucas.1 ha)).dvd_of_dvd_mul_left h)
theorem Z_sub_comm {a b : Int} (h : Z (a - b)) : Z (b - a) := by have := h.neg; rwa [Int.neg_sub] at this
theorem Z_trans {a b c : Int} (h : Z (a - b)) (k : Z (b - c)) : Z (a - c) := Z.of_eq (by omega) (h.add k)
theorem Z_mul_congr {a b c d : Int} (h : Z (a - b)) (k : Z (c - d)) : Z (a * c - b * d) := Z.of_eq (b := (a - b) * c + b * (c - d)) (by grind) ((h.mul c).add (Z.mul' b k))
theorem Z_add_congr {a b c d : Int} (h : Z (a - b)) (k : Z (c - d)) : Z ((a + c) - (b + d)) := Z.of_eq (by omega) (h.add k)
theorem Z_sub_congr {a b c d : Int} (h : Z (a - b)) (k : Z (c - d)) : Z ((a - c) - (b - d)) := Z.of_eq (by omega) (h.sub k)
theorem Z_iff {a b : Int} (h : Z (a - b)) : Z a ↔ Z b := ⟨fun k => Z.of_eq (b := a - (a - b)) (by omega) (k.sub h), fun k => Z.of_eq (b := (a - b) + b) (by omega) (h.add k)⟩
theorem Z_mod (n : Nat) : Z (((n % pN : Nat) : Int) - (n : Int)) := by
  have h := Nat.div_add_mod n pN
  refine ⟨-((n / pN : Nat) : Int), ?_⟩
  have h' : ((pN : Nat) : Int) * ((n / pN : Nat) : Int) + ((n % pN : Nat) : Int) = (n : Int) := by rw [← Int.natCast_mul, ← Int.natCast_add, h]
  rw [Int.mul_neg]
  generalize ((pN : Nat) : Int) * ((n / pN : Nat) : Int) = q at *
  omega
theorem Z_m (x y : Nat) : Z ((mN x y : Int) - (x : Int) * (y : Int)) := by have := Z_mod (x * y); rwa [Int.natCast_mul] at this
theorem Z_a (x y : Nat) : Z ((aN x y : Int) - ((x : Int) + (y : Int))) := by have := Z_mod (x + y); rwa [Int.natCast_add] at this
theorem Z_s (x y : Nat) (hy : y < pN) : Z ((sN x y : Int) - ((x : Int) - (y : Int))) := by
  have h := Z_mod (x + (pN - y))
  rw [Int.natCast_add, Int.natCast_sub (Nat.le_of_lt hy)] at h
  exact Z.of_eq (b := (((x + (pN - y)) % pN : Nat) : Int) - ((x : Int) + ((pN : Nat) - (y : Int))) + ((pN : Nat) : Int)) (by unfold sN; omega) (h.add (Int.dvd_refl _))
theorem step_x2 (u : Nat) (l : Lad) (h : l.ok) : Z (((l.step u).x2 : Int) - ((l.x2 : Int) + l.z2) * ((l.x2 : Int) + l.z2) * (((l.x2 : Int) - l.z2) * ((l.x2 : Int) - l.z2))) :=
  Z_trans (Z_m _ _) (Z_mul_congr (Z_trans (Z_m _ _) (Z_mul_congr (Z_a _ _) (Z_a _ _))) (Z_trans (Z_m _ _) (Z_mul_congr (Z_s _ _ h.2.1) (Z_s _ _ h.2.1))))
theorem Z_AA (l : Lad) : Z ((lAA l : Int) - ((l.x2 : Int) + l.z2) * ((l.x2 : Int) + l.z2)) := Z_trans (Z_m _ _) (Z_mul_congr (Z_a _ _) (Z_a _ _))
theorem Z_BB (l : Lad) (h : l.ok) : Z ((lBB l : Int) - ((l.x2 : Int) - l.z2) * ((l.x2 : Int) - l.z2)) := Z_trans (Z_m _ _) (Z_mul_congr (Z_s _ _ h.2.1) (Z_s _ _ h.2.1))
theorem Z_E (l : Lad) (h : l.ok) : Z ((lE l : Int) - 4 * (l.x2 : Int) * l.z2) := by
  refine Z_trans (Z_s _ _ (mN_lt _ _)) ?_
  exact Z.of_eq (by grind) (Z_sub_congr (Z_AA l) (Z_BB l h))
theorem step_z2 (u : Nat) (l : Lad) (h : l.ok) : Z (((l.step u).z2 : Int) - 4 * (l.x2 : Int) * l.z2 * (((l.x2 : Int) + l.z2) * ((l.x2 : Int) + l.z2) + 121665 * (4 * (l.x2 : Int) * l.z2))) :=
  Z_trans (Z_m _ _) (Z_mul_congr (Z_E l h) (Z_trans (Z_a _ _) (Z_add_congr (Z_AA l) (Z_trans (Z_m _ _) (Z_mul_congr (by simpa using Z_zero) (Z_E l h))))))
theorem Z_DA (l : Lad) (h : l.ok) : Z ((lDA l : Int) - ((l.x3 : Int) - l.z3) * ((l.x2 : Int) + l.z2)) := Z_trans (Z_m _ _) (Z_mul_congr (Z_s _ _ h.2.2.2) (Z_a _ _))
theorem Z_CB (l : Lad) (h : l.ok) : Z ((lCB l : Int) - ((l.x3 : Int) + l.z3) * ((l.x2 : Int) - l.z2)) := Z_trans (Z_m _ _) (Z_mul_congr (Z_a _ _) (Z_s _ _ h.2.1))
theorem Z_S (l : Lad) (h : l.ok) : Z ((lS l : Int) - 2 * ((l.x2 : Int) * l.x3 - l.z2 * l.z3)) :=
  Z_trans (Z_a _ _) (Z.of_eq (by grind) (Z_add_congr (Z_DA l h) (Z_CB l h)))
theorem Z_L (l : Lad) (h : l.ok) : Z ((lL l : Int) - 2 * ((l.x3 : Int) * l.z2 - l.z3 * l.x2)) :=
  Z_trans (Z_s _ _ (mN_lt _ _)) (Z.of_eq (by grind) (Z_sub_congr (Z_DA l h) (Z_CB l h)))
theorem step_x3 (u : Nat) (l : Lad) (h : l.ok) : Z (((l.step u).x3 : Int) - 2 * ((l.x2 : Int) * l.x3 - l.z2 * l.z3) * (2 * ((l.x2 : Int) * l.x3 - l.z2 * l.z3))) := Z_trans (Z_m _ _) (Z_mul_congr (Z_S l h) (Z_S l h))
theorem step_z3 (u : Nat) (l : Lad) (h : l.ok) : Z (((l.step u).z3 : Int) - (u : Int) * (2 * ((l.x3 : Int) * l.z2 - l.z3 * l.x2)) * (2 * ((l.x3 : Int) * l.z2 - l.z3 * l.x2))) :=
  Z_trans (Z_m _ _) (Z_mul_congr (Z_trans (Z_m _ _) (Z_mul_congr (by simpa using Z_zero) (Z_L l h))) (Z_L l h))
end Go.Proofs.Ytfciodbgjljjhaa
