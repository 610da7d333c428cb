/- Points up to their sign, by their first coordinate alone: of two points the sum and the difference, told by a quadratic form; that sums may be taken apart; the multiples of a point. -/
import Derived.Test.YtfciodbgjljjhaaZp
namespace Go.Proofs.Ytfciodbgjljjhaa

abbrev Pt := Int × Int
def b0 (P Q : Pt) : Int := (P.1 * Q.2 - P.2 * Q.1) ^ 2
def b1 (A : Int) (P Q : Pt) : Int := 2 * ((P.1 * Q.2 + P.2 * Q.1) * (P.1 * Q.1 + P.2 * Q.2) + 2 * A * P.1 * P.2 * Q.1 * Q.2)
def b2 (P Q : Pt) : Int := (P.1 * Q.1 - P.2 * Q.2) ^ 2
def Fm (A : Int) (P Q T : Pt) : Int := b0 P Q * T.1 ^ 2 - b1 A P Q * (T.1 * T.2) + b2 P Q * T.2 ^ 2
def Ln (S T : Pt) : Int := S.2 * T.1 - S.1 * T.2
def Res (e0 e1 e2 c0 c1 c2 : Int) : Int := c0 ^ 2 * e2 ^ 2 + c2 ^ 2 * e0 ^ 2 + c1 ^ 2 * e0 * e2 - c0 * c1 * e1 * e2 - c1 * c2 * e0 * e1 + c0 * c2 * (e1 ^ 2 - 2 * e0 * e2)
theorem Fm_left (A : Int) (P Q T : Pt) : Fm A P Q T = Fm A Q P T := by unfold Fm b0 b1 b2; grind
theorem Fm_right (A : Int) (P Q T : Pt) : Fm A P Q T = Fm A P T Q := by unfold Fm b0 b1 b2; grind
theorem Res_raw (A x x' y y' z z' t t' : Int) :
    ((z*t'-z'*t)^2)^2*((x*y-x'*y')^2)^2 + ((z*t-z'*t')^2)^2*((x*y'-x'*y)^2)^2 + (2*((z*t'+z'*t)*(z*t+z'*t') + 2*A*z*z'*t*t'))^2*(x*y'-x'*y)^2*(x*y-x'*y')^2 - (z*t'-z'*t)^2*(2*((z*t'+z'*t)*(z*t+z'*t') + 2*A*z*z'*t*t'))*(2*((x*y'+x'*y)*(x*y+x'*y') + 2*A*x*x'*y*y'))*(x*y-x'*y')^2 - (2*((z*t'+z'*t)*(z*t+z'*t') + 2*A*z*z'*t*t'))*(z*t-z'*t')^2*(x*y'-x'*y)^2*(2*((x*y'+x'*y)*(x*y+x'*y') + 2*A*x*x'*y*y')) + (z*t'-z'*t)^2*(z*t-z'*t')^2*((2*((x*y'+x'*y)*(x*y+x'*y') + 2*A*x*x'*y*y'))^2 - 2*(x*y'-x'*y)^2*(x*y-x'*y')^2) =
    ((x*t'-x'*t)^2)^2*((y*z-y'*z')^2)^2 + ((x*t-x'*t')^2)^2*((y*z'-y'*z)^2)^2 + (2*((x*t'+x'*t)*(x*t+x'*t') + 2*A*x*x'*t*t'))^2*(y*z'-y'*z)^2*(y*z-y'*z')^2 - (x*t'-x'*t)^2*(2*((x*t'+x'*t)*(x*t+x'*t') + 2*A*x*x'*t*t'))*(2*((y*z'+y'*z)*(y*z+y'*z') + 2*A*y*y'*z*z'))*(y*z-y'*z')^2 - (2*((x*t'+x'*t)*(x*t+x'*t') + 2*A*x*x'*t*t'))*(x*t-x'*t')^2*(y*z'-y'*z)^2*(2*((y*z'+y'*z)*(y*z+y'*z') + 2*A*y*y'*z*z')) + (x*t'-x'*t)^2*(x*t-x'*t')^2*((2*((y*z'+y'*z)*(y*z+y'*z') + 2*A*y*y'*z*z'))^2 - 2*(y*z'-y'*z)^2*(y*z-y'*z')^2) := by
  grind
theorem Res_assoc (A : Int) (P Q R T : Pt) : Res (b0 P Q) (b1 A P Q) (b2 P Q) (b0 R T) (b1 A R T) (b2 R T) = Res (b0 Q R) (b1 A Q R) (b2 Q R) (b0 P T) (b1 A P T) (b2 P T) := Res_raw A P.1 P.2 Q.1 Q.2 R.1 R.2 T.1 T.2
theorem Res_split (A : Int) (S D R T : Pt) : Res (S.2 * D.2) (S.1 * D.2 + S.2 * D.1) (S.1 * D.1) (b0 R T) (b1 A R T) (b2 R T) = Fm A S R T * Fm A D R T := by
  have e1 : Fm A S R T = b0 R T * S.1 ^ 2 - b1 A R T * (S.1 * S.2) + b2 R T * S.2 ^ 2 := by rw [Fm_left, Fm_right]; rfl
  have e2 : Fm A D R T = b0 R T * D.1 ^ 2 - b1 A R T * (D.1 * D.2) + b2 R T * D.2 ^ 2 := by rw [Fm_left, Fm_right]; rfl
  rw [e1, e2]
  generalize b0 R T = c0
  generalize b1 A R T = c1
  generalize b2 R T = c2
  unfold Res
  grind
theorem Res_scale (l e0 e1 e2 c0 c1 c2 : Int) : Res (l * e0) (l * e1) (l * e2) c0 c1 c2 = l ^ 2 * Res e0 e1 e2 c0 c1 c2 := by unfold Res; grind
theorem Res_congr {e0 e1 e2 f0 f1 f2 : Int} (c0 c1 c2 : Int) (h0 : Z (e0 - f0)) (h1 : Z (e1 - f1)) (h2 : Z (e2 - f2)) : Z (Res e0 e1 e2 c0 c1 c2 - Res f0 f1 f2 c0 c1 c2) := by
  refine Z.of_eq (b := (e0 - f0) * (c2 ^ 2 * (e0 + f0) + c1 ^ 2 * e2 - c1 * c2 * e1 - 2 * c0 * c2 * e2) + ((e1 - f1) * (c0 * c2 * (e1 + f1) - c0 * c1 * e2 - c1 * c2 * f0) + (e2 - f2) * (c0 ^ 2 * (e2 + f2) + c1 ^ 2 * f0 - c0 * c1 * f1 - 2 * c0 * c2 * f0))) ?_ ((h0.mul _).add ((h1.mul _).add (h2.mul _)))
  unfold Res
  grind

def NZ (P : Pt) : Prop := ¬ (Z P.1 ∧ Z P.2)
/-- S and D are the sum and the difference of P and Q. -/
def Split (A : Int) (P Q S D : Pt) : Prop := ∃ l m : Int, ¬ Z l ∧ ¬ Z m ∧ Z (l * b0 P Q - m * (S.2 * D.2)) ∧ Z (l * b1 A P Q - m * (S.1 * D.2 + S.2 * D.1)) ∧ Z (l * b2 P Q - m * (S.1 * D.1))
theorem nz_mul {a b : Int} (h : ¬ Z a) (k : ¬ Z b) : ¬ Z (a * b) := fun e => (Z_prime e).elim h k
theorem Split.symm {A : Int} {P Q S D : Pt} (h : Split A P Q S D) : Split A Q P S D := by
  obtain ⟨l, m, hl, hm, h0, h1, h2⟩ := h
  refine ⟨l, m, hl, hm, ?_, ?_, ?_⟩
  · exact Z.of_eq (by unfold b0; grind) h0
  · exact Z.of_eq (by unfold b1; grind) h1
  · exact Z.of_eq (by unfold b2; grind) h2
theorem Split.swap {A : Int} {P Q S D : Pt} (h : Split A P Q S D) : Split A P Q D S := by
  obtain ⟨l, m, hl, hm, h0, h1, h2⟩ := h
  exact ⟨l, m, hl, hm, Z.of_eq (by grind) h0, Z.of_eq (by grind) h1, Z.of_eq (by grind) h2⟩
theorem Split.at {A : Int} {P Q S D : Pt} {l m : Int} (h0 : Z (l * b0 P Q - m * (S.2 * D.2))) (h1 : Z (l * b1 A P Q - m * (S.1 * D.2 + S.2 * D.1))) (h2 : Z (l * b2 P Q - m * (S.1 * D.1))) (T : Pt) : Z (l * Fm A P Q T - m * (Ln S T * Ln D T)) := by
  refine Z.of_eq (b := (l * b0 P Q - m * (S.2 * D.2)) * T.1 ^ 2 - (l * b1 A P Q - m * (S.1 * D.2 + S.2 * D.1)) * (T.1 * T.2) + (l * b2 P Q - m * (S.1 * D.1)) * T.2 ^ 2) ?_ (((h0.mul _).sub (h1.mul _)).add (h2.mul _))
  unfold Fm Ln
  grind
theorem Split.root {A : Int} {P Q S D : Pt} (h : Split A P Q S D) : Z (Fm A P Q S) := by
  obtain ⟨l, m, hl, hm, h0, h1, h2⟩ := h
  have k := Split.at h0 h1 h2 S
  have e : Ln S S = 0 := by unfold Ln; grind
  rw [e, Int.zero_mul, Int.mul_zero, Int.sub_zero] at k
  exact (Z_prime k).resolve_left hl
theorem assocP {A : Int} {P Q R S D U V : Pt} (h : Split A P Q S D) (k : Split A Q R U V) : ∃ a b : Int, ¬ Z a ∧ ¬ Z b ∧ ∀ T, Z (a * (Fm A S R T * Fm A D R T) - b * (Fm A U P T * Fm A V P T)) := by
  obtain ⟨l, m, hl, hm, h0, h1, h2⟩ := h
  obtain ⟨l', m', hl', hm', k0, k1, k2⟩ := k
  refine ⟨l' ^ 2 * m ^ 2, l ^ 2 * m' ^ 2, ?_, ?_, fun T => ?_⟩
  · rw [Int.pow_succ, Int.pow_succ, Int.pow_zero, Int.one_mul, Int.pow_succ, Int.pow_succ, Int.pow_zero, Int.one_mul]; exact nz_mul (nz_mul hl' hl') (nz_mul hm hm)
  · rw [Int.pow_succ, Int.pow_succ, Int.pow_zero, Int.one_mul, Int.pow_succ, Int.pow_succ, Int.pow_zero, Int.one_mul]; exact nz_mul (nz_mul hl hl) (nz_mul hm' hm')
  · have r1 := Res_congr (b0 R T) (b1 A R T) (b2 R T) h0 h1 h2
    have r2 := Res_congr (b0 P T) (b1 A P T) (b2 P T) k0 k1 k2
    rw [Res_scale, Res_scale, Res_split, Res_assoc] at r1
    rw [Res_scale, Res_scale, Res_split] at r2
    generalize Res (b0 Q R) (b1 A Q R) (b2 Q R) (b0 P T) (b1 A P T) (b2 P T) = r at *
    generalize Fm A S R T * Fm A D R T = f at *
    generalize Fm A U P T * Fm A V P T = g at *
    exact Z.of_eq (b := l ^ 2 * (l' ^ 2 * r - m' ^ 2 * g) - l' ^ 2 * (l ^ 2 * r - m ^ 2 * f)) (by grind) ((Z.mul' _ r2).sub (Z.mul' _ r1))

theorem small_nz (n : Nat) (h0 : 0 < n) (h1 : n < 1000000) : ¬ Z (n : Int) := by
  rw [Z_nat, Nat.mod_eq_of_lt (Nat.lt_trans h1 (by decide))]
  omega
theorem line_bad {P : Pt} (h : NZ P) {i j : Nat} (hi : i < 5) (hj : j < 5) (hij : i ≠ j) (k1 : Z (Ln P ((i : Int), 1))) (k2 : Z (Ln P ((j : Int), 1))) : False := by
  have d : Z (P.2 * ((i : Int) - (j : Int))) := Z.of_eq (b := Ln P ((i : Int), 1) - Ln P ((j : Int), 1)) (by simp only [Ln]; grind) (k1.sub k2)
  have d2 : Z P.2 := by
    rcases Z_prime d with d | d
    · exact d
    · exfalso
      rcases Nat.lt_or_ge i j with h' | h'
      · exact small_nz (j - i) (by omega) (by omega) (Z.of_eq (b := -((i : Int) - j)) (by omega) d.neg)
      · exact small_nz (i - j) (by omega) (by omega) (Z.of_eq (b := (i : Int) - j) (by omega) d)
  refine h ⟨?_, d2⟩
  exact Z.of_eq (b := P.2 * (i : Int) - Ln P ((i : Int), 1)) (by simp only [Ln]; grind) ((d2.mul _).sub k1)
theorem three_left : ∀ a b : Fin 6, ∃ i j k : Fin 5, i ≠ j ∧ j ≠ k ∧ i ≠ k ∧ i.val ≠ a.val ∧ i.val ≠ b.val ∧ j.val ≠ a.val ∧ j.val ≠ b.val ∧ k.val ≠ a.val ∧ k.val ≠ b.val := by decide +kernel
theorem one_bad {P : Pt} (h : NZ P) : ∃ a : Fin 6, ∀ i : Fin 5, Z (Ln P (((i.val : Nat) : Int), 1)) → i.val = a.val := by
  by_cases e : ∃ i : Fin 5, Z (Ln P (((i.val : Nat) : Int), 1))
  · obtain ⟨i, hi⟩ := e
    refine ⟨⟨i.val, by omega⟩, fun j hj => ?_⟩
    by_cases hij : j.val = i.val
    · exact hij
    · exact (line_bad h j.isLt i.isLt hij hj hi).elim
  · exact ⟨⟨5, by decide⟩, fun i hi => (e ⟨i, hi⟩).elim⟩
theorem cancel {n0 n1 n2 : Int} {P Q : Pt} (hP : NZ P) (hQ : NZ Q) (h : ∀ T : Pt, Z ((n0 * T.1 ^ 2 - n1 * (T.1 * T.2) + n2 * T.2 ^ 2) * (Ln P T * Ln Q T))) : Z n0 ∧ Z n1 ∧ Z n2 := by
  obtain ⟨a, ha⟩ := one_bad hP
  obtain ⟨b, hb⟩ := one_bad hQ
  obtain ⟨i, j, k, hij, hjk, hik, ia, ib, ja, jb, ka, kb⟩ := three_left a b
  have good : ∀ i : Fin 5, i.val ≠ a.val → i.val ≠ b.val → Z (n0 * ((i.val : Nat) : Int) ^ 2 - n1 * ((i.val : Nat) : Int) + n2) := fun i h1 h2 => by
    have := h (((i.val : Nat) : Int), 1)
    rcases Z_prime this with t | t
    · exact Z.of_eq (by grind) t
    · rcases Z_prime t with t | t
      · exact (h1 (ha i t)).elim
      · exact (h2 (hb i t)).elim
  have gi := good i ia ib
  have gj := good j ja jb
  have gk := good k ka kb
  have dif : ∀ i j : Fin 5, i ≠ j → ¬ Z (((i.val : Nat) : Int) - ((j.val : Nat) : Int)) := fun i j hij d => by
    have hv : i.val ≠ j.val := fun e => hij (Fin.ext e)
    have := i.isLt
    have := j.isLt
    rcases Nat.lt_or_ge i.val j.val with h' | h'
    · exact small_nz (j.val - i.val) (by omega) (by omega) (Z.of_eq (b := -(((i.val : Nat) : Int) - (j.val : Nat))) (by omega) d.neg)
    · exact small_nz (i.val - j.val) (by omega) (by omega) (Z.of_eq (b := ((i.val : Nat) : Int) - (j.val : Nat)) (by omega) d)
  have dij := dif i j hij
  have dik := dif i k hik
  have djk := dif j k hjk
  generalize ((i.val : Nat) : Int) = x at *
  generalize ((j.val : Nat) : Int) = y at *
  generalize ((k.val : Nat) : Int) = z at *
  have e1 : Z (n0 * (x + y) - n1) := (Z_prime (Z.of_eq (b := (n0 * x ^ 2 - n1 * x + n2) - (n0 * y ^ 2 - n1 * y + n2)) (a := (x - y) * (n0 * (x + y) - n1)) (by grind) (gi.sub gj))).resolve_left dij
  have e2 : Z (n0 * (x + z) - n1) := (Z_prime (Z.of_eq (b := (n0 * x ^ 2 - n1 * x + n2) - (n0 * z ^ 2 - n1 * z + n2)) (a := (x - z) * (n0 * (x + z) - n1)) (by grind) (gi.sub gk))).resolve_left dik
  have z0 : Z n0 := (Z_prime (Z.of_eq (b := (n0 * (x + y) - n1) - (n0 * (x + z) - n1)) (a := (y - z) * n0) (by grind) (e1.sub e2))).resolve_left djk
  have z1 : Z n1 := Z.of_eq (b := n0 * (x + y) - (n0 * (x + y) - n1)) (by grind) ((z0.mul _).sub e1)
  exact ⟨z0, z1, Z.of_eq (b := (n0 * x ^ 2 - n1 * x + n2) - (n0 * x ^ 2 - n1 * x)) (by grind) (gi.sub ((z0.mul _).sub (z1.mul _)))⟩
/-- One more sum, out of four that are known. -/
theorem next_sum {A : Int} {P Q R X1 X2 U V G H J K : Pt} (s1 : Split A P Q X1 X2) (s2 : Split A Q R U V) (h1 : Split A X2 R G H) (h2 : Split A U P J H) (h3 : Split A V P G K) (hG : NZ G) (hH : NZ H) : Split A X1 R J K := by
  obtain ⟨a, b, ha, hb, hab⟩ := assocP s1 s2
  obtain ⟨l1, m1, hl1, hm1, p0, p1, p2⟩ := h1
  obtain ⟨l2, m2, hl2, hm2, q0, q1, q2⟩ := h2
  obtain ⟨l3, m3, hl3, hm3, r0, r1, r2⟩ := h3
  have key := cancel (n0 := a * l2 * l3 * m1 * b0 X1 R - b * l1 * m2 * m3 * (J.2 * K.2)) (n1 := a * l2 * l3 * m1 * b1 A X1 R - b * l1 * m2 * m3 * (J.1 * K.2 + J.2 * K.1)) (n2 := a * l2 * l3 * m1 * b2 X1 R - b * l1 * m2 * m3 * (J.1 * K.1)) hG hH (fun T => by
    have c0 := hab T
    have c1 := Split.at p0 p1 p2 T
    have c2 := Split.at q0 q1 q2 T
    have c3 := Split.at r0 r1 r2 T
    have e : (a * l2 * l3 * m1 * b0 X1 R - b * l1 * m2 * m3 * (J.2 * K.2)) * T.1 ^ 2 - (a * l2 * l3 * m1 * b1 A X1 R - b * l1 * m2 * m3 * (J.1 * K.2 + J.2 * K.1)) * (T.1 * T.2) + (a * l2 * l3 * m1 * b2 X1 R - b * l1 * m2 * m3 * (J.1 * K.1)) * T.2 ^ 2 = a * l2 * l3 * m1 * Fm A X1 R T - b * l1 * m2 * m3 * (Ln J T * Ln K T) := by
      unfold Fm Ln; grind
    rw [e]
    generalize Fm A X1 R T = f at *
    generalize Fm A X2 R T = g at *
    generalize Fm A U P T = fu at *
    generalize Fm A V P T = fv at *
    generalize Ln G T = lg at *
    generalize Ln H T = lh at *
    generalize Ln J T = lj at *
    generalize Ln K T = lk at *
    exact Z.of_eq (b := l1 * l2 * l3 * (a * (f * g) - b * (fu * fv)) - a * l2 * l3 * f * (l1 * g - m1 * (lg * lh)) + (b * l1 * fv * l3 * (l2 * fu - m2 * (lj * lh)) + b * l1 * m2 * (lj * lh) * (l3 * fv - m3 * (lg * lk)))) (by grind) (((Z.mul' _ c0).sub (Z.mul' _ c1)).add ((Z.mul' _ c2).add (Z.mul' _ c3))))
  exact ⟨_, _, nz_mul (nz_mul (nz_mul ha hl2) hl3) hm1, nz_mul (nz_mul (nz_mul hb hl1) hm2) hm3, key.1, key.2.1, key.2.2⟩
end Go.Proofs.Ytfciodbgjljjhaa
