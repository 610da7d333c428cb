/- What the ladder makes of a point is a multiple of it; of a multiple's point it makes a multiple of the multiple: so two scalars may change places. -/
import Derived.Test.YtfciodbgjljjhaaKum2
import Derived.Test.YtfciodbgjljjhaaWeakNum
import Derived.Test.YtfciodbgjljjhaaByteNum
namespace Go.Proofs.Ytfciodbgjljjhaa

/-- Two pairs are one point. -/
def PR (P Q : Pt) : Prop := ∃ c d : Int, ¬ Z c ∧ ¬ Z d ∧ Z (c * P.1 - d * Q.1) ∧ Z (c * P.2 - d * Q.2)
theorem PR.symm {P Q : Pt} (h : PR P Q) : PR Q P := by
  obtain ⟨c, d, hc, hd, h1, h2⟩ := h
  exact ⟨d, c, hd, hc, Z_sub_comm h1, Z_sub_comm h2⟩
theorem PR.trans {P Q R : Pt} (h : PR P Q) (k : PR Q R) : PR P R := by
  obtain ⟨c, d, hc, hd, h1, h2⟩ := h
  obtain ⟨c', d', hc', hd', k1, k2⟩ := k
  refine ⟨c' * c, d * d', nz_mul hc' hc, nz_mul hd hd', ?_, ?_⟩
  · exact Z.of_eq (b := c' * (c * P.1 - d * Q.1) + d * (c' * Q.1 - d' * R.1)) (by grind) ((Z.mul' _ h1).add (Z.mul' _ k1))
  · exact Z.of_eq (b := c' * (c * P.2 - d * Q.2) + d * (c' * Q.2 - d' * R.2)) (by grind) ((Z.mul' _ h2).add (Z.mul' _ k2))
theorem PR.of {P Q : Pt} (h1 : Z (P.1 - Q.1)) (h2 : Z (P.2 - Q.2)) : PR P Q := ⟨1, 1, nz1, nz1, Z.of_eq (by omega) h1, Z.of_eq (by omega) h2⟩
theorem PR.refl (P : Pt) : PR P P := PR.of (Z.of_eq (by omega) Z_zero) (Z.of_eq (by omega) Z_zero)
theorem nz_sq {a : Int} (h : ¬ Z a) : ¬ Z (a ^ 2) := fun k => h (Z_sq k)
theorem Z_sq_congr {a b : Int} (h : Z (a - b)) : Z (a ^ 2 - b ^ 2) := Z.of_eq (b := (a - b) * (a + b)) (by grind) (h.mul _)
theorem PR.dbl {P Q : Pt} (h : PR P Q) : PR (dbl P) (dbl Q) := by
  obtain ⟨c, d, hc, hd, h1, h2⟩ := h
  have q1 := Z_sq_congr h1
  have q2 := Z_sq_congr h2
  refine ⟨(c ^ 2) ^ 2, (d ^ 2) ^ 2, nz_sq (nz_sq hc), nz_sq (nz_sq hd), ?_, ?_⟩
  · refine Z.of_eq (b := ((c * P.1) ^ 2 - (c * P.2) ^ 2) ^ 2 - ((d * Q.1) ^ 2 - (d * Q.2) ^ 2) ^ 2) (by simp only [Go.Proofs.Ytfciodbgjljjhaa.dbl]; grind) (Z_sq_congr (Z_sub_congr q1 q2))
  · refine Z.of_eq (b := 4 * (c * P.1) * (c * P.2) * ((c * P.1) ^ 2 + cA * (c * P.1) * (c * P.2) + (c * P.2) ^ 2) - 4 * (d * Q.1) * (d * Q.2) * ((d * Q.1) ^ 2 + cA * (d * Q.1) * (d * Q.2) + (d * Q.2) ^ 2)) (by simp only [Go.Proofs.Ytfciodbgjljjhaa.dbl]; grind) ?_
    have z : ∀ a : Int, Z (a - a) := fun a => Z.of_eq (by omega) Z_zero
    exact Z_mul_congr (Z_mul_congr (Z_mul_congr (z 4) h1) h2) (Z_add_congr (Z_add_congr q1 (Z_mul_congr (Z_mul_congr (z cA) h1) h2)) q2)
theorem PR.dadd {P Q P' Q' : Pt} (u : Int) (h : PR P P') (k : PR Q Q') : PR (dadd u P Q) (dadd u P' Q') := by
  obtain ⟨c, d, hc, hd, h1, h2⟩ := h
  obtain ⟨e, f, he, hf, k1, k2⟩ := k
  refine ⟨c ^ 2 * e ^ 2, d ^ 2 * f ^ 2, nz_mul (nz_sq hc) (nz_sq he), nz_mul (nz_sq hd) (nz_sq hf), ?_, ?_⟩
  · refine Z.of_eq (b := 4 * (((c * P.1) * (e * Q.1) - (c * P.2) * (e * Q.2)) ^ 2 - ((d * P'.1) * (f * Q'.1) - (d * P'.2) * (f * Q'.2)) ^ 2)) (by simp only [Go.Proofs.Ytfciodbgjljjhaa.dadd, b2]; grind) (Z.mul' _ (Z_sq_congr (Z_sub_congr (Z_mul_congr h1 k1) (Z_mul_congr h2 k2))))
  · refine Z.of_eq (b := 4 * u * (((c * P.1) * (e * Q.2) - (c * P.2) * (e * Q.1)) ^ 2 - ((d * P'.1) * (f * Q'.2) - (d * P'.2) * (f * Q'.1)) ^ 2)) (by simp only [Go.Proofs.Ytfciodbgjljjhaa.dadd, b0]; grind) (Z.mul' _ (Z_sq_congr (Z_sub_congr (Z_mul_congr h1 k2) (Z_mul_congr h2 k1))))

/-- A row of points of which each is made of those at half its place. -/
structure Row2 (v : Int) (y : Nat → Pt) : Prop where
  z : PR (y 0) (1, 0)
  o : PR (y 1) (v, 1)
  d : ∀ k, PR (y (2 * k)) (dbl (y k))
  s : ∀ k, PR (y (2 * k + 1)) (dadd v (y k) (y (k + 1)))
/-- The number that the bits tell. -/
def nTo (ks : List Nat) : Nat → Nat
  | 0 => 0
  | j + 1 => 2 * nTo ks j + bitAt ks (254 - j)
theorem dadd_comm (v : Int) (P Q : Pt) : dadd v P Q = dadd v Q P := by
  simp only [dadd, b0, b2, Prod.mk.injEq]
  constructor <;> grind
theorem step_PR (v : Nat) (l : Lad) (ok : l.ok) : PR (((l.step v).x2 : Int), ((l.step v).z2 : Int)) (dbl ((l.x2 : Int), (l.z2 : Int))) ∧ PR (((l.step v).x3 : Int), ((l.step v).z3 : Int)) (dadd (v : Int) ((l.x2 : Int), (l.z2 : Int)) ((l.x3 : Int), (l.z3 : Int))) := by
  constructor
  · refine PR.of (Z.of_eq ?_ (step_x2 v l ok)) (Z.of_eq ?_ (step_z2 v l ok))
    · simp only [dbl]; grind
    · simp only [dbl, cA]; grind
  · refine PR.of (Z.of_eq ?_ (step_x3 v l ok)) (Z.of_eq ?_ (step_z3 v l ok))
    · simp only [dadd, b2]; grind
    · simp only [dadd, b0]; grind
theorem lad_row {v : Nat} {y : Nat → Pt} (hv : v < pN) (hy : Row2 (v : Int) y) (ks : List Nat) : ∀ j, PR (((ladTo ks v j).x2 : Int), ((ladTo ks v j).z2 : Int)) (y (nTo ks j)) ∧ PR (((ladTo ks v j).x3 : Int), ((ladTo ks v j).z3 : Int)) (y (nTo ks j + 1))
  | 0 => ⟨hy.z.symm, hy.o.symm⟩
  | j + 1 => by
    obtain ⟨h1, h2⟩ := lad_row hv hy ks j
    have ok := ladTo_ok ks v hv j
    have e1 : ladTo ks v (j + 1) = (((ladTo ks v j).swap (bitAt ks (254 - j))).step v).swap (bitAt ks (254 - j)) := rfl
    have e2 : nTo ks (j + 1) = 2 * nTo ks j + bitAt ks (254 - j) := rfl
    rw [e1, e2]
    clear e1 e2
    have hb := bitAt_le ks (254 - j)
    generalize bitAt ks (254 - j) = t at *
    generalize nTo ks j = n at *
    obtain rfl | rfl : t = 0 ∨ t = 1 := by omega
    · have e : ∀ l : Lad, l.swap 0 = l := fun l => rfl
      rw [e, e]
      obtain ⟨s1, s2⟩ := step_PR v _ ok
      exact ⟨s1.trans (h1.dbl.trans (hy.d n).symm), s2.trans ((PR.dadd _ h1 h2).trans (hy.s n).symm)⟩
    · have e : ∀ l : Lad, l.swap 1 = ⟨l.x3, l.z3, l.x2, l.z2⟩ := fun l => rfl
      rw [e, e]
      obtain ⟨s1, s2⟩ := step_PR v ⟨(ladTo ks v j).x3, (ladTo ks v j).z3, (ladTo ks v j).x2, (ladTo ks v j).z2⟩ ⟨ok.2.2.1, ok.2.2.2, ok.1, ok.2.1⟩
      refine ⟨s2.trans ?_, s1.trans ?_⟩
      · rw [dadd_comm]; exact (PR.dadd _ h1 h2).trans (hy.s n).symm
      · rw [show 2 * n + 1 + 1 = 2 * (n + 1) by omega]; exact h2.dbl.trans (hy.d (n + 1)).symm

/-- A point's number: nought where one of the pair is. -/
def Val (P : Pt) (v : Nat) : Prop := v < pN ∧ (((Z P.1 ∨ Z P.2) ∧ v = 0) ∨ (¬ Z P.1 ∧ ¬ Z P.2 ∧ Z ((v : Int) * P.2 - P.1)))
theorem val_of (l : Lad) (ok : l.ok) : Val ((l.x2 : Int), (l.z2 : Int)) (mN l.x2 (invTo l.z2 255)) := by
  refine ⟨mN_lt _ _, ?_⟩
  by_cases h1 : Z (l.x2 : Int)
  · refine .inl ⟨.inl h1, ?_⟩
    rw [Z_nat, Nat.mod_eq_of_lt ok.1] at h1
    rw [h1]; unfold mN; rw [Nat.zero_mul]; rfl
  · by_cases h2 : Z (l.z2 : Int)
    · refine .inl ⟨.inr h2, ?_⟩
      rw [Z_nat, Nat.mod_eq_of_lt ok.2.1] at h2
      rw [h2, inv_zero]; unfold mN; rw [Nat.mul_zero]; rfl
    · refine .inr ⟨h1, h2, ?_⟩
      have pos : 0 < l.z2 := by
        rcases Nat.eq_zero_or_pos l.z2 with e | e
        · exact (h2 (by rw [e]; exact Z_zero)).elim
        · exact e
      have hi := inv_mul l.z2 pos ok.2.1
      have hz : Z (((l.z2 * invTo l.z2 255 : Nat) : Int) - 1) := by
        have := Z_mod (l.z2 * invTo l.z2 255)
        rw [hi] at this
        exact Z_sub_comm this
      rw [Int.natCast_mul] at hz
      have hm := Z_m l.x2 (invTo l.z2 255)
      simp only
      exact Z.of_eq (b := ((mN l.x2 (invTo l.z2 255) : Int) - (l.x2 : Int) * (invTo l.z2 255 : Int)) * (l.z2 : Int) + (l.x2 : Int) * ((l.z2 : Int) * (invTo l.z2 255 : Int) - 1)) (by grind) ((hm.mul _).add (Z.mul' _ hz))
theorem PR.z1 {P Q : Pt} (h : PR P Q) (k : Z P.1) : Z Q.1 := by
  obtain ⟨c, d, hc, hd, h1, h2⟩ := h
  exact (Z_prime (Z.of_eq (b := c * P.1 - (c * P.1 - d * Q.1)) (by omega) ((Z.mul' _ k).sub h1))).resolve_left hd
theorem PR.z2 {P Q : Pt} (h : PR P Q) (k : Z P.2) : Z Q.2 := by
  obtain ⟨c, d, hc, hd, h1, h2⟩ := h
  exact (Z_prime (Z.of_eq (b := c * P.2 - (c * P.2 - d * Q.2)) (by omega) ((Z.mul' _ k).sub h2))).resolve_left hd
theorem Val.move {P Q : Pt} {v : Nat} (h : PR P Q) (k : Val P v) : Val Q v := by
  refine ⟨k.1, ?_⟩
  rcases k.2 with ⟨k1, k2⟩ | ⟨k1, k2, k3⟩
  · exact .inl ⟨k1.imp h.z1 h.z2, k2⟩
  · refine .inr ⟨fun e => k1 (h.symm.z1 e), fun e => k2 (h.symm.z2 e), ?_⟩
    obtain ⟨c, d, hc, hd, h1, h2⟩ := h
    refine (Z_prime (a := d) ?_).resolve_left hd
    exact Z.of_eq (b := c * ((v : Int) * P.2 - P.1) - ((v : Int) * (c * P.2 - d * Q.2) - (c * P.1 - d * Q.1))) (by grind) ((Z.mul' _ k3).sub ((Z.mul' _ h2).sub h1))
theorem Z_small {a b : Nat} (ha : a < pN) (hb : b < pN) (h : Z ((a : Int) - (b : Int))) : a = b := by
  obtain ⟨c, hc⟩ := h
  have hp : ((pN : Nat) : Int) = 57896044618658097711785492504343953926634992332820282019728792003956564819949 := by decide
  rw [hp] at hc
  have hp' : pN = 57896044618658097711785492504343953926634992332820282019728792003956564819949 := by decide
  rw [hp'] at ha hb
  omega
theorem Val.uniq {P : Pt} {v w : Nat} (h : Val P v) (k : Val P w) : v = w := by
  rcases h.2 with ⟨h1, rfl⟩ | ⟨h1, h2, h3⟩ <;> rcases k.2 with ⟨k1, rfl⟩ | ⟨k1, k2, k3⟩
  · rfl
  · exact (h1.elim k1 k2).elim
  · exact (k1.elim h1 h2).elim
  · refine Z_small h.1 k.1 ((Z_prime (Z.of_eq (b := ((v : Int) * P.2 - P.1) - ((w : Int) * P.2 - P.1)) (a := P.2 * ((v : Int) - (w : Int))) (by grind) (h3.sub k3))).resolve_left h2)
/-- The scalar's number. -/
def scN (ks : List Nat) : Nat := nTo (scal ks) 255
theorem scN_even (ks : List Nat) (h : Bytes ks) : ∃ n, scN ks = 2 * n := ⟨nTo (scal ks) 254, by
  show 2 * nTo (scal ks) 254 + bitAt (scal ks) (254 - 254) = _
  rw [show bitAt (scal ks) (254 - 254) = 0 from last_bit ks h]; rfl⟩
theorem curve_row {ks us : List Nat} {v : Nat} {y : Nat → Pt} (hv : numOf us % pN = v) (hy : Row2 (v : Int) y) : Val (y (scN ks)) (curveN ks us) := by
  have hl : v < pN := hv ▸ Nat.mod_lt _ (by decide)
  have h := (lad_row hl hy (scal ks) 255).1
  have k := val_of _ (ladTo_ok (scal ks) v hl 255)
  unfold curveN
  rw [hv]
  exact k.move h
theorem row_xs {u : Int} (hu : ¬ Z u) : Row2 u (xs u) := by
  refine ⟨by rw [xs_zero]; exact PR.refl _, by rw [xs_one]; exact PR.refl _, fun k => by rw [xs_dbl]; exact PR.refl _, fun k => ?_⟩
  rcases Nat.eq_zero_or_pos k with rfl | h
  · rw [Nat.mul_zero, Nat.zero_add, xs_zero, xs_one]
    refine ⟨4 * u, 1, nz_mul nz4 hu, nz1, ?_, ?_⟩
    · exact Z.of_eq (by simp only [dadd, b2]; grind) Z_zero
    · exact Z.of_eq (by simp only [dadd, b0]; grind) Z_zero
  · rw [xs_add u k h]; exact PR.refl _
/-- The multiples of a multiple. -/
theorem row_mul {u : Int} (hu : ¬ Z u) (m : Nat) {v : Nat} (hv : Val (xs u m) v) (h0 : v ≠ 0) : Row2 (v : Int) (fun k => xs u (k * m)) := by
  obtain ⟨hl, h⟩ := hv
  rcases h with ⟨_, e⟩ | ⟨n1, n2, h⟩
  · exact (h0 e).elim
  have nv : ¬ Z (v : Int) := by rw [Z_nat, Nat.mod_eq_of_lt hl]; exact h0
  refine ⟨?_, ?_, fun k => ?_, fun k => ?_⟩
  · simp only [Nat.zero_mul]; rw [xs_zero]; exact PR.refl _
  · simp only [Nat.one_mul]
    exact ⟨1, (xs u m).2, nz1, n2, Z.of_eq (b := -((v : Int) * (xs u m).2 - (xs u m).1)) (by grind) h.neg, Z.of_eq (by grind) Z_zero⟩
  · show PR (xs u (2 * k * m)) (dbl (xs u (k * m)))
    rw [show 2 * k * m = 2 * (k * m) by rw [Nat.mul_assoc], xs_dbl]; exact PR.refl _
  · show PR (xs u ((2 * k + 1) * m)) (dadd (v : Int) (xs u (k * m)) (xs u ((k + 1) * m)))
    have s := (xs_main hu ((k + 1) * m + k * m)).2 ((k + 1) * m) (k * m) (Nat.mul_le_mul_right _ (by omega)) rfl
    rw [← Nat.add_mul, show k + 1 + k = 2 * k + 1 by omega, ← Nat.sub_mul, show k + 1 - k = 1 by omega, Nat.one_mul] at s
    rw [dadd_comm]
    obtain ⟨l, μ, hlz, hm, s0, s1, s2⟩ := s
    refine ⟨4 * (μ * (v : Int) * (xs u m).2), l, nz_mul nz4 (nz_mul (nz_mul hm nv) n2), hlz, ?_, ?_⟩
    · refine Z.of_eq (b := 4 * μ * (xs u ((2 * k + 1) * m)).1 * ((v : Int) * (xs u m).2 - (xs u m).1) - 4 * (l * b2 (xs u ((k + 1) * m)) (xs u (k * m)) - μ * ((xs u ((2 * k + 1) * m)).1 * (xs u m).1))) ?_ ((Z.mul' _ h).sub (Z.mul' _ s2))
      simp only [dadd]; grind
    · refine Z.of_eq (b := -(4 * (v : Int)) * (l * b0 (xs u ((k + 1) * m)) (xs u (k * m)) - μ * ((xs u ((2 * k + 1) * m)).2 * (xs u m).2))) ?_ (Z.mul' _ s0)
      simp only [dadd]; grind
/-- Where a multiple is the point at the end, its multiples are. -/
theorem end_mul {u : Int} (hu : ¬ Z u) (m : Nat) (hm : Z (xs u m).2) : ∀ k, Z (xs u (k * m)).2
  | 0 => by rw [Nat.zero_mul, xs_zero]; exact Z_zero
  | 1 => by rw [Nat.one_mul]; exact hm
  | k + 2 => by
    have ih := end_mul hu m hm (k + 1)
    have s := (xs_main hu ((k + 1) * m + m)).2 ((k + 1) * m) m (Nat.le_mul_of_pos_left _ (by omega)) rfl
    have nd := (xs_main hu (k * m)).1
    rw [show (k + 1) * m + m = (k + 2) * m by rw [← Nat.succ_mul], show (k + 1) * m - m = k * m by rw [Nat.succ_mul]; omega] at s
    obtain ⟨l, μ, hlz, hμ, s0, s1, s2⟩ := s
    have e0 : Z ((xs u ((k + 2) * m)).2 * (xs u (k * m)).2) := by
      refine (Z_prime (a := μ) ?_).resolve_left hμ
      refine Z.of_eq (b := l * b0 (xs u ((k + 1) * m)) (xs u m) - (l * b0 (xs u ((k + 1) * m)) (xs u m) - μ * ((xs u ((k + 2) * m)).2 * (xs u (k * m)).2))) (by omega) ((Z.mul' _ ?_).sub s0)
      refine Z.of_eq (b := (xs u m).2 * ((xs u ((k + 1) * m)).1 * ((xs u ((k + 1) * m)).1 * (xs u m).2 - 2 * (xs u ((k + 1) * m)).2 * (xs u m).1)) + (xs u ((k + 1) * m)).2 * ((xs u ((k + 1) * m)).2 * (xs u m).1 ^ 2)) (by simp only [b0]; grind) ((hm.mul _).add (ih.mul _))
    have e1 : Z ((xs u ((k + 2) * m)).1 * (xs u (k * m)).2 + (xs u ((k + 2) * m)).2 * (xs u (k * m)).1) := by
      refine (Z_prime (a := μ) ?_).resolve_left hμ
      refine Z.of_eq (b := l * b1 cA (xs u ((k + 1) * m)) (xs u m) - (l * b1 cA (xs u ((k + 1) * m)) (xs u m) - μ * ((xs u ((k + 2) * m)).1 * (xs u (k * m)).2 + (xs u ((k + 2) * m)).2 * (xs u (k * m)).1))) (by omega) ((Z.mul' _ ?_).sub s1)
      refine Z.of_eq (b := (xs u m).2 * (2 * ((xs u ((k + 1) * m)).1 * ((xs u ((k + 1) * m)).1 * (xs u m).1 + (xs u ((k + 1) * m)).2 * (xs u m).2) + 2 * cA * (xs u ((k + 1) * m)).1 * (xs u ((k + 1) * m)).2 * (xs u m).1)) + (xs u ((k + 1) * m)).2 * (2 * ((xs u m).1 * ((xs u ((k + 1) * m)).1 * (xs u m).1 + (xs u ((k + 1) * m)).2 * (xs u m).2)))) (by simp only [b1]; grind) ((hm.mul _).add (ih.mul _))
    rcases Z_prime e0 with z | z
    · exact z
    · have e2 : Z ((xs u ((k + 2) * m)).2 * (xs u (k * m)).1) := Z.of_eq (b := ((xs u ((k + 2) * m)).1 * (xs u (k * m)).2 + (xs u ((k + 2) * m)).2 * (xs u (k * m)).1) - (xs u ((k + 2) * m)).1 * (xs u (k * m)).2) (by omega) (e1.sub (Z.mul' _ z))
      rcases Z_prime e2 with z2 | z2
      · exact z2
      · exact (nd ⟨z2, z⟩).elim
theorem numOf_back (r : Nat) (h : r < pN) : numOf (keyL r) % pN = r := by rw [numOf_key r (Nat.lt_trans h pN_255), Nat.mod_eq_of_lt h]
/-- Two scalars, one behind the other. -/
theorem curve_curve {ka kb us : List Nat} (ha : Bytes ka) {u : Nat} (hu : numOf us % pN = u) (h0 : u ≠ 0) : Val (xs (u : Int) (scN ka * scN kb)) (curveN ka (keyL (curveN kb us))) := by
  have hl : u < pN := hu ▸ Nat.mod_lt _ (by decide)
  have nu : ¬ Z (u : Int) := by rw [Z_nat, Nat.mod_eq_of_lt hl]; exact h0
  have hb := curve_row (ks := kb) hu (row_xs nu)
  have rl := curveN_lt kb us
  generalize curveN kb us = r at *
  by_cases hr : r = 0
  · subst hr
    rw [keyL_zero, curve_zero]
    refine ⟨by decide, .inl ⟨.inr ?_, rfl⟩⟩
    rcases hb.2 with ⟨h, _⟩ | ⟨h1, h2, h3⟩
    · rcases h with h | h
      · obtain ⟨n, hn⟩ := scN_even ka ha
        have e2 : Z (xs (u : Int) (2 * scN kb)).2 := by
          rw [xs_dbl]
          exact Z.of_eq (b := (xs (u : Int) (scN kb)).1 * (4 * (xs (u : Int) (scN kb)).2 * ((xs (u : Int) (scN kb)).1 ^ 2 + cA * (xs (u : Int) (scN kb)).1 * (xs (u : Int) (scN kb)).2 + (xs (u : Int) (scN kb)).2 ^ 2))) (by simp only [dbl]; grind) (h.mul _)
        have := end_mul nu _ e2 n
        rw [hn, show 2 * n * scN kb = n * (2 * scN kb) by rw [Nat.mul_comm 2 n, Nat.mul_assoc]]
        exact this
      · exact end_mul nu _ h (scN ka)
    · exact (h1 (Z.of_eq (b := -(((0 : Nat) : Int) * (xs (u : Int) (scN kb)).2 - (xs (u : Int) (scN kb)).1)) (by simp) h3.neg)).elim
  · exact curve_row (numOf_back r rl) (row_mul nu (scN kb) hb hr)
theorem curve_u0 (ks us : List Nat) (h : numOf us % pN = 0) : curveN ks us = 0 := by
  refine done_zero ks us ?_
  rw [h]
  exact (lad_zero (scal ks) 255).1
theorem curve_turns (ka kb us : List Nat) (ha : Bytes ka) (hb : Bytes kb) : curveN ka (keyL (curveN kb us)) = curveN kb (keyL (curveN ka us)) := by
  by_cases h : numOf us % pN = 0
  · rw [curve_u0 ka us h, curve_u0 kb us h, keyL_zero, curve_zero, curve_zero]
  · have h1 := curve_curve (kb := kb) ha rfl h
    have h2 := curve_curve (kb := ka) hb rfl h
    rw [Nat.mul_comm] at h2
    exact h1.uniq h2
end Go.Proofs.Ytfciodbgjljjhaa
