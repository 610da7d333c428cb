/- Of the points 0, 1 and -1 the ladder makes noughts. -/
import Derived.Test.YtfciodbgjljjhaaZp
import Derived.Test.YtfciodbgjljjhaaWeak
namespace Go.Proofs.Ytfciodbgjljjhaa
open Go.RowKit

theorem last_bit (ks : List Nat) (h : Bytes ks) : bitAt (scal ks) 0 = 0 := by
  unfold bitAt scal
  rw [getD_set, getD_set]
  rw [if_neg (by omega), if_pos ⟨rfl, by rw [h.1]; decide⟩]
  simp
  omega
/-- Where the first point's product is nought, nought comes of it. -/
theorem done_zero (ks us : List Nat) (h : Z (((ladTo (scal ks) (numOf us % pN) 255).x2 : Int) * ((ladTo (scal ks) (numOf us % pN) 255).z2 : Int))) : curveN ks us = 0 := by
  have ok := ladTo_ok (scal ks) (numOf us % pN) (Nat.mod_lt _ (by decide)) 255
  unfold curveN
  generalize ladTo (scal ks) (numOf us % pN) 255 = l at *
  rcases Z_prime h with h | h
  · rw [Z_nat, Nat.mod_eq_of_lt ok.1] at h
    rw [h]; unfold mN; rw [Nat.zero_mul]; rfl
  · rw [Z_nat, Nat.mod_eq_of_lt ok.2.1] at h
    rw [h, inv_zero]; unfold mN; rw [Nat.mul_zero]; rfl
theorem step_prod (u : Nat) (l : Lad) (h : l.ok) (hz : Z ((l.x2 : Int) * l.z2)) : Z ((l.step u).z2 : Int) :=
  (Z_iff (step_z2 u l h)).2 (Z.of_eq (b := (l.x2 : Int) * l.z2 * (4 * (((l.x2 : Int) + l.z2) * ((l.x2 : Int) + l.z2) + 121665 * (4 * (l.x2 : Int) * l.z2)))) (by grind) (hz.mul _))

/-- The point 0. -/
theorem lad_zero (ks : List Nat) : ∀ j, Z (((ladTo ks 0 j).x2 : Int) * (ladTo ks 0 j).z2) ∧ Z (((ladTo ks 0 j).x3 : Int) * (ladTo ks 0 j).z3)
  | 0 => ⟨Z.of_eq (by simp [ladTo]) Z_zero, Z.of_eq (by simp [ladTo]) Z_zero⟩
  | j + 1 => by
    have ih := lad_zero ks j
    have ok := ladTo_ok ks 0 (by decide) j
    have sw : ∀ (n : Nat) (l : Lad), (Z ((l.x2 : Int) * l.z2) ∧ Z ((l.x3 : Int) * l.z3)) → (Z (((l.swap n).x2 : Int) * (l.swap n).z2) ∧ Z (((l.swap n).x3 : Int) * (l.swap n).z3)) := fun n l h => by
      unfold Lad.swap
      split
      · exact ⟨h.2, h.1⟩
      · exact h
    refine sw _ _ ?_
    have h1 := sw (bitAt ks (254 - j)) _ ih
    have ok1 := swap_ok (n := bitAt ks (254 - j)) ok
    generalize (ladTo ks 0 j).swap (bitAt ks (254 - j)) = l at *
    refine ⟨Z.mul' _ (step_prod 0 l ok1 h1.1), Z.mul' _ ?_⟩
    show Z ((mN (mN 0 (lL l)) (lL l) : Nat) : Int)
    unfold mN
    rw [Nat.zero_mul, Nat.zero_mod, Nat.zero_mul, Nat.zero_mod]
    exact Z_zero

/-- The points 1 and -1. -/
def JJ (e : Int) (l : Lad) : Prop := (Z ((l.x2 : Int) * l.z2) ∧ Z ((l.x3 : Int) - e * l.z3)) ∨ (Z ((l.x2 : Int) - e * l.z2) ∧ Z ((l.x3 : Int) * l.z3))
theorem JJ_swap {e : Int} {n : Nat} {l : Lad} (h : JJ e l) : JJ e (l.swap n) := by
  unfold Lad.swap
  split
  · rcases h with ⟨h1, h2⟩ | ⟨h1, h2⟩
    · exact .inr ⟨h2, h1⟩
    · exact .inl ⟨h2, h1⟩
  · exact h
theorem JJ_step {e : Int} {u : Nat} {l : Lad} (he : e * e = 1) (hu : Z ((u : Int) - e)) (ok : l.ok) (h : JJ e l) : Z (((l.step u).x2 : Int) * (l.step u).z2) ∧ Z (((l.step u).x3 : Int) - e * (l.step u).z3) := by
  have k3 : Z (((l.step u).x3 : Int) - e * (l.step u).z3 - 4 * (((l.x2 : Int) - e * l.z2) * ((l.x2 : Int) + e * l.z2) * (((l.x3 : Int) - e * l.z3) * ((l.x3 : Int) + e * l.z3)))) := by
    have s3 := step_x3 u l ok
    have s4 := step_z3 u l ok
    have s5 : Z ((u : Int) * (2 * ((l.x3 : Int) * l.z2 - l.z3 * l.x2)) * (2 * ((l.x3 : Int) * l.z2 - l.z3 * l.x2)) - e * (2 * ((l.x3 : Int) * l.z2 - l.z3 * l.x2)) * (2 * ((l.x3 : Int) * l.z2 - l.z3 * l.x2))) :=
      Z.of_eq (b := ((u : Int) - e) * ((2 * ((l.x3 : Int) * l.z2 - l.z3 * l.x2)) * (2 * ((l.x3 : Int) * l.z2 - l.z3 * l.x2)))) (by grind) (hu.mul _)
    have s6 := (Z_trans s4 s5)
    generalize ((l.step u).x3 : Int) = X at *
    generalize ((l.step u).z3 : Int) = Y at *
    generalize (l.x2 : Int) = a at *
    generalize (l.z2 : Int) = b at *
    generalize (l.x3 : Int) = c at *
    generalize (l.z3 : Int) = d at *
    exact Z.of_eq (b := (X - 2 * (a * c - b * d) * (2 * (a * c - b * d))) - e * (Y - e * (2 * (c * b - d * a)) * (2 * (c * b - d * a)))) (by grind) (s3.sub (Z.mul' e s6))
  rcases h with ⟨h1, h2⟩ | ⟨h1, h2⟩
  · refine ⟨Z.mul' _ (step_prod u l ok h1), (Z_iff k3).2 ?_⟩
    exact Z.mul' _ (Z.mul' _ (h2.mul _))
  · refine ⟨Z.mul ((Z_iff (step_x2 u l ok)).2 ?_) _, (Z_iff k3).2 ?_⟩
    · generalize (l.x2 : Int) = a at *
      generalize (l.z2 : Int) = b at *
      exact Z.of_eq (b := (a - e * b) * ((a + e * b) * (a * a - b * b))) (by grind) (h1.mul _)
    · exact Z.mul' _ ((h1.mul _).mul _)
theorem lad_one (ks : List Nat) (e : Int) (u : Nat) (he : e * e = 1) (hu : Z ((u : Int) - e)) (hul : u < pN) : ∀ j, JJ e (ladTo ks u j)
  | 0 => .inl ⟨Z.of_eq (by simp [ladTo]) Z_zero, Z.of_eq (by simp [ladTo]) hu⟩
  | j + 1 => JJ_swap (.inl (JJ_step he hu (swap_ok (ladTo_ok ks u hul j)) (JJ_swap (lad_one ks e u he hu hul j))))
theorem last_one (ks : List Nat) (hk : Bytes ks) (e : Int) (u : Nat) (he : e * e = 1) (hu : Z ((u : Int) - e)) (hul : u < pN) : Z (((ladTo (scal ks) u 255).x2 : Int) * (ladTo (scal ks) u 255).z2) := by
  have h := JJ_step he hu (swap_ok (n := bitAt (scal ks) (254 - 254)) (ladTo_ok (scal ks) u hul 254)) (JJ_swap (n := bitAt (scal ks) (254 - 254)) (lad_one (scal ks) e u he hu hul 254))
  have e1 : ladTo (scal ks) u 255 = (((ladTo (scal ks) u 254).swap (bitAt (scal ks) (254 - 254))).step u).swap (bitAt (scal ks) (254 - 254)) := rfl
  rw [e1]
  have hb : bitAt (scal ks) (254 - 254) = 0 := last_bit ks hk
  generalize ((ladTo (scal ks) u 254).swap (bitAt (scal ks) (254 - 254))).step u = l at *
  rw [hb]
  exact h.1
theorem curve_zero (ks : List Nat) : curveN ks zero32 = 0 := by
  refine done_zero ks zero32 ?_
  rw [show numOf zero32 % pN = 0 by decide +kernel]
  exact (lad_zero (scal ks) 255).1
theorem curve_one (ks : List Nat) (hk : Bytes ks) : curveN ks one32 = 0 := by
  refine done_zero ks one32 ?_
  rw [show numOf one32 % pN = 1 by decide +kernel]
  exact last_one ks hk 1 1 rfl Z_zero (by decide)
theorem curve_minus (ks : List Nat) (hk : Bytes ks) : curveN ks minus32 = 0 := by
  refine done_zero ks minus32 ?_
  rw [show numOf minus32 % pN = pN - 1 by decide +kernel]
  exact last_one ks hk (-1) (pN - 1) rfl (by rw [show (((pN - 1 : Nat) : Int) - (-1)) = ((pN : Nat) : Int) by decide +kernel]; exact Int.dvd_refl _) (by decide)
theorem weak_any (ks : List Nat) (bk : Bytes ks) (wh : Nat) (hw : wh < 256) (w : World) : Calls Try.prog 7 #[.agg (cs8 ks), .int .u8 (wh : Nat)] w fun e w' => e = .returned (.bool true) ∧ Below w.heap.size w w' :=
  weak_raw ks bk wh hw (curve_zero ks) (curve_one ks bk) (curve_minus ks bk) w
end Go.Proofs.Ytfciodbgjljjhaa
