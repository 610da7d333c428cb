/- The multiples of a point: sums and differences of any two of them; what the ladder makes is one of them. -/
import Derived.Test.YtfciodbgjljjhaaKum
namespace Go.Proofs.Ytfciodbgjljjhaa

def cA : Int := 486662
def dbl (P : Pt) : Pt := ((P.1 ^ 2 - P.2 ^ 2) ^ 2, 4 * P.1 * P.2 * (P.1 ^ 2 + cA * P.1 * P.2 + P.2 ^ 2))
def dadd (u : Int) (P Q : Pt) : Pt := (4 * b2 P Q, 4 * u * b0 P Q)
theorem nz_lit (n : Nat) (h0 : 0 < n) (h1 : n < 1000000) : ¬ Z (n : Int) := small_nz n h0 h1
theorem nz1 : ¬ Z 1 := small_nz 1 (by decide) (by decide)
theorem nz4 : ¬ Z 4 := small_nz 4 (by decide) (by decide)
theorem split_zero (P : Pt) : Split cA P (1, 0) P P := by
  refine ⟨1, 1, nz1, nz1, ?_, ?_, ?_⟩
  · exact Z.of_eq (by simp only [b0]; grind) Z_zero
  · exact Z.of_eq (by simp only [b1]; grind) Z_zero
  · exact Z.of_eq (by simp only [b2]; grind) Z_zero
theorem split_dbl (P : Pt) : Split cA P P (dbl P) (1, 0) := by
  refine ⟨1, 1, nz1, nz1, ?_, ?_, ?_⟩
  · exact Z.of_eq (by simp only [b0, dbl]; grind) Z_zero
  · exact Z.of_eq (by simp only [b1, dbl]; grind) Z_zero
  · exact Z.of_eq (by simp only [b2, dbl]; grind) Z_zero
theorem split_next {P Q : Pt} {u : Int} (hu : ¬ Z u) (hr : Z (Fm cA P Q (u, 1))) : Split cA P Q (dadd u P Q) (u, 1) := by
  refine ⟨4 * u, 1, nz_mul nz4 hu, nz1, ?_, ?_, ?_⟩
  · exact Z.of_eq (by simp only [dadd]; grind) Z_zero
  · refine Z.of_eq (b := -4 * Fm cA P Q (u, 1)) ?_ (Z.mul' _ hr)
    simp only [Fm, dadd]
    generalize b0 P Q = x0
    generalize b1 cA P Q = x1
    generalize b2 P Q = x2
    grind
  · exact Z.of_eq (by simp only [dadd]; grind) Z_zero
theorem Z_sq {a : Int} (h : Z (a ^ 2)) : Z a := (Z_prime (Z.of_eq (by grind) h : Z (a * a))).elim id id
theorem sign_of {x y : Int} (h : Z (x ^ 2 - y ^ 2)) : ∃ e : Int, e * e = 1 ∧ Z (x - e * y) := by
  rcases Z_prime (Z.of_eq (by grind) h : Z ((x - y) * (x + y))) with k | k
  · exact ⟨1, rfl, Z.of_eq (by grind) k⟩
  · exact ⟨-1, rfl, Z.of_eq (by grind) k⟩
theorem nz_A (e : Int) (he : e * e = 1) : ¬ Z (2 * e + cA) := by
  have h : e = 1 ∨ e = -1 := by
    rcases Int.mul_eq_zero.1 (show (e - 1) * (e + 1) = 0 by grind) with k | k
    · exact .inl (by omega)
    · exact .inr (by omega)
  rcases h with rfl | rfl
  · exact small_nz 486664 (by decide) (by decide)
  · exact small_nz 486660 (by decide) (by decide)
theorem nz_dbl {P : Pt} (h : NZ P) : NZ (dbl P) := by
  rintro ⟨h1, h2⟩
  simp only [dbl] at h1 h2
  obtain ⟨e, he, hs⟩ := sign_of (Z_sq h1)
  have k : Z (P.2 ^ 2 * (P.2 ^ 2 * (2 * e + cA))) := by
    refine (Z_prime (a := 4) ?_).resolve_left nz4
    refine Z.of_eq (b := 4 * P.1 * P.2 * (P.1 ^ 2 + cA * P.1 * P.2 + P.2 ^ 2) - (P.1 - e * P.2) * (4 * P.2 * (P.1 ^ 2 + P.1 * (e * P.2) + (e * P.2) ^ 2 + cA * P.2 * (P.1 + e * P.2) + P.2 ^ 2))) ?_ (h2.sub (hs.mul _))
    clear h h1 h2 hs
    generalize P.1 = x
    generalize P.2 = y
    generalize cA = c
    grind
  have z2 : Z P.2 := by
    rcases Z_prime k with k | k
    · exact Z_sq k
    · rcases Z_prime k with k | k
      · exact Z_sq k
      · exact (nz_A e he k).elim
  exact h ⟨Z.of_eq (b := (P.1 - e * P.2) + e * P.2) (by omega) (hs.add (Z.mul' _ z2)), z2⟩
theorem nz_dadd {P Q : Pt} {u : Int} (hu : ¬ Z u) (hP : NZ P) (hQ : NZ Q) (hr : Z (Fm cA P Q (u, 1))) : NZ (dadd u P Q) := by
  rintro ⟨h1, h2⟩
  simp only [dadd] at h1 h2
  have g2 : Z (b2 P Q) := (Z_prime h1).resolve_left nz4
  have g0 : Z (b0 P Q) := (Z_prime h2).resolve_left (nz_mul nz4 hu)
  have g1 : Z (b1 cA P Q) := by
    refine (Z_prime (a := u) ?_).resolve_left hu
    refine Z.of_eq (b := b0 P Q * u ^ 2 + b2 P Q - Fm cA P Q (u, 1)) ?_ (((g0.mul _).add g2).sub hr)
    simp only [Fm]
    grind
  have s2 : Z (P.1 * Q.1 - P.2 * Q.2) := Z_sq g2
  have s0 : Z (P.1 * Q.2 - P.2 * Q.1) := Z_sq g0
  have pp : Z (P.1 ^ 2 - P.2 ^ 2) := by
    have t1 : Z ((P.1 ^ 2 - P.2 ^ 2) * Q.1) := Z.of_eq (b := P.1 * (P.1 * Q.1 - P.2 * Q.2) + P.2 * (P.1 * Q.2 - P.2 * Q.1)) (by grind) ((Z.mul' _ s2).add (Z.mul' _ s0))
    have t2 : Z ((P.1 ^ 2 - P.2 ^ 2) * Q.2) := Z.of_eq (b := P.1 * (P.1 * Q.2 - P.2 * Q.1) + P.2 * (P.1 * Q.1 - P.2 * Q.2)) (by grind) ((Z.mul' _ s0).add (Z.mul' _ s2))
    rcases Z_prime t1 with k | k
    · exact k
    · rcases Z_prime t2 with k' | k'
      · exact k'
      · exact (hQ ⟨k, k'⟩).elim
  obtain ⟨e, he, hs⟩ := sign_of pp
  have p2 : ¬ Z P.2 := fun k => hP ⟨Z.of_eq (b := (P.1 - e * P.2) + e * P.2) (by omega) (hs.add (Z.mul' _ k)), k⟩
  have q1 : Z (Q.1 - e * Q.2) := by
    refine (Z_prime (a := P.2) ?_).resolve_left p2
    refine Z.of_eq (b := (P.1 - e * P.2) * Q.2 - (P.1 * Q.2 - P.2 * Q.1)) ?_ ((hs.mul _).sub s0)
    grind
  have q2 : ¬ Z Q.2 := fun k => hQ ⟨Z.of_eq (b := (Q.1 - e * Q.2) + e * Q.2) (by omega) (q1.add (Z.mul' _ k)), k⟩
  have k : Z (4 * (P.2 * P.2 * (Q.2 * Q.2) * (2 * e + cA))) := by
    refine Z.of_eq (b := b1 cA P Q - (P.1 - e * P.2) * (2 * ((P.1 + e * P.2) * Q.1 * Q.2 + P.2 * Q.2 ^ 2 + P.2 * Q.1 ^ 2 + 2 * cA * P.2 * Q.1 * Q.2)) - (Q.1 - e * Q.2) * (2 * (2 * P.2 ^ 2 * Q.2 + e * P.2 ^ 2 * (Q.1 + e * Q.2) + 2 * cA * e * P.2 ^ 2 * Q.2))) ?_ ((g1.sub (hs.mul _)).sub (q1.mul _))
    simp only [b1]
    clear hr hP hQ h1 h2 g0 g1 g2 s2 s0 pp hs p2 q1 q2 hu
    generalize P.1 = x
    generalize P.2 = x'
    generalize Q.1 = y
    generalize Q.2 = y'
    generalize cA = c
    grind
  exact nz_mul nz4 (nz_mul (nz_mul (nz_mul p2 p2) (nz_mul q2 q2)) (nz_A e he)) k

/-- The multiples of the point (u, 1); the first number is fuel. -/
def xsF (u : Int) : Nat → Nat → Pt
  | 0, _ => (1, 0)
  | f + 1, n => if n = 0 then (1, 0) else if n = 1 then (u, 1) else if n % 2 = 0 then dbl (xsF u f (n / 2)) else dadd u (xsF u f (n / 2)) (xsF u f (n / 2 + 1))
theorem xsF_fuel (u : Int) : ∀ f f' n : Nat, n < f → n < f' → xsF u f n = xsF u f' n
  | 0, _, _, h, _ => by omega
  | _ + 1, 0, _, _, h => by omega
  | f + 1, f' + 1, n, h, h' => by
    simp only [xsF]
    split
    · rfl
    · split
      · rfl
      · split
        · rw [xsF_fuel u f f' (n / 2) (by omega) (by omega)]
        · rw [xsF_fuel u f f' (n / 2) (by omega) (by omega), xsF_fuel u f f' (n / 2 + 1) (by omega) (by omega)]
def xs (u : Int) (n : Nat) : Pt := xsF u (n + 1) n
theorem xs_zero (u : Int) : xs u 0 = (1, 0) := rfl
theorem xs_one (u : Int) : xs u 1 = (u, 1) := rfl
theorem xs_dbl (u : Int) (n : Nat) : xs u (2 * n) = dbl (xs u n) := by
  rcases Nat.eq_zero_or_pos n with rfl | h
  · rfl
  · unfold xs
    rw [xsF, if_neg (by omega), if_neg (by omega), if_pos (by omega), show 2 * n / 2 = n by omega, xsF_fuel u (2 * n) (n + 1) n (by omega) (by omega)]
theorem xs_add (u : Int) (n : Nat) (h : 1 ≤ n) : xs u (2 * n + 1) = dadd u (xs u n) (xs u (n + 1)) := by
  unfold xs
  rw [xsF, if_neg (by omega), if_neg (by omega), if_neg (by omega), show (2 * n + 1) / 2 = n by omega, xsF_fuel u (2 * n + 1) (n + 1) n (by omega) (by omega), xsF_fuel u (2 * n + 1) (n + 1 + 1) (n + 1) (by omega) (by omega)]

theorem xs_main {u : Int} (hu : ¬ Z u) : ∀ s, NZ (xs u s) ∧ ∀ m n, n ≤ m → m + n = s → Split cA (xs u m) (xs u n) (xs u (m + n)) (xs u (m - n)) := by
  intro s
  induction s using Nat.strongRecOn with
  | ind s ih =>
    have root : ∀ k, 1 ≤ k → k + 1 < s → Z (Fm cA (xs u k) (xs u (k + 1)) (u, 1)) := fun k hk hs => by
      have h := ((ih (k + 1) hs).2 k 1 hk rfl).root
      rw [xs_one] at h
      rwa [Fm_right] at h
    refine ⟨?_, fun m n => ?_⟩
    · rcases Nat.lt_or_ge s 2 with h | h
      · obtain rfl | rfl : s = 0 ∨ s = 1 := by omega
        · rw [xs_zero]; exact fun h => nz1 h.1
        · rw [xs_one]; exact fun h => nz1 h.2
      · rcases Nat.mod_two_eq_zero_or_one s with e | e
        · have es : s = 2 * (s / 2) := by omega
          rw [es, xs_dbl]
          exact nz_dbl (ih (s / 2) (by omega)).1
        · have es : s = 2 * (s / 2) + 1 := by omega
          rw [es, xs_add u _ (by omega)]
          exact nz_dadd hu (ih (s / 2) (by omega)).1 (ih (s / 2 + 1) (by omega)).1 (root (s / 2) (by omega) (by omega))
    · generalize hd : m - n = d
      induction d using Nat.strongRecOn generalizing m n with
      | ind d ihd =>
        intro hnm hs
        rw [← hd]
        rcases Nat.eq_zero_or_pos n with rfl | hn
        · rw [Nat.add_zero, Nat.sub_zero, xs_zero]; exact split_zero _
        · rcases Nat.lt_or_ge d 2 with h2 | h2
          · obtain rfl | rfl : d = 0 ∨ d = 1 := by omega
            · have e : m = n := by omega
              subst e
              rw [Nat.sub_self, xs_zero, ← Nat.two_mul, xs_dbl]
              exact split_dbl _
            · have e : m = n + 1 := by omega
              subst e
              rw [show n + 1 - n = 1 by omega, xs_one, show n + 1 + n = 2 * n + 1 by omega, xs_add u n hn]
              exact (split_next hu (root n hn (by omega))).symm
          · have s1 := (ih m (by omega)).2 (m - 1) 1 (by omega) (by omega)
            have s2 := ((ih (n + 1) (by omega)).2 n 1 hn rfl).symm
            have h1 := (ih (s - 2) (by omega)).2 (m - 2) n (by omega) (by omega)
            have h2' := (ihd (m - 1 - (n + 1)) (by omega) (m - 1) (n + 1) rfl (by omega) (by omega)).symm
            have h3 := ((ih (s - 2) (by omega)).2 (m - 1) (n - 1) (by omega) (by omega)).symm
            rw [show m - 1 + 1 = m by omega, show m - 1 - 1 = m - 2 by omega] at s1
            rw [show m - 1 + (n + 1) = m + n by omega, show m - 1 - (n + 1) = m - 2 - n by omega] at h2'
            rw [show m - 1 + (n - 1) = m - 2 + n by omega, show m - 1 - (n - 1) = m - n by omega] at h3
            exact next_sum s1 s2 h1 h2' h3 (ih (m - 2 + n) (by omega)).1 (ih (m - 2 - n) (by omega)).1
end Go.Proofs.Ytfciodbgjljjhaa
