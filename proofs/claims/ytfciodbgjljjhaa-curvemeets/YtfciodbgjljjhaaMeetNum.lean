/- No two secrets make nought of the base point. -/
import Derived.Test.YtfciodbgjljjhaaKum3
import Derived.Test.YtfciodbgjljjhaaEll
namespace Go.Proofs.Ytfciodbgjljjhaa

def ell32 : List Nat := [237, 211, 245, 92, 26, 99, 18, 88, 214, 156, 247, 162, 222, 249, 222, 20, 0, 0, 0, 0, 0, 0, 0, 0, 0, 0, 0, 0, 0, 0, 0, 16]
theorem ell_bits : nTo ell32 255 = ellN := by decide +kernel
theorem ell_end : (ladTo ell32 9 255).z2 = 0 := by decide +kernel
theorem nz9 : ¬ Z ((9 : Nat) : Int) := small_nz 9 (by decide) (by decide)
theorem ell_xs : Z (xs ((9 : Nat) : Int) ellN).2 := by
  have h := (lad_row (v := 9) (by decide) (row_xs nz9) ell32 255).1
  rw [ell_bits] at h
  refine h.z2 ?_
  show Z ((ladTo ell32 9 255).z2 : Int)
  rw [ell_end]; exact Z_zero
theorem end_sub {u : Int} (hu : ¬ Z u) {m n : Nat} (hnm : n ≤ m) (hm : Z (xs u m).2) (hn : Z (xs u n).2) : Z (xs u (m - n)).2 := by
  obtain ⟨l, μ, hlz, hμ, s0, s1, s2⟩ := (xs_main hu (m + n)).2 m n hnm rfl
  have ns := (xs_main hu (m + n)).1
  have e0 : Z ((xs u (m + n)).2 * (xs u (m - n)).2) := by
    refine (Z_prime (a := μ) ?_).resolve_left hμ
    refine Z.of_eq (b := l * b0 (xs u m) (xs u n) - (l * b0 (xs u m) (xs u n) - μ * ((xs u (m + n)).2 * (xs u (m - n)).2))) (by omega) ((Z.mul' _ ?_).sub s0)
    exact Z.of_eq (b := (xs u n).2 * ((xs u m).1 * ((xs u m).1 * (xs u n).2 - 2 * (xs u m).2 * (xs u n).1)) + (xs u m).2 * ((xs u m).2 * (xs u n).1 ^ 2)) (by simp only [b0]; grind) ((hn.mul _).add (hm.mul _))
  have e1 : Z ((xs u (m + n)).1 * (xs u (m - n)).2 + (xs u (m + n)).2 * (xs u (m - n)).1) := by
    refine (Z_prime (a := μ) ?_).resolve_left hμ
    refine Z.of_eq (b := l * b1 cA (xs u m) (xs u n) - (l * b1 cA (xs u m) (xs u n) - μ * ((xs u (m + n)).1 * (xs u (m - n)).2 + (xs u (m + n)).2 * (xs u (m - n)).1))) (by omega) ((Z.mul' _ ?_).sub s1)
    exact Z.of_eq (b := (xs u n).2 * (2 * ((xs u m).1 * ((xs u m).1 * (xs u n).1 + (xs u m).2 * (xs u n).2) + 2 * cA * (xs u m).1 * (xs u m).2 * (xs u n).1)) + (xs u m).2 * (2 * ((xs u n).1 * ((xs u m).1 * (xs u n).1 + (xs u m).2 * (xs u n).2)))) (by simp only [b1]; grind) ((hn.mul _).add (hm.mul _))
  rcases Z_prime e0 with z | z
  · have e2 : Z ((xs u (m + n)).1 * (xs u (m - n)).2) := Z.of_eq (b := ((xs u (m + n)).1 * (xs u (m - n)).2 + (xs u (m + n)).2 * (xs u (m - n)).1) - (xs u (m + n)).2 * (xs u (m - n)).1) (by omega) (e1.sub (z.mul _))
    rcases Z_prime e2 with z2 | z2
    · exact (ns ⟨z2, z⟩).elim
    · exact z2
  · exact z
theorem end_gcd {u : Int} (hu : ¬ Z u) : ∀ s m n : Nat, m + n ≤ s → Z (xs u m).2 → Z (xs u n).2 → Z (xs u (Nat.gcd m n)).2
  | 0, m, n, h, hm, _ => by
    obtain rfl : m = 0 := by omega
    obtain rfl : n = 0 := by omega
    exact hm
  | s + 1, m, n, h, hm, hn => by
    rcases Nat.eq_zero_or_pos m with rfl | pm
    · rw [Nat.gcd_zero_left]; exact hn
    · rcases Nat.eq_zero_or_pos n with rfl | pn
      · rw [Nat.gcd_zero_right]; exact hm
      · rcases Nat.lt_or_ge m n with h' | h'
        · have := end_gcd hu s m (n - m) (by omega) hm (end_sub hu (by omega) hn hm)
          rwa [Nat.gcd_sub_self_right (by omega)] at this
        · have := end_gcd hu s (m - n) n (by omega) (end_sub hu h' hm hn) hn
          rwa [Nat.gcd_sub_self_left h'] at this
theorem nTo_lt (ks : List Nat) : ∀ j, nTo ks j < 2 ^ j
  | 0 => Nat.zero_lt_one
  | j + 1 => by
    have := nTo_lt ks j
    have := bitAt_le ks (254 - j)
    show 2 * nTo ks j + bitAt ks (254 - j) < 2 ^ (j + 1)
    rw [Nat.pow_succ]
    omega
theorem nTo_pos (ks : List Nat) (h : bitAt ks 254 = 1) : ∀ j, 0 < nTo ks (j + 1)
  | 0 => by show 0 < 2 * 0 + bitAt ks 254; omega
  | j + 1 => by
    have := nTo_pos ks h j
    show 0 < 2 * nTo ks (j + 1) + bitAt ks (254 - (j + 1))
    omega
theorem scal_bit (ks : List Nat) (h : Bytes ks) (i : Nat) (hi : i < 3) : bitAt (scal ks) i = 0 := by
  unfold bitAt scal
  rw [show i / 8 = 0 by omega, getD_set, getD_set, if_neg (by omega), if_pos ⟨rfl, by rw [h.1]; decide⟩]
  obtain rfl | rfl | rfl : i = 0 ∨ i = 1 ∨ i = 2 := by omega
  all_goals simp only [Nat.reduceMod, Nat.reducePow]; omega
theorem scal_top (ks : List Nat) (h : Bytes ks) : bitAt (scal ks) 254 = 1 := by
  unfold bitAt scal
  rw [getD_set, if_pos ⟨rfl, by rw [List.length_set, h.1]; decide⟩]
  simp only [Nat.reduceMod, Nat.reducePow]
  omega
theorem scN_8 (ks : List Nat) (h : Bytes ks) : scN ks = 8 * nTo (scal ks) 252 := by
  have e1 : nTo (scal ks) 255 = 2 * nTo (scal ks) 254 + bitAt (scal ks) 0 := rfl
  have e2 : nTo (scal ks) 254 = 2 * nTo (scal ks) 253 + bitAt (scal ks) 1 := rfl
  have e3 : nTo (scal ks) 253 = 2 * nTo (scal ks) 252 + bitAt (scal ks) 2 := rfl
  unfold scN
  rw [e1, e2, e3, scal_bit ks h 0 (by omega), scal_bit ks h 1 (by omega), scal_bit ks h 2 (by omega)]
  omega
theorem scN_coprime (ks : List Nat) (h : Bytes ks) : Nat.Coprime (scN ks) ellN := by
  rw [scN_8 ks h]
  have c8 : Nat.Coprime 8 ellN := coprime_of ell_prime (fun d => absurd (Nat.le_of_dvd (by decide) d) (by decide))
  have cn : Nat.Coprime (nTo (scal ks) 252) ellN := coprime_of ell_prime (fun d => by
    have h1 : ellN ≤ nTo (scal ks) 252 := Nat.le_of_dvd (nTo_pos _ (scal_top ks h) 251) d
    have h2 := nTo_lt (scal ks) 252
    have h3 : 2 ^ 252 ≤ ellN := by decide
    omega)
  exact Nat.Coprime.mul_left c8 cn
theorem meets_nz (ka kb : List Nat) (ha : Bytes ka) (hb : Bytes kb) : curveN ka (keyL (curveN kb nine32)) ≠ 0 := by
  intro e
  have hv := curve_curve (kb := kb) (us := nine32) ha (u := 9) (by decide +kernel) (by decide)
  rw [e] at hv
  have z : Z (xs ((9 : Nat) : Int) (2 * (scN ka * scN kb))).2 := by
    rw [xs_dbl]
    rcases hv.2 with ⟨h, _⟩ | ⟨h1, h2, h3⟩
    · generalize xs ((9 : Nat) : Int) (scN ka * scN kb) = P at *
      rcases h with h | h
      · exact Z.of_eq (b := P.1 * (4 * P.2 * (P.1 ^ 2 + cA * P.1 * P.2 + P.2 ^ 2))) (by simp only [dbl]; grind) (h.mul _)
      · exact Z.of_eq (b := P.2 * (4 * P.1 * (P.1 ^ 2 + cA * P.1 * P.2 + P.2 ^ 2))) (by simp only [dbl]; grind) (h.mul _)
    · exact (h1 (Z.of_eq (b := -(((0 : Nat) : Int) * (xs ((9 : Nat) : Int) (scN ka * scN kb)).2 - (xs ((9 : Nat) : Int) (scN ka * scN kb)).1)) (by simp) h3.neg)).elim
  have g := end_gcd nz9 _ _ _ (Nat.le_refl _) z ell_xs
  have c2 : Nat.Coprime 2 ellN := coprime_of ell_prime (fun d => absurd (Nat.le_of_dvd (by decide) d) (by decide))
  have c : Nat.gcd (2 * (scN ka * scN kb)) ellN = 1 := Nat.Coprime.mul_left c2 (Nat.Coprime.mul_left (scN_coprime ka ha) (scN_coprime kb hb))
  rw [c, xs_one] at g
  exact nz1 g
end Go.Proofs.Ytfciodbgjljjhaa
