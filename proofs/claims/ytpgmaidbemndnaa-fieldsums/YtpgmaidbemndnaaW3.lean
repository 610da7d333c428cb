/- The walk of product of package field: the product of two numbers modulo 2^255 - 19, for every input. -/
import Derived.Test.YtpgmaidbemndnaaW2
namespace Go.Proofs.Ytpgmaidbemndnaa
open Go.RowKit

abbrev A4 (a b c d : Nat) : Value := .agg #[.int .u64 a, .int .u64 b, .int .u64 c, .int .u64 d]

set_option maxHeartbeats 4000000 in
theorem product_raw (x0 x1 x2 x3 y0 y1 y2 y3 a0 a1 a2 a3 at' b0 b1 b2 b3 bt c0 c1 c2 c3 ct d0 d1 d2 d3 dt t0 t1 t2 t3 tt r0 r1 r2 r3 : Nat) (w : World)
    (k1 : ∀ w, Calls Try.prog 36 #[.int .u64 x0, A4 y0 y1 y2 y3, .agg #[.int .u64 0, .int .u64 0, .int .u64 0, .int .u64 0]] w fun e w' => e = .returned (.tuple #[A4 a0 a1 a2 a3, .int .u64 at']) ∧ Below w.heap.size w w')
    (k2 : ∀ w, Calls Try.prog 36 #[.int .u64 x1, A4 y0 y1 y2 y3, A4 a1 a2 a3 at'] w fun e w' => e = .returned (.tuple #[A4 b0 b1 b2 b3, .int .u64 bt]) ∧ Below w.heap.size w w')
    (k3 : ∀ w, Calls Try.prog 36 #[.int .u64 x2, A4 y0 y1 y2 y3, A4 b1 b2 b3 bt] w fun e w' => e = .returned (.tuple #[A4 c0 c1 c2 c3, .int .u64 ct]) ∧ Below w.heap.size w w')
    (k4 : ∀ w, Calls Try.prog 36 #[.int .u64 x3, A4 y0 y1 y2 y3, A4 c1 c2 c3 ct] w fun e w' => e = .returned (.tuple #[A4 d0 d1 d2 d3, .int .u64 dt]) ∧ Below w.heap.size w w')
    (k5 : ∀ w, Calls Try.prog 36 #[.int .u64 38, A4 d1 d2 d3 dt, A4 a0 b0 c0 d0] w fun e w' => e = .returned (.tuple #[A4 t0 t1 t2 t3, .int .u64 tt]) ∧ Below w.heap.size w w')
    (k6 : ∀ w, Calls Try.prog 26 #[A4 t0 t1 t2 t3, .int .u64 tt] w fun e w' => e = .returned (A4 r0 r1 r2 r3) ∧ Below w.heap.size w w') :
    Calls Try.prog 31 #[A4 x0 x1 x2 x3, A4 y0 y1 y2 y3] w fun e w' => e = .returned (A4 r0 r1 r2 r3) ∧ Below w.heap.size w w' := by
  have K1 : Hid _ := k1
  have K2 : Hid _ := k2
  have K3 : Hid _ := k3
  have K4 : Hid _ := k4
  have K5 : Hid _ := k5
  have K6 : Hid _ := k6
  clear k1 k2 k3 k4 k5 k6
  go_enter Try.func31, Try.ntmps31
  go_wp2_with fail
  refine (K1.out _).mono ?_
  rintro e u1 ⟨rfl, hb⟩
  have X1 := keep hb (b := w.heap.size) (by rw [heap_old _ _ (by simp; omega), heap_old _ _ (by simp; omega), heap_old _ _ (by simp)]; exact heap_new _ _)
  have Y1 := keep hb (b := w.heap.size + 1) (by rw [heap_old _ _ (by simp), heap_old _ _ (by simp)]; exact heap_new' _ _ (by simp))
  have R1 := keep hb (b := w.heap.size + 1 + 1) (by rw [heap_old _ _ (by simp)]; exact heap_new' _ _ (by simp))
  have L1 := keep hb (b := w.heap.size + 1 + 1 + 1) (heap_new' _ _ (by simp))
  have B : Hid (Below w.heap.size w u1) := (((((Below.refl _ _).alloc (Nat.le_refl _) _).alloc (by simp) _).alloc (by simp; omega) _).alloc (by simp; omega) _).trans (hb.mono (by simp; omega))
  clear hb
  have hz3 := lt_of_block L1
  have hz2 := lt_of_block R1
  have hz1 := lt_of_block Y1
  have hz0 := lt_of_block X1
  obtain ⟨px0, px1, px2, px3, fx0, fx1, fx2, fx3⟩ := cells4 X1
  obtain ⟨py0, py1, py2, py3, fy0, fy1, fy2, fy3⟩ := cells4 Y1
  obtain ⟨pl0, pl1, pl2, pl3, fl0, fl1, fl2, fl3⟩ := cells4 L1
  have X : Hid _ := X1
  have Y : Hid _ := Y1
  have R : Hid _ := R1
  have L : Hid _ := L1
  clear X1 Y1 R1 L1
  go_wp2_with fail
  clear px0 px1 px2 px3 fx0 fx1 fx2 fx3 py0 py1 py2 py3 fy0 fy1 fy2 fy3 pl0 pl1 pl2 pl3 fl0 fl1 fl2 fl3
  refine (K2.out _).mono ?_
  rintro e u2 ⟨rfl, hb⟩
  have X1 := keep hb (b := w.heap.size) (by rw [heap_old _ _ (by rw [size_set]; omega), heap_set_ne _ _ (by omega)]; exact X.out)
  have Y1 := keep hb (b := w.heap.size + 1) (by rw [heap_old _ _ (by rw [size_set]; omega), heap_set_ne _ _ (by omega)]; exact Y.out)
  have R1 := keep hb (b := w.heap.size + 1 + 1) (by rw [heap_old _ _ (by rw [size_set]; omega), heap_set_ne _ _ (by omega)]; exact R.out)
  have L1 : u2.heap[w.heap.size + 1 + 1 + 1]? = some (.cells #[.int .u64 a0, .int .u64 0, .int .u64 0, .int .u64 0] 28) := keep hb (b := w.heap.size + 1 + 1 + 1) (by rw [heap_old _ _ (by rw [size_set]; omega)]; exact heap_set L.out 0 _)
  have Z1 := keep hb (b := u1.heap.size) (heap_new' _ _ (size_set _ _ _).symm)
  have B2 : Hid (Below w.heap.size w u2) := ((B.out.setCell (by simp; omega) _).alloc (by rw [size_set]; omega) _).trans (hb.mono (by rw [size_alloc, size_set]; omega))
  clear hb B
  have hzg := lt_of_block Z1
  have B : Hid _ := B2.out
  clear B2
  clear X Y R L
  have X : Hid _ := X1
  have Y : Hid _ := Y1
  have R : Hid _ := R1
  have L : Hid _ := L1
  have Z : Hid _ := Z1
  obtain ⟨px0, px1, px2, px3, fx0, fx1, fx2, fx3⟩ := cells4 X1
  obtain ⟨py0, py1, py2, py3, fy0, fy1, fy2, fy3⟩ := cells4 Y1
  obtain ⟨pl0, pl1, pl2, pl3, fl0, fl1, fl2, fl3⟩ := cells4 L1
  obtain ⟨ps0, ps1, ps2, ps3, fs0, fs1, fs2, fs3⟩ := cells4 Z1
  clear X1 Y1 R1 L1 Z1
  generalize u1.heap.size = g at *
  go_wp2_with fail
  clear px0 px1 px2 px3 fx0 fx1 fx2 fx3 py0 py1 py2 py3 fy0 fy1 fy2 fy3 pl0 pl1 pl2 pl3 fl0 fl1 fl2 fl3 ps0 ps1 ps2 ps3 fs0 fs1 fs2 fs3
  refine (K3.out _).mono ?_
  rintro e u3 ⟨rfl, hb⟩
  have X1 := keep hb (b := w.heap.size) (by rw [heap_set_ne _ _ (by omega), heap_set_ne _ _ (by omega), heap_set_ne _ _ (by omega), heap_set_ne _ _ (by omega), heap_set_ne _ _ (by omega)]; exact X.out)
  have Y1 := keep hb (b := w.heap.size + 1) (by rw [heap_set_ne _ _ (by omega), heap_set_ne _ _ (by omega), heap_set_ne _ _ (by omega), heap_set_ne _ _ (by omega), heap_set_ne _ _ (by omega)]; exact Y.out)
  have R1 := keep hb (b := w.heap.size + 1 + 1) (by rw [heap_set_ne _ _ (by omega), heap_set_ne _ _ (by omega), heap_set_ne _ _ (by omega), heap_set_ne _ _ (by omega), heap_set_ne _ _ (by omega)]; exact R.out)
  have L1 : u3.heap[w.heap.size + 1 + 1 + 1]? = some (.cells #[.int .u64 a0, .int .u64 b0, .int .u64 0, .int .u64 0] 28) := keep hb (b := w.heap.size + 1 + 1 + 1) (by rw [heap_set (by rw [heap_set_ne _ _ (by omega), heap_set_ne _ _ (by omega), heap_set_ne _ _ (by omega), heap_set_ne _ _ (by omega)]; exact L.out)]; rfl)
  have Z1 := keep hb (b := g) (by rw [heap_set_ne _ _ (by omega)]; exact heap_set4 Z.out)
  have B2 : Hid (Below w.heap.size w u3) := (((((B.out.setCell (by simp; omega) _).setCell (by simp; omega) _).setCell (by simp; omega) _).setCell (by simp; omega) _).setCell (by simp; omega) _).trans (hb.mono (by simp only [size_set]; exact B.out.size))
  clear hb B
  have B : Hid _ := B2.out
  clear B2 Z
  clear X Y R L
  have X : Hid _ := X1
  have Y : Hid _ := Y1
  have R : Hid _ := R1
  have L : Hid _ := L1
  have Z : Hid _ := Z1
  obtain ⟨px0, px1, px2, px3, fx0, fx1, fx2, fx3⟩ := cells4 X1
  obtain ⟨py0, py1, py2, py3, fy0, fy1, fy2, fy3⟩ := cells4 Y1
  obtain ⟨pl0, pl1, pl2, pl3, fl0, fl1, fl2, fl3⟩ := cells4 L1
  obtain ⟨ps0, ps1, ps2, ps3, fs0, fs1, fs2, fs3⟩ := cells4 Z1
  clear X1 Y1 R1 L1 Z1
  go_wp2_with fail
  clear px0 px1 px2 px3 fx0 fx1 fx2 fx3 py0 py1 py2 py3 fy0 fy1 fy2 fy3 pl0 pl1 pl2 pl3 fl0 fl1 fl2 fl3 ps0 ps1 ps2 ps3 fs0 fs1 fs2 fs3
  refine (K4.out _).mono ?_
  rintro e u4 ⟨rfl, hb⟩
  have X1 := keep hb (b := w.heap.size) (by rw [heap_set_ne _ _ (by omega), heap_set_ne _ _ (by omega), heap_set_ne _ _ (by omega), heap_set_ne _ _ (by omega), heap_set_ne _ _ (by omega)]; exact X.out)
  have Y1 := keep hb (b := w.heap.size + 1) (by rw [heap_set_ne _ _ (by omega), heap_set_ne _ _ (by omega), heap_set_ne _ _ (by omega), heap_set_ne _ _ (by omega), heap_set_ne _ _ (by omega)]; exact Y.out)
  have R1 := keep hb (b := w.heap.size + 1 + 1) (by rw [heap_set_ne _ _ (by omega), heap_set_ne _ _ (by omega), heap_set_ne _ _ (by omega), heap_set_ne _ _ (by omega), heap_set_ne _ _ (by omega)]; exact R.out)
  have L1 : u4.heap[w.heap.size + 1 + 1 + 1]? = some (.cells #[.int .u64 a0, .int .u64 b0, .int .u64 c0, .int .u64 0] 28) := keep hb (b := w.heap.size + 1 + 1 + 1) (by rw [heap_set (by rw [heap_set_ne _ _ (by omega), heap_set_ne _ _ (by omega), heap_set_ne _ _ (by omega), heap_set_ne _ _ (by omega)]; exact L.out)]; rfl)
  have Z1 := keep hb (b := g) (by rw [heap_set_ne _ _ (by omega)]; exact heap_set4 Z.out)
  have B2 : Hid (Below w.heap.size w u4) := (((((B.out.setCell (by simp; omega) _).setCell (by simp; omega) _).setCell (by simp; omega) _).setCell (by simp; omega) _).setCell (by simp; omega) _).trans (hb.mono (by simp only [size_set]; exact B.out.size))
  clear hb B
  have B : Hid _ := B2.out
  clear B2 Z
  clear X Y R L
  have X : Hid _ := X1
  have Y : Hid _ := Y1
  have R : Hid _ := R1
  have L : Hid _ := L1
  have Z : Hid _ := Z1
  obtain ⟨px0, px1, px2, px3, fx0, fx1, fx2, fx3⟩ := cells4 X1
  obtain ⟨py0, py1, py2, py3, fy0, fy1, fy2, fy3⟩ := cells4 Y1
  obtain ⟨pl0, pl1, pl2, pl3, fl0, fl1, fl2, fl3⟩ := cells4 L1
  obtain ⟨ps0, ps1, ps2, ps3, fs0, fs1, fs2, fs3⟩ := cells4 Z1
  clear X1 Y1 R1 L1 Z1
  go_wp2_with fail
  clear px0 px1 px2 px3 fx0 fx1 fx2 fx3 py0 py1 py2 py3 fy0 fy1 fy2 fy3 pl0 pl1 pl2 pl3 fl0 fl1 fl2 fl3 ps0 ps1 ps2 ps3 fs0 fs1 fs2 fs3
  refine (K5.out _).mono ?_
  rintro e u5 ⟨rfl, hb⟩
  have X1 := keep hb (b := w.heap.size) (by rw [heap_set_ne _ _ (by omega), heap_set_ne _ _ (by omega), heap_set_ne _ _ (by omega), heap_set_ne _ _ (by omega), heap_set_ne _ _ (by omega)]; exact X.out)
  have Y1 := keep hb (b := w.heap.size + 1) (by rw [heap_set_ne _ _ (by omega), heap_set_ne _ _ (by omega), heap_set_ne _ _ (by omega), heap_set_ne _ _ (by omega), heap_set_ne _ _ (by omega)]; exact Y.out)
  have R1 := keep hb (b := w.heap.size + 1 + 1) (by rw [heap_set_ne _ _ (by omega), heap_set_ne _ _ (by omega), heap_set_ne _ _ (by omega), heap_set_ne _ _ (by omega), heap_set_ne _ _ (by omega)]; exact R.out)
  have L1 : u5.heap[w.heap.size + 1 + 1 + 1]? = some (.cells #[.int .u64 a0, .int .u64 b0, .int .u64 c0, .int .u64 d0] 28) := keep hb (b := w.heap.size + 1 + 1 + 1) (by rw [heap_set (by rw [heap_set_ne _ _ (by omega), heap_set_ne _ _ (by omega), heap_set_ne _ _ (by omega), heap_set_ne _ _ (by omega)]; exact L.out)]; rfl)
  have Z1 := keep hb (b := g) (by rw [heap_set_ne _ _ (by omega)]; exact heap_set4 Z.out)
  have B2 : Hid (Below w.heap.size w u5) := (((((B.out.setCell (by simp; omega) _).setCell (by simp; omega) _).setCell (by simp; omega) _).setCell (by simp; omega) _).setCell (by simp; omega) _).trans (hb.mono (by simp only [size_set]; exact B.out.size))
  clear hb B
  have B : Hid _ := B2.out
  clear B2 Z
  clear X Y R L
  have X : Hid _ := X1
  have Y : Hid _ := Y1
  have R : Hid _ := R1
  have L : Hid _ := L1
  have Z : Hid _ := Z1
  obtain ⟨px0, px1, px2, px3, fx0, fx1, fx2, fx3⟩ := cells4 R1
  clear X1 Y1 R1 L1 Z1
  go_wp2_with fail
  clear px0 px1 px2 px3 fx0 fx1 fx2 fx3
  refine (K6.out _).mono ?_
  rintro e u6 ⟨rfl, hb⟩
  have R1 := keep hb (b := w.heap.size + 1 + 1) R.out
  have B2 : Hid (Below w.heap.size w u6) := B.out.trans (hb.mono B.out.size)
  clear hb B X Y R L Z
  obtain ⟨p0, p1, p2, p3, f0, f1, f2, f3⟩ := cells4 R1
  clear R1
  go_wp2_with fail
  refine bodyPost_ret (v := A4 r0 r1 r2 r3) (by simp [results, Try.results31, go_sem, p0, p1, p2, p3]) rfl ⟨rfl, ?_⟩
  exact (((B2.out.setCell (by simp; omega) _).setCell (by simp; omega) _).setCell (by simp; omega) _).setCell (by simp; omega) _

theorem E4_mod (n : Nat) : E4 (n % top4) = E4 n := by
  have h1 : n % top4 % 18446744073709551616 = n % 18446744073709551616 := by unfold top4; omega
  have h2 : n % top4 / 18446744073709551616 = n / 18446744073709551616 % 6277101735386680763835789423207666416102355444464034512896 := by
    rw [show top4 = 18446744073709551616 * 6277101735386680763835789423207666416102355444464034512896 by decide]; exact Nat.mod_mul_right_div_self n _ _
  unfold E4 w0 w1 w2 w3
  rw [h1, h2]
  generalize n / 18446744073709551616 = m
  have e1 : m % 6277101735386680763835789423207666416102355444464034512896 % 18446744073709551616 = m % 18446744073709551616 := by omega
  have e2 : m % 6277101735386680763835789423207666416102355444464034512896 / 18446744073709551616 = m / 18446744073709551616 % 340282366920938463463374607431768211456 := by
    rw [show (6277101735386680763835789423207666416102355444464034512896 : Nat) = 18446744073709551616 * 340282366920938463463374607431768211456 by decide]; exact Nat.mod_mul_right_div_self m _ _
  rw [e1, e2]
  generalize m / 18446744073709551616 = q
  have e3 : q % 340282366920938463463374607431768211456 % 18446744073709551616 = q % 18446744073709551616 := by omega
  have e4 : q % 340282366920938463463374607431768211456 / 18446744073709551616 % 18446744073709551616 = q / 18446744073709551616 % 18446744073709551616 := by omega
  rw [e3, e4]
theorem E4_shift (n : Nat) (h : n < 2135987035920910082395021706169552114602704522356652769947041607822219725780640550022962086936576) : E4 (n / 18446744073709551616) = A4 (w1 n) (w2 n) (w3 n) (n / top4) := by
  obtain ⟨h0, h1, h2⟩ := shift_words n
  unfold E4
  rw [h0, h1, h2, shift_top n h]
theorem E4_low (x y : Nat) : E4 (lowN x y) = A4 (w0 (S1 x y)) (w0 (S2 x y)) (w0 (S3 x y)) (w0 (S4 x y)) := by
  obtain ⟨h0, h1, h2, h3⟩ := w_mk4 (w0_lt (S1 x y)) (w0_lt (S2 x y)) (w0_lt (S3 x y)) (w0_lt (S4 x y))
  unfold E4 lowN
  rw [h0, h1, h2, h3]

theorem product_any (x y : Nat) (hx : x < top4) (hy : y < top4) (w : World) :
    Calls Try.prog 31 #[E4 x, E4 y] w fun e w' => e = .returned (E4 (x * y % pN)) ∧ Below w.heap.size w w' := by
  obtain ⟨q1, q2, q3, q4⟩ := S_lt x hy
  obtain ⟨s1, s2, s3, s4⟩ := S_small x hy
  obtain ⟨ht, hr⟩ := prod_red x y hx hy
  have k1 := fun w => times_any (w0 x) y 0 (w0_lt x) hy (by decide) w
  have k2 := fun w => times_any (w1 x) y (S1 x y / 18446744073709551616) (w1_lt x) hy q1 w
  have k3 := fun w => times_any (w2 x) y (S2 x y / 18446744073709551616) (w2_lt x) hy q2 w
  have k4 := fun w => times_any (w3 x) y (S3 x y / 18446744073709551616) (w3_lt x) hy q3 w
  have k5 := fun w => times_any 38 (S4 x y / 18446744073709551616) (lowN x y) (by omega) q4 (lowN_lt x y) w
  have k6 := fun w => settle_any ((38 * (S4 x y / 18446744073709551616) + lowN x y) % top4) ((38 * (S4 x y / 18446744073709551616) + lowN x y) / top4) (Nat.mod_lt _ (by decide)) ht w
  rw [E4_shift _ s1] at k2
  rw [E4_shift _ s2] at k3
  rw [E4_shift _ s3] at k4
  rw [E4_shift _ s4, E4_low] at k5
  rw [E4_mod, hr] at k6
  exact product_raw _ _ _ _ _ _ _ _ _ _ _ _ _ _ _ _ _ _ _ _ _ _ _ _ _ _ _ _ _ _ _ _ _ _ _ _ _ w k1 k2 k3 k4 k5 k6
end Go.Proofs.Ytpgmaidbemndnaa
