/- The walks of times, choose, settle and product of package field: the product modulo 2^255 - 19, for every input. -/
import Derived.Test.YtpgmaidbemndnaaW1
import Derived.Test.YtpgmaidbemndnaaKit
namespace Go.Proofs.Ytpgmaidbemndnaa
open Go.RowKit

set_option maxHeartbeats 1000000 in
theorem times_raw (n a b c d a' b' c' d' r0 t0 r1 t1 r2 t2 r3 t3 : Nat) (w : World)
    (c0 : ∀ w, Calls Try.prog 37 #[.int .u64 n, .int .u64 a, .int .u64 a', .int .u64 0] w fun e w' => e = .returned (.tuple #[.int .u64 t0, .int .u64 r0]) ∧ w' = w)
    (c1 : ∀ w, Calls Try.prog 37 #[.int .u64 n, .int .u64 b, .int .u64 b', .int .u64 t0] w fun e w' => e = .returned (.tuple #[.int .u64 t1, .int .u64 r1]) ∧ w' = w)
    (c2 : ∀ w, Calls Try.prog 37 #[.int .u64 n, .int .u64 c, .int .u64 c', .int .u64 t1] w fun e w' => e = .returned (.tuple #[.int .u64 t2, .int .u64 r2]) ∧ w' = w)
    (c3 : ∀ w, Calls Try.prog 37 #[.int .u64 n, .int .u64 d, .int .u64 d', .int .u64 t2] w fun e w' => e = .returned (.tuple #[.int .u64 t3, .int .u64 r3]) ∧ w' = w) :
    Calls Try.prog 36 #[.int .u64 n, .agg #[.int .u64 a, .int .u64 b, .int .u64 c, .int .u64 d], .agg #[.int .u64 a', .int .u64 b', .int .u64 c', .int .u64 d']] w fun e w' =>
      e = .returned (.tuple #[.agg #[.int .u64 r0, .int .u64 r1, .int .u64 r2, .int .u64 r3], .int .u64 t3]) ∧ Below w.heap.size w w' := by
  have C0 : Hid _ := c0
  have C1 : Hid _ := c1
  have C2 : Hid _ := c2
  have C3 : Hid _ := c3
  clear c0 c1 c2 c3
  go_enter Try.func36, Try.ntmps36
  go_wp2_with fail
  refine (C0.out _).mono ?_
  rintro e w' ⟨rfl, rfl⟩
  go_wp2_with fail
  refine (C1.out _).mono ?_
  rintro e w' ⟨rfl, rfl⟩
  go_wp2_with fail
  refine (C2.out _).mono ?_
  rintro e w' ⟨rfl, rfl⟩
  go_wp2_with fail
  refine (C3.out _).mono ?_
  rintro e w' ⟨rfl, rfl⟩
  go_wp2_with fail
  refine bodyPost_ret (v := .tuple #[.agg #[.int .u64 r0, .int .u64 r1, .int .u64 r2, .int .u64 r3], .int .u64 t3]) (by simp [results, Try.results36, go_sem]) rfl ⟨rfl, ?_⟩
  exact (((Below.refl _ _).alloc (Nat.le_refl _) _).alloc (by simp) _).alloc (by simp; omega) _

theorem times_any (n x s : Nat) (hn : n < 18446744073709551616) (hx : x < top4) (hs : s < top4) (w : World) :
    Calls Try.prog 36 #[.int .u64 n, E4 x, E4 s] w fun e w' => e = .returned (.tuple #[E4 (n * x + s), .int .u64 ((n * x + s) / top4 : Nat)]) ∧ Below w.heap.size w w' := by
  have h0 := maHi_lt hn (w0_lt x) (w0_lt s) (t := 0) (by omega)
  have h1 := maHi_lt hn (w1_lt x) (w1_lt s) h0
  have h2 := maHi_lt hn (w2_lt x) (w2_lt s) h1
  obtain ⟨e0, e1, e2, e3, e4⟩ := times_words n x s hx
  have h := times_raw n _ _ _ _ _ _ _ _ _ _ _ _ _ _ _ _ w (mulAdd_any n (w0 x) (w0 s) 0 hn (w0_lt x) (w0_lt s) (by omega)) (mulAdd_any n (w1 x) (w1 s) _ hn (w1_lt x) (w1_lt s) h0)
    (mulAdd_any n (w2 x) (w2 s) _ hn (w2_lt x) (w2_lt s) h1) (mulAdd_any n (w3 x) (w3 s) _ hn (w3_lt x) (w3_lt s) h2)
  rw [e0, e1, e2, e3, e4 hs] at h
  exact h

/-- With no bit of the mask nothing is turned; with all of them the other one is taken. -/
theorem pick0 (a b : Nat) (ha : a < 18446744073709551616) (hb : b < 18446744073709551616) :
    bits .xor .u64 (a : Int) (bits .and .u64 0 (bits .xor .u64 (a : Int) (b : Int))) = (a : Int) := by
  rw [u64_xor_nat a b ha hb]
  have h := u64_and_nat 0 (a ^^^ b) (by omega) (Nat.xor_lt_two_pow (n := 64) ha hb)
  rw [Int.natCast_zero] at h
  rw [h, Nat.zero_and, u64_xor_nat a 0 ha (by omega), Nat.xor_zero]
theorem pick1 (a b : Nat) (ha : a < 18446744073709551616) (hb : b < 18446744073709551616) :
    bits .xor .u64 (a : Int) (bits .and .u64 18446744073709551615 (bits .xor .u64 (a : Int) (b : Int))) = (b : Int) := by
  have hx := Nat.xor_lt_two_pow (n := 64) ha hb
  rw [u64_xor_nat a b ha hb]
  have h := u64_and_nat 18446744073709551615 (a ^^^ b) (by omega) hx
  have e : 18446744073709551615 &&& (a ^^^ b) = a ^^^ b := by rw [Nat.and_comm, Nat.and_two_pow_sub_one_eq_mod _ 64]; exact Nat.mod_eq_of_lt hx
  rw [e] at h
  have h' : bits .and .u64 18446744073709551615 ((a ^^^ b : Nat) : Int) = ((a ^^^ b : Nat) : Int) := h
  rw [h', u64_xor_nat a _ ha hx, ← Nat.xor_assoc, Nat.xor_self, Nat.zero_xor]

set_option maxHeartbeats 1000000 in
theorem choose_raw (m a b c d a' b' c' d' : Int) (w : World) :
    Calls Try.prog 32 #[.int .u64 m, .agg #[.int .u64 a, .int .u64 b, .int .u64 c, .int .u64 d], .agg #[.int .u64 a', .int .u64 b', .int .u64 c', .int .u64 d']] w fun e w' =>
      e = .returned (.agg #[.int .u64 (bits .xor .u64 a (bits .and .u64 m (bits .xor .u64 a a'))), .int .u64 (bits .xor .u64 b (bits .and .u64 m (bits .xor .u64 b b'))), .int .u64 (bits .xor .u64 c (bits .and .u64 m (bits .xor .u64 c c'))), .int .u64 (bits .xor .u64 d (bits .and .u64 m (bits .xor .u64 d d')))]) ∧ Below w.heap.size w w' := by
  go_enter Try.func32, Try.ntmps32
  go_wp2
  refine bodyPost_ret (v := .agg #[.int .u64 (bits .xor .u64 a (bits .and .u64 m (bits .xor .u64 a a'))), .int .u64 (bits .xor .u64 b (bits .and .u64 m (bits .xor .u64 b b'))), .int .u64 (bits .xor .u64 c (bits .and .u64 m (bits .xor .u64 c c'))), .int .u64 (bits .xor .u64 d (bits .and .u64 m (bits .xor .u64 d d')))]) (by simp [results, Try.results32, go_sem]) rfl ⟨rfl, ?_⟩
  exact (((Below.refl _ _).alloc (Nat.le_refl _) _).alloc (by simp) _).alloc (by simp; omega) _

theorem choose_0 (x y : Nat) (w : World) :
    Calls Try.prog 32 #[.int .u64 0, E4 x, E4 y] w fun e w' => e = .returned (E4 x) ∧ Below w.heap.size w w' := by
  have h := choose_raw 0 (w0 x) (w1 x) (w2 x) (w3 x) (w0 y) (w1 y) (w2 y) (w3 y) w
  rw [pick0 _ _ (w0_lt x) (w0_lt y), pick0 _ _ (w1_lt x) (w1_lt y), pick0 _ _ (w2_lt x) (w2_lt y), pick0 _ _ (w3_lt x) (w3_lt y)] at h
  exact h
theorem choose_1 (x y : Nat) (w : World) :
    Calls Try.prog 32 #[.int .u64 18446744073709551615, E4 x, E4 y] w fun e w' => e = .returned (E4 y) ∧ Below w.heap.size w w' := by
  have h := choose_raw 18446744073709551615 (w0 x) (w1 x) (w2 x) (w3 x) (w0 y) (w1 y) (w2 y) (w3 y) w
  rw [pick1 _ _ (w0_lt x) (w0_lt y), pick1 _ _ (w1_lt x) (w1_lt y), pick1 _ _ (w2_lt x) (w2_lt y), pick1 _ _ (w3_lt x) (w3_lt y)] at h
  exact h

theorem bcell {W w1 : World} (hb : Below W.heap.size W w1) : (∀ b o, b < W.heap.size → w1.cell? ⟨b, o, none⟩ = W.cell? ⟨b, o, none⟩) ∧ (∀ b o, b < W.heap.size → w1.frozen? ⟨b, o, none⟩ = W.frozen? ⟨b, o, none⟩) :=
  ⟨fun b o h => hb.cell (p := ⟨b, o, none⟩) h, fun b o h => hb.frozen (p := ⟨b, o, none⟩) h⟩

theorem or_ov (x t : Nat) (ht : t ≤ 38) : bits .or .u64 (IntKind.u64.wrap ((t : Int) * 2)) ((w3 x : Nat) / 9223372036854775808 : Int) = ((ov x t : Nat) : Int) := by
  have h3 := w3_lt x
  rw [show ((t : Int) * 2) = ((t * 2 : Nat) : Int) by omega, wrapN _ (by omega), show ((w3 x : Nat) / 9223372036854775808 : Int) = ((w3 x / 9223372036854775808 : Nat) : Int) by omega,
    u64_or_nat _ _ (by omega) (by omega), nat_join 1 _ _ (by omega) (by omega)]
  unfold ov; omega
theorem andNot_top (a : Nat) (ha : a < 18446744073709551616) : bits .andNot .u64 (a : Int) 9223372036854775808 = ((a % 9223372036854775808 : Nat) : Int) := by
  have h := u64_andNot_nat a 9223372036854775808 ha (by omega)
  rw [show (18446744073709551615 - 9223372036854775808 : Nat) = 2 ^ 63 - 1 by decide, Nat.and_two_pow_sub_one_eq_mod a 63] at h
  exact h
theorem neg_0 : IntKind.u64.wrap (-(0 : Int)) = 0 := by rw [IntKind.wrap_u64]; omega
theorem neg_1 : IntKind.u64.wrap (-(1 : Int)) = 18446744073709551615 := by rw [IntKind.wrap_u64]; omega

set_option maxHeartbeats 2000000 in
theorem settle_raw (x t o m z r3 r3' : Nat) (mask : Int) (res : Nat) (w : World)
    (hor : bits .or .u64 (IntKind.u64.wrap ((t : Int) * 2)) ((w3 x : Nat) / 9223372036854775808 : Int) = ((o : Nat) : Int))
    (h19 : IntKind.u64.wrap (19 * (o : Int)) = ((19 * o : Nat) : Int))
    (han : bits .andNot .u64 ((w3 x : Nat) : Int) 9223372036854775808 = ((r3 : Nat) : Int))
    (han' : bits .andNot .u64 ((w3 z : Nat) : Int) 9223372036854775808 = ((r3' : Nat) : Int))
    (hneg : IntKind.u64.wrap (-(((w3 z : Nat) : Int) / 9223372036854775808)) = mask)
    (c1 : ∀ w, Calls Try.prog 28 #[.agg #[.int .u64 (w0 x), .int .u64 (w1 x), .int .u64 (w2 x), .int .u64 r3], .agg #[.int .u64 (19 * o : Nat), .int .u64 0, .int .u64 0, .int .u64 0]] w fun e w' => e = .returned (E4 m) ∧ Below w.heap.size w w')
    (c2 : ∀ w, Calls Try.prog 28 #[E4 m, .agg #[.int .u64 19, .int .u64 0, .int .u64 0, .int .u64 0]] w fun e w' => e = .returned (E4 z) ∧ Below w.heap.size w w')
    (c3 : ∀ w, Calls Try.prog 32 #[.int .u64 mask, E4 m, .agg #[.int .u64 (w0 z), .int .u64 (w1 z), .int .u64 (w2 z), .int .u64 r3']] w fun e w' => e = .returned (E4 res) ∧ Below w.heap.size w w') :
    Calls Try.prog 26 #[E4 x, .int .u64 t] w fun e w' => e = .returned (E4 res) ∧ Below w.heap.size w w' := by
  have C1 : Hid _ := c1
  have C2 : Hid _ := c2
  have C3 : Hid _ := c3
  clear c1 c2 c3
  go_enter Try.func26, Try.ntmps26
  go_wp2_with fail
  refine (C1.out _).mono ?_
  rintro e u1 ⟨rfl, hb1⟩
  clear hor h19 han
  have X1 := keep hb1 (b := w.heap.size) (by rw [heap_old _ _ (by simp)]; exact heap_new _ _)
  have Y1 := keep hb1 (b := w.heap.size + 1) (heap_new' _ _ (by simp))
  have B1 : Hid (Below w.heap.size w u1) := (((Below.refl _ _).alloc (Nat.le_refl _) _).alloc (by simp) _).trans (hb1.mono (by simp; omega))
  clear hb1
  have X : Hid _ := X1
  have Y : Hid _ := Y1
  obtain ⟨p0, p1, p2, p3, f0, f1, f2, f3⟩ := cells4 X1
  clear X1 Y1
  go_wp2_with fail
  refine (C2.out _).mono ?_
  rintro e u2 ⟨rfl, hb2⟩
  clear p0 p1 p2 p3 f0 f1 f2 f3
  have X1 := keep hb2 (heap_set4 X.out)
  have Y1 := keep hb2 (b := w.heap.size + 1) (by rw [heap_set_ne, heap_set_ne, heap_set_ne, heap_set_ne]; exact Y.out; all_goals omega)
  have B2 : Hid (Below w.heap.size w u2) := ((((B1.out.setCell (by simp) _).setCell (by simp) _).setCell (by simp) _).setCell (by simp) _).trans (hb2.mono (by simp; exact B1.out.size))
  clear hb2 X Y B1 u1
  have X : Hid _ := X1
  have Y : Hid _ := Y1
  obtain ⟨p0, p1, p2, p3, f0, f1, f2, f3⟩ := cells4 X1
  have hz : w.heap.size + 1 < u2.heap.size := lt_of_block Y1
  have hz0 : w.heap.size < u2.heap.size := lt_of_block X1
  clear X1 Y1
  go_wp2_with fail
  refine (C3.out _).mono ?_
  rintro e u3 ⟨rfl, hb3⟩
  clear p0 p1 p2 p3 f0 f1 f2 f3
  have Y1 := keep hb3 (b := w.heap.size + 1) (by rw [heap_old _ _ hz]; exact Y.out)
  have B3 : Hid (Below w.heap.size w u3) := (B2.out.alloc B2.out.size _).trans (hb3.mono (by have := B2.out.size; simp; omega))
  obtain ⟨p0, p1, p2, p3, f0, f1, f2, f3⟩ := cells4 Y1
  clear hb3 X Y B2 Y1 hz hz0
  go_wp2_with fail
  refine bodyPost_ret (v := E4 res) (by simp [results, Try.results26, go_sem, p0, p1, p2, p3]) rfl ⟨rfl, ?_⟩
  exact (((B3.out.setCell (by simp) _).setCell (by simp) _).setCell (by simp) _).setCell (by simp) _

theorem settle_any (x t : Nat) (hx : x < top4) (ht : t ≤ 38) (w : World) :
    Calls Try.prog 26 #[E4 x, .int .u64 t] w fun e w' => e = .returned (E4 (red x t)) ∧ Below w.heap.size w w' := by
  have ho := ov_le (x := x) ht
  obtain ⟨q0, q1, q2, q3⟩ := cut_words x
  obtain ⟨r0, r1, r2, r3⟩ := cut_words (mid x t + 19)
  obtain ⟨s0, s1, s2, s3⟩ := small_words (19 * ov x t) (by omega)
  have c1 := fun w => plus_any (x % b255) (19 * ov x t) w
  have c2 := fun w => plus_any (mid x t) 19 w
  have e2 : E4 19 = .agg #[.int .u64 19, .int .u64 0, .int .u64 0, .int .u64 0] := rfl
  rw [e2] at c2
  unfold E4 at c1
  rw [q0, q1, q2, s0, s1, s2, s3] at c1
  by_cases h : w3 (mid x t + 19) / 9223372036854775808 = 0
  · have hres := settle_lo hx ht h
    refine settle_raw x t (ov x t) (mid x t) (mid x t + 19) (w3 (x % b255)) (w3 ((mid x t + 19) % b255)) 0 (red x t) w (or_ov x t ht) (wrapN (19 * ov x t) (by omega)) (by rw [q3]; exact andNot_top _ (w3_lt x)) (by rw [r3]; exact andNot_top _ (w3_lt _))
      (by rw [show ((w3 (mid x t + 19) : Nat) : Int) / 9223372036854775808 = 0 by omega]; exact neg_0) c1 c2 ?_
    intro w
    have := choose_0 (mid x t) ((mid x t + 19) % b255) w
    unfold E4 at this
    rw [r0, r1, r2] at this
    rw [← hres]
    exact this
  · obtain ⟨hres, h1⟩ := settle_hi hx ht h
    refine settle_raw x t (ov x t) (mid x t) (mid x t + 19) (w3 (x % b255)) (w3 ((mid x t + 19) % b255)) 18446744073709551615 (red x t) w (or_ov x t ht) (wrapN (19 * ov x t) (by omega)) (by rw [q3]; exact andNot_top _ (w3_lt x)) (by rw [r3]; exact andNot_top _ (w3_lt _))
      (by rw [show ((w3 (mid x t + 19) : Nat) : Int) / 9223372036854775808 = 1 by omega]; exact neg_1) c1 c2 ?_
    intro w
    have := choose_1 (mid x t) ((mid x t + 19) % b255) w
    unfold E4 at this
    rw [r0, r1, r2] at this
    rw [← hres]
    unfold E4
    rw [r0, r1, r2]
    exact this
end Go.Proofs.Ytpgmaidbemndnaa
