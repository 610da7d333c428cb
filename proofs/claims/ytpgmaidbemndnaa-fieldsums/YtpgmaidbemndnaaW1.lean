/- The walks of package field's words: what plus, opposite, mulAdd, times, choose, settle and product return, for every input. -/
import Derived.Test.YtpgmaidbemndnaaRows
import Derived.Test.YtpgmaidbemndnaaNum
import Derived.WalkKit
import Derived.WalkSpells
import Derived.WalkLawsBesides
import Derived.Laws.Externs
import Derived.Laws.BitsAllLaws
import Derived.Lib.Mul64
namespace Go.Proofs.Ytpgmaidbemndnaa
open Go.RowKit

/-- A number's four words, as the struct that bears them. -/
abbrev E4 (n : Nat) : Value := .agg #[.int .u64 (w0 n), .int .u64 (w1 n), .int .u64 (w2 n), .int .u64 (w3 n)]

theorem add64_run (x y c : Nat) (hc : c ≤ 1) (w : World) :
    (callFunc 34 #[.int .u64 x, .int .u64 y, .int .u64 c]).run Try.prog w = .ok (.value (.tuple #[.int .u64 (sumLo x y c), .int .u64 (sumHi x y c)])) w := by
  rw [run_callFunc_extern Try.func34 (by kernel_rfl) (by kernel_rfl) (by kernel_rfl) (e := add64Entry) (by kernel_rfl), run_add64 x y c (by omega) (by omega) (by omega) (by omega)]
  simp only [Result.andThen, sumLo, sumHi]
  congr 5 <;> omega
theorem add64_run0 (x y : Nat) (w : World) :
    (callFunc 34 #[.int .u64 x, .int .u64 y, .int .u64 0]).run Try.prog w = .ok (.value (.tuple #[.int .u64 (sumLo x y 0), .int .u64 (sumHi x y 0)])) w := add64_run x y 0 (by omega) w

def sub64Entry : Array Value → Sem Value := fun args => do
  let (x, y, b) ← Extern.MathBitsCarry.three "Sub64" args
  pure (Extern.MathBitsCarry.pair ((x + Extern.MathBitsCarry.m64 - y - b) % Extern.MathBitsCarry.m64) (if x < y + b then 1 else 0))
theorem run_sub64 {P : Program} (x y b : Nat) (hb : b ≤ 1) (w : World) :
    (sub64Entry #[.int .u64 x, .int .u64 y, .int .u64 b]).run P w = .ok (.tuple #[.int .u64 (subLo x y b), .int .u64 (subHi x y b)]) w := by
  have : b = 0 ∨ b = 1 := by omega
  rcases this with rfl | rfl <;> rfl
theorem sub64_run (x y c : Nat) (hc : c ≤ 1) (w : World) :
    (callFunc 35 #[.int .u64 x, .int .u64 y, .int .u64 c]).run Try.prog w = .ok (.value (.tuple #[.int .u64 (subLo x y c), .int .u64 (subHi x y c)])) w := by
  rw [run_callFunc_extern Try.func35 (by kernel_rfl) (by kernel_rfl) (by kernel_rfl) (e := sub64Entry) (by kernel_rfl), run_sub64 x y c hc]
  rfl

set_option maxHeartbeats 1000000 in
theorem plus_raw (a b c d a' b' c' d' : Nat) (w : World)
    (h0 : sumHi a a' 0 ≤ 1) (h1 : sumHi b b' (sumHi a a' 0) ≤ 1) (h2 : sumHi c c' (sumHi b b' (sumHi a a' 0)) ≤ 1) :
    Calls Try.prog 28 #[.agg #[.int .u64 a, .int .u64 b, .int .u64 c, .int .u64 d], .agg #[.int .u64 a', .int .u64 b', .int .u64 c', .int .u64 d']] w fun e w' =>
      e = .returned (.agg #[.int .u64 (sumLo a a' 0), .int .u64 (sumLo b b' (sumHi a a' 0)), .int .u64 (sumLo c c' (sumHi b b' (sumHi a a' 0))), .int .u64 (sumLo d d' (sumHi c c' (sumHi b b' (sumHi a a' 0))))]) ∧ Below w.heap.size w w' := by
  have e0 := fun w => add64_run0 a a' w
  have e1 := fun w => add64_run b b' _ h0 w
  have e2 := fun w => add64_run c c' _ h1 w
  have e3 := fun w => add64_run d d' _ h2 w
  clear h0 h1 h2
  go_enter Try.func28, Try.ntmps28
  go_wp2
  refine bodyPost_ret (v := .agg #[.int .u64 (sumLo a a' 0), .int .u64 (sumLo b b' (sumHi a a' 0)), .int .u64 (sumLo c c' (sumHi b b' (sumHi a a' 0))), .int .u64 (sumLo d d' (sumHi c c' (sumHi b b' (sumHi a a' 0))))]) (by simp [results, Try.results28, go_sem]) rfl ⟨rfl, ?_⟩
  exact (((Below.refl _ _).alloc (Nat.le_refl _) _).alloc (by simp) _).alloc (by simp; omega) _

theorem plus_any (x y : Nat) (w : World) :
    Calls Try.prog 28 #[E4 x, E4 y] w fun e w' => e = .returned (E4 (x + y)) ∧ Below w.heap.size w w' := by
  have h0 := sumHi_le (w0_lt x) (w0_lt y) (c := 0) (by omega)
  have h1 := sumHi_le (w1_lt x) (w1_lt y) h0
  have h2 := sumHi_le (w2_lt x) (w2_lt y) h1
  obtain ⟨e0, e1, e2, e3⟩ := plus_words x y
  have h := plus_raw _ _ _ (w3 x) _ _ _ (w3 y) w h0 h1 h2
  rw [e0, e1, e2, e3] at h
  exact h


set_option maxHeartbeats 1000000 in
theorem opposite_raw (a b c d : Nat) (w : World) :
    Calls Try.prog 29 #[.agg #[.int .u64 a, .int .u64 b, .int .u64 c, .int .u64 d]] w fun e w' =>
      e = .returned (.agg #[.int .u64 (subLo 18446744073709551597 a 0), .int .u64 (subLo 18446744073709551615 b (subHi 18446744073709551597 a 0)), .int .u64 (subLo 18446744073709551615 c (subHi 18446744073709551615 b (subHi 18446744073709551597 a 0))),
        .int .u64 (subLo 9223372036854775807 d (subHi 18446744073709551615 c (subHi 18446744073709551615 b (subHi 18446744073709551597 a 0))))]) ∧ Below w.heap.size w w' := by
  obtain ⟨r0, r0', e0⟩ : ∃ r r' : Nat, (r = subLo 18446744073709551597 a 0 ∧ r' = subHi 18446744073709551597 a 0) ∧ ∀ w, (callFunc 35 #[.int .u64 18446744073709551597, .int .u64 a, .int .u64 0]).run Try.prog w = .ok (.value (.tuple #[.int .u64 r, .int .u64 r'])) w := ⟨_, _, ⟨rfl, rfl⟩, fun w => sub64_run _ _ 0 (by omega) w⟩
  have b0 : r0' ≤ 1 := by rw [e0.1.2]; exact subHi_le _ _ _
  obtain ⟨r1, r1', e1⟩ : ∃ r r' : Nat, (r = subLo 18446744073709551615 b r0' ∧ r' = subHi 18446744073709551615 b r0') ∧ ∀ w, (callFunc 35 #[.int .u64 18446744073709551615, .int .u64 b, .int .u64 r0']).run Try.prog w = .ok (.value (.tuple #[.int .u64 r, .int .u64 r'])) w := ⟨_, _, ⟨rfl, rfl⟩, fun w => sub64_run _ _ _ b0 w⟩
  have b1 : r1' ≤ 1 := by rw [e1.1.2]; exact subHi_le _ _ _
  obtain ⟨r2, r2', e2⟩ : ∃ r r' : Nat, (r = subLo 18446744073709551615 c r1' ∧ r' = subHi 18446744073709551615 c r1') ∧ ∀ w, (callFunc 35 #[.int .u64 18446744073709551615, .int .u64 c, .int .u64 r1']).run Try.prog w = .ok (.value (.tuple #[.int .u64 r, .int .u64 r'])) w := ⟨_, _, ⟨rfl, rfl⟩, fun w => sub64_run _ _ _ b1 w⟩
  have b2 : r2' ≤ 1 := by rw [e2.1.2]; exact subHi_le _ _ _
  obtain ⟨r3, r3', e3⟩ : ∃ r r' : Nat, (r = subLo 9223372036854775807 d r2' ∧ r' = subHi 9223372036854775807 d r2') ∧ ∀ w, (callFunc 35 #[.int .u64 9223372036854775807, .int .u64 d, .int .u64 r2']).run Try.prog w = .ok (.value (.tuple #[.int .u64 r, .int .u64 r'])) w := ⟨_, _, ⟨rfl, rfl⟩, fun w => sub64_run _ _ _ b2 w⟩
  obtain ⟨g0, e0⟩ := e0
  obtain ⟨g1, e1⟩ := e1
  obtain ⟨g2, e2⟩ := e2
  obtain ⟨g3, e3⟩ := e3
  have G : Hid (subLo 18446744073709551597 a 0 = r0 ∧ subLo 18446744073709551615 b (subHi 18446744073709551597 a 0) = r1 ∧ subLo 18446744073709551615 c (subHi 18446744073709551615 b (subHi 18446744073709551597 a 0)) = r2 ∧
        subLo 9223372036854775807 d (subHi 18446744073709551615 c (subHi 18446744073709551615 b (subHi 18446744073709551597 a 0))) = r3) := by
    refine ⟨?_, ?_, ?_, ?_⟩
    · rw [g0.1]
    · rw [g1.1, g0.2]
    · rw [g2.1, g1.2, g0.2]
    · rw [g3.1, g2.2, g1.2, g0.2]
  clear g0 g1 g2 g3 b0 b1 b2
  rw [G.out.1, G.out.2.1, G.out.2.2.1, G.out.2.2.2]
  clear G
  go_enter Try.func29, Try.ntmps29
  go_wp2
  refine bodyPost_ret (v := .agg #[.int .u64 r0, .int .u64 r1, .int .u64 r2, .int .u64 r3]) (by simp [results, Try.results29, go_sem]) rfl ⟨rfl, ?_⟩
  exact ((Below.refl _ _).alloc (Nat.le_refl _) _).alloc (by simp) _

theorem opposite_any (x : Nat) (hx : x ≤ pN) (w : World) :
    Calls Try.prog 29 #[E4 x] w fun e w' => e = .returned (E4 (pN - x)) ∧ Below w.heap.size w w' := by
  obtain ⟨e0, e1, e2, e3⟩ := opp_words x hx
  have h := opposite_raw (w0 x) (w1 x) (w2 x) (w3 x) w
  rw [e0, e1, e2, e3] at h
  exact h

theorem maskN (a : Nat) (ha : a < 18446744073709551616) : bits .and .u64 (a : Int) 4294967295 = ((a % 4294967296 : Nat) : Int) := by
  have h := u64_and_nat a 4294967295 ha (by omega)
  rw [show a &&& 4294967295 = a % 4294967296 from Nat.and_two_pow_sub_one_eq_mod a 32] at h
  exact h
theorem divN32 (a : Nat) : (a : Int) / 4294967296 = ((a / 4294967296 : Nat) : Int) := by omega
theorem mulN (a b : Nat) : (a : Int) * (b : Int) = ((a * b : Nat) : Int) := (Int.natCast_mul a b).symm
theorem addN (a b : Nat) : (a : Int) + (b : Int) = ((a + b : Nat) : Int) := (Int.natCast_add a b).symm
theorem wrapN (a : Nat) (ha : a < 18446744073709551616) : IntKind.u64.wrap (a : Int) = (a : Int) := by rw [IntKind.wrap_u64]; omega
theorem wrapM (a : Nat) : IntKind.u64.wrap (a : Int) = ((a % 18446744073709551616 : Nat) : Int) := by rw [IntKind.wrap_u64]; omega

set_option maxHeartbeats 1000000 in
theorem mul64_any (x y : Nat) (hx : x < 18446744073709551616) (hy : y < 18446744073709551616) (w : World) :
    Calls Try.prog 38 #[.int .u64 x, .int .u64 y] w fun e w' => e = .returned (.tuple #[.int .u64 (maHi x y 0 0), .int .u64 (maLo x y 0 0)]) ∧ w' = w := by
  obtain ⟨bd, bt, bw, hhi⟩ := Lib.mul64_hi x y hx hy
  have ba := Lib.half_mul_le (a := x / 4294967296) (b := y / 4294967296) (by omega) (by omega)
  have bb := Lib.half_mul_le (a := x / 4294967296) (b := y % 4294967296) (by omega) (by omega)
  have bc := Lib.half_mul_le (a := x % 4294967296) (b := y / 4294967296) (by omega) (by omega)
  have ba' : x / 4294967296 * (y / 4294967296) < 18446744073709551616 := by omega
  have bb' : x / 4294967296 * (y % 4294967296) < 18446744073709551616 := by omega
  have bc' : x % 4294967296 * (y / 4294967296) < 18446744073709551616 := by omega
  have bh1 : x / 4294967296 * (y / 4294967296) + (x / 4294967296 * (y % 4294967296) + x % 4294967296 * (y % 4294967296) / 4294967296) / 4294967296 < 18446744073709551616 := by omega
  have bh : x / 4294967296 * (y / 4294967296) + (x / 4294967296 * (y % 4294967296) + x % 4294967296 * (y % 4294967296) / 4294967296) / 4294967296 + ((x / 4294967296 * (y % 4294967296) + x % 4294967296 * (y % 4294967296) / 4294967296) % 4294967296 + x % 4294967296 * (y / 4294967296)) / 4294967296 < 18446744073709551616 := by omega
  have hF : maHi x y 0 0 = x * y / 18446744073709551616 := rfl
  have hL : maLo x y 0 0 = x * y % 18446744073709551616 := rfl
  rw [hF, hL]
  go_enter Try.func38, Try.ntmps38
  go_wp2
  simp only [maskN x hx, maskN y hy, divN32, mulN, addN, wrapN _ bd, wrapN _ bb', wrapN _ bt, maskN _ bt, wrapN _ bc', wrapN _ bw, wrapN _ ba', wrapN _ bh1, wrapN _ bh, wrapM (x * y)]
  rw [hhi]
  go_ret2
  exact ⟨rfl, rfl⟩

/-- What mulAdd's three steps come to. -/
theorem ma_steps (n m s t : Nat) :
    sumLo (sumLo (maLo n m 0 0) s 0) t 0 = maLo n m s t ∧ maHi n m 0 0 + sumHi (maLo n m 0 0) s 0 + sumHi (sumLo (maLo n m 0 0) s 0) t 0 = maHi n m s t := by
  unfold maLo maHi sumLo sumHi; omega

set_option maxHeartbeats 1000000 in
theorem mulAdd_any (n m s t : Nat) (hn : n < 18446744073709551616) (hm : m < 18446744073709551616) (hs : s < 18446744073709551616) (ht : t < 18446744073709551616) (w : World) :
    Calls Try.prog 37 #[.int .u64 n, .int .u64 m, .int .u64 s, .int .u64 t] w fun e w' => e = .returned (.tuple #[.int .u64 (maHi n m s t), .int .u64 (maLo n m s t)]) ∧ w' = w := by
  obtain ⟨q1, q2⟩ := ma_steps n m s t
  have b1 := maHi_lt hn hm hs ht
  have c0 := mul64_any n m hn hm
  have e1 := fun w => add64_run0 (maLo n m 0 0) s w
  have e2 := fun w => add64_run0 (sumLo (maLo n m 0 0) s 0) t w
  have b2 : maHi n m 0 0 + sumHi (maLo n m 0 0) s 0 < 18446744073709551616 := by omega
  rw [← q1, ← q2]
  rw [← q2] at b1
  have HB : Hid (maHi n m 0 0 + sumHi (maLo n m 0 0) s 0 + sumHi (sumLo (maLo n m 0 0) s 0) t 0 < 18446744073709551616) := b1
  have HC : Hid (maHi n m 0 0 + sumHi (maLo n m 0 0) s 0 < 18446744073709551616) := b2
  clear q1 q2 b1 b2 hn hm hs ht
  generalize hx : maHi n m 0 0 = X at *
  generalize hy : maLo n m 0 0 = Y at *
  clear hx hy
  generalize hz : sumLo Y s 0 = Z at *
  clear hz
  generalize hu : sumHi Y s 0 = U at *
  clear hu
  generalize hv : sumLo Z t 0 = V at *
  clear hv
  generalize hq : sumHi Z t 0 = T at *
  clear hq
  go_enter Try.func37, Try.ntmps37
  go_wp2_with (go_at_call 38; refine (c0 _).mono ?_; rintro e w' ⟨rfl, rfl⟩)
  simp only [addN, wrapN _ HC.out, wrapN _ HB.out]
  go_ret2
  exact ⟨rfl, rfl⟩
end Go.Proofs.Ytpgmaidbemndnaa
