/- The walks of word, Of and Key of package field. -/
import Derived.Test.YtpgmaidbemndnaaW4
import Derived.Deep.MidRow
namespace Go.Proofs.Ytpgmaidbemndnaa
open Go.RowKit

abbrev cs8 (ks : List Nat) : Array Value := (ks.map fun (b : Nat) => Value.int .u8 (b : Int)).toArray
theorem cs8_get (ks : List Nat) (i : Nat) (h : i < ks.length) : (cs8 ks)[i]? = some (.int .u8 (ks.getD i 0 : Nat)) := by simp [cs8, h]

/-- The number of the bytes from f on, k of them, the lowest first. -/
def wordTo (ks : List Nat) (f : Nat) : Nat → Nat
  | 0 => 0
  | k + 1 => wordTo ks f k + ks.getD (f + k) 0 * 256 ^ k
def Bytes (ks : List Nat) : Prop := ks.length = 32 ∧ ∀ i, ks.getD i 0 < 256
theorem wordTo_lt {ks : List Nat} (h : Bytes ks) (f k : Nat) : wordTo ks f k < 256 ^ k := by
  induction k with
  | zero => show 0 < 256 ^ 0; decide
  | succ k ih =>
    unfold wordTo
    have := h.2 (f + k)
    have h2 : ks.getD (f + k) 0 * 256 ^ k ≤ 255 * 256 ^ k := Nat.mul_le_mul_right _ (by omega)
    rw [Nat.pow_succ]
    omega

theorem or_join (i a b : Nat) (hi : i ≤ 56) (ha : a < 2 ^ i) (hb : b < 256) (M : Int) (hM : M = ((2 ^ i : Nat) : Int)) : bits .or .u64 (a : Int) (IntKind.u64.wrap ((b : Int) * M)) = ((a + b * 2 ^ i : Nat) : Int) := by
  have hp : 2 ^ i ≤ 72057594037927936 := Nat.pow_le_pow_right (n := 2) (by omega) hi
  have h1 : b * 2 ^ i ≤ 255 * 72057594037927936 := Nat.mul_le_mul (by omega) hp
  rw [hM, mulN, wrapN _ (by omega), u64_or_nat _ _ (by omega) (by omega), Nat.or_comm, nat_join i _ _ (Nat.mul_mod_left _ _) ha, Nat.add_comm]

theorem or_byte (k n b : Nat) (hk : k ≤ 7) (hl : n < 256 ^ k) (hb : b < 256) (M : Int) (hM : M = ((256 ^ k : Nat) : Int)) :
    bits .or .u64 (n : Int) (IntKind.u64.wrap (IntKind.u64.wrap (b : Int) * M)) = ((n + b * 256 ^ k : Nat) : Int) := by
  rw [show (256 : Nat) = 2 ^ 8 by decide, ← Nat.pow_mul] at *
  rw [wrapN b (by omega)]
  exact or_join (8 * k) n b (by omega) hl hb M hM
theorem or_byte0 (n b : Nat) (hl : n < 256 ^ 0) (hb : b < 256) : bits .or .u64 (n : Int) (IntKind.u64.wrap (IntKind.u64.wrap (b : Int))) = ((n + b * 256 ^ 0 : Nat) : Int) := by
  have h := or_byte 0 n b (by omega) hl hb 1 rfl
  rwa [Int.mul_one] at h

set_option maxHeartbeats 2000000 in
theorem word_raw (ks : List Nat) (hk : Bytes ks) (f : Nat) (hf : f ≤ 24) (cs : Array Value) (hcs : ∀ k, k ≤ 7 → cs[f + k]? = some (.int .u8 (ks.getD (f + k) 0 : Nat))) (w : World) :
    Calls Try.prog 25 #[.agg cs, .int .i64 f] w fun e w' => e = .returned (.int .u64 (wordTo ks f 8)) ∧ Below w.heap.size w w' := by
  have HC : Hid _ := hcs
  clear hcs
  go_enter Try.func25, Try.ntmps25
  go_wp2
  go_loop [5, 7] (fun n i => ∃ k : Nat, k ≤ 8 ∧ i = .int .i64 k ∧ n = .int .u64 (wordTo ks f k)) (fun _ i => 8 - (intOf i).toNat)
  case atStart => exact ⟨0, by omega, rfl, rfl⟩
  case round =>
    obtain ⟨k, hk8, rfl, rfl⟩ := hrel
    by_cases hlt : k < 8
    · have hc := HC.out k (by omega)
      have hb : Hid _ := hk.2 (f + k)
      have hl : Hid _ := wordTo_lt hk f k
      have hs : Hid (wordTo ks f (k + 1) = wordTo ks f k + ks.getD (f + k) 0 * 256 ^ k) := rfl
      generalize ks.getD (f + k) 0 = b at *
      generalize wordTo ks f k = n at *
      obtain rfl | rfl | rfl | rfl | rfl | rfl | rfl | rfl : k = 0 ∨ k = 1 ∨ k = 2 ∨ k = 3 ∨ k = 4 ∨ k = 5 ∨ k = 6 ∨ k = 7 := by omega
      · rw [Nat.add_zero] at hc
        go_wp2
        go_round
        case rel => exact ⟨1, by omega, rfl, int_eq (by rw [show wordTo ks f 1 = n + b * 256 ^ 0 from hs.out]; exact or_byte0 n b hl hb)⟩
        case measure => simp [intOf]
      · go_wp2
        go_round
        case rel => exact ⟨2, by omega, rfl, int_eq (by rw [show wordTo ks f 2 = n + b * 256 ^ 1 from hs.out]; exact or_byte 1 n b (by omega) hl hb 256 (by decide))⟩
        case measure => simp [intOf]
      · go_wp2
        go_round
        case rel => exact ⟨3, by omega, rfl, int_eq (by rw [show wordTo ks f 3 = n + b * 256 ^ 2 from hs.out]; exact or_byte 2 n b (by omega) hl hb 65536 (by decide))⟩
        case measure => simp [intOf]
      · go_wp2
        go_round
        case rel => exact ⟨4, by omega, rfl, int_eq (by rw [show wordTo ks f 4 = n + b * 256 ^ 3 from hs.out]; exact or_byte 3 n b (by omega) hl hb 16777216 (by decide))⟩
        case measure => simp [intOf]
      · go_wp2
        go_round
        case rel => exact ⟨5, by omega, rfl, int_eq (by rw [show wordTo ks f 5 = n + b * 256 ^ 4 from hs.out]; exact or_byte 4 n b (by omega) hl hb 4294967296 (by decide))⟩
        case measure => simp [intOf]
      · go_wp2
        go_round
        case rel => exact ⟨6, by omega, rfl, int_eq (by rw [show wordTo ks f 6 = n + b * 256 ^ 5 from hs.out]; exact or_byte 5 n b (by omega) hl hb 1099511627776 (by decide))⟩
        case measure => simp [intOf]
      · go_wp2
        go_round
        case rel => exact ⟨7, by omega, rfl, int_eq (by rw [show wordTo ks f 7 = n + b * 256 ^ 6 from hs.out]; exact or_byte 6 n b (by omega) hl hb 281474976710656 (by decide))⟩
        case measure => simp [intOf]
      · go_wp2
        go_round
        case rel => exact ⟨8, by omega, rfl, int_eq (by rw [show wordTo ks f 8 = n + b * 256 ^ 7 from hs.out]; exact or_byte 7 n b (by omega) hl hb 72057594037927936 (by decide))⟩
        case measure => simp [intOf]
    · have e : k = 8 := by omega
      subst e
      go_wp2
      go_ret
      exact ⟨rfl, (Below.refl _ _).alloc (Nat.le_refl _) _⟩

theorem word_any (ks : List Nat) (hk : Bytes ks) (f : Nat) (hf : f ≤ 24) (w : World) :
    Calls Try.prog 25 #[.agg (cs8 ks), .int .i64 f] w fun e w' => e = .returned (.int .u64 (wordTo ks f 8)) ∧ Below w.heap.size w w' :=
  word_raw ks hk f hf _ (fun k h => cs8_get ks _ (by have := hk.1; omega)) w

/-- The number of 32 bytes, without the highest bit. -/
def numOf (ks : List Nat) : Nat := mk4 (wordTo ks 0 8) (wordTo ks 8 8) (wordTo ks 16 8) (wordTo ks 24 8 % 9223372036854775808)

set_option maxHeartbeats 2000000 in
theorem of_raw (cs : Array Value) (hcs : cs.size = 32) (a b c d d' r : Nat) (w : World) (han : bits .andNot .u64 (d : Int) 9223372036854775808 = (d' : Int))
    (k1 : ∀ w, Calls Try.prog 25 #[.agg cs, .int .i64 0] w fun e w' => e = .returned (.int .u64 a) ∧ Below w.heap.size w w')
    (k2 : ∀ w, Calls Try.prog 25 #[.agg cs, .int .i64 8] w fun e w' => e = .returned (.int .u64 b) ∧ Below w.heap.size w w')
    (k3 : ∀ w, Calls Try.prog 25 #[.agg cs, .int .i64 16] w fun e w' => e = .returned (.int .u64 c) ∧ Below w.heap.size w w')
    (k4 : ∀ w, Calls Try.prog 25 #[.agg cs, .int .i64 24] w fun e w' => e = .returned (.int .u64 d) ∧ Below w.heap.size w w')
    (k5 : ∀ w, Calls Try.prog 26 #[A4 a b c d', .int .u64 0] w fun e w' => e = .returned (E4 r) ∧ Below w.heap.size w w') :
    Calls Try.prog 8 #[.agg cs] w fun e w' => e = .returned (E4 r) ∧ Below w.heap.size w w' := by
  have K1 : Hid _ := k1
  have K2 : Hid _ := k2
  have K3 : Hid _ := k3
  have K4 : Hid _ := k4
  have K5 : Hid _ := k5
  have AN : Hid _ := han
  have CS : Hid _ := hcs
  clear k1 k2 k3 k4 k5 han hcs
  go_enter Try.func8, Try.ntmps8
  go_wp2_with fail
  generalize hW : (w.alloc (Obj.cells cs 23)).alloc (Obj.cells #[Value.int IntKind.u64 0, Value.int IntKind.u64 0, Value.int IntKind.u64 0, Value.int IntKind.u64 0] 30) = W
  have X : W.heap[w.heap.size]? = some (.cells cs 23) := by rw [← hW, heap_old _ _ (by simp)]; exact heap_new _ _
  have R : W.heap[w.heap.size + 1]? = some (.cells #[.int .u64 0, .int .u64 0, .int .u64 0, .int .u64 0] 30) := by rw [← hW]; exact heap_new' _ _ (by simp)
  have B0 : Below w.heap.size w W := by rw [← hW]; exact ((Below.refl _ _).alloc (Nat.le_refl _) _).alloc (by simp) _
  clear hW
  refine region_list W.heap.size (C := fun w' => Below W.heap.size W w') [.inl (.agg cs), .inl (.int .u64 a), .inl (.agg cs), .inl (.int .u64 b), .inl (.agg cs), .inl (.int .u64 c), .inl (.agg cs), .inl (.int .u64 d), .inl (.int .u64 d'), .inl (A4 a b c d'),
    .inr (.cells #[.int .u64 0, .int .u64 0, .int .u64 0, .int .u64 0] 28, fun b => .pointer (some ⟨b, 0, none⟩))] [10] (by kernel_rfl) (by kernel_rfl) ⟨rfl, rfl, rfl, Nat.le_refl _, fun _ _ => rfl⟩
    (fun w1 w2 h1 h2 => h1.trans (h2.mono h1.size)) (fun i h => by have : i = 10 := by simpa using h
                                                                   subst this; exact ⟨_, rfl⟩) ?_ ?_
  · have ld : ∀ {ops : Array Oper} {Q : Exit → Act → World → Prop} {o : Oper} {a : Act} {v : World}, Below W.heap.size W v → Region.wanted o (yielded ops a.tmps) = true → o.op = .load 23 (.tmp 1) → a.tmps[1]? = some (.pointer (some ⟨w.heap.size, 0, none⟩)) → OpOk W.heap.size Try.prog Q ops o (.inl (.agg cs)) false a v :=
      fun hC h1 h2 h3 => ok_load h1 h2 h3 (keep hC X) Try.underlying23 rfl (by kernel_rfl) CS.out
    refine ⟨?_, ?_, ?_, ?_, ?_, ?_, ?_, ?_, ?_, ?_, ?_, trivial⟩
    · intro s v hC hk hd
      exact ld hC rfl rfl (hk 1 (by kernel_rfl))
    · intro s v hC hk hd
      have h : s.tmps[4]? = some (.agg cs) := hd 0 (by kernel_rfl)
      exact ok_call rfl (by simp [Act.eval, h, go_sem]) (K1.out v)
    · intro s v hC hk hd
      exact ld hC rfl rfl (hk 1 (by kernel_rfl))
    · intro s v hC hk hd
      have h : s.tmps[6]? = some (.agg cs) := hd 2 (by kernel_rfl)
      exact ok_call rfl (by simp [Act.eval, h, go_sem]) (K2.out v)
    · intro s v hC hk hd
      exact ld hC rfl rfl (hk 1 (by kernel_rfl))
    · intro s v hC hk hd
      have h : s.tmps[8]? = some (.agg cs) := hd 4 (by kernel_rfl)
      exact ok_call rfl (by simp [Act.eval, h, go_sem]) (K3.out v)
    · intro s v hC hk hd
      exact ld hC rfl rfl (hk 1 (by kernel_rfl))
    · intro s v hC hk hd
      have h : s.tmps[10]? = some (.agg cs) := hd 6 (by kernel_rfl)
      exact ok_call rfl (by simp [Act.eval, h, go_sem]) (K4.out v)
    · intro s v hC hk hd
      have h : s.tmps[11]? = some (.int .u64 d) := hd 7 (by kernel_rfl)
      exact ok_value rfl (by simp [execOp, Act.eval, h, go_sem, AN.out])
    · intro s v hC hk hd
      have h0 : s.tmps[5]? = some (.int .u64 a) := hd 1 (by kernel_rfl)
      have h1 : s.tmps[7]? = some (.int .u64 b) := hd 3 (by kernel_rfl)
      have h2 : s.tmps[9]? = some (.int .u64 c) := hd 5 (by kernel_rfl)
      have h3 : s.tmps[12]? = some (.int .u64 d') := hd 8 (by kernel_rfl)
      exact ok_value rfl (by simp [execOp, Act.eval, h0, h1, h2, h3, go_sem])
    · intro s v hC hk hd
      exact ok_alloc hC.size rfl (by simp [execOp, go_sem])
  · intro g w2 hC hf _
    have B : Hid (Below w.heap.size w w2) := B0.trans (hC.mono B0.size)
    have R1 := keep hC R
    have hlt := lt_of_block R
    have G := hf.1.2
    have hg := hf.1.1
    have hz := lt_of_block R1
    simp only [Nat.zero_add, Nat.reduceAdd] at G hg
    clear hf
    simp [valsOf, valOf, putAll, Act.put]
    generalize g 10 = g at *
    obtain ⟨p0, p1, p2, p3, f0, f1, f2, f3⟩ := cells4 G
    have R2 : Hid _ := R1
    have G2 : Hid _ := G
    have hne : w.heap.size + 1 < g := by omega
    have hne' : w.heap.size < g := by omega
    clear hC R1 G hg R X B0
    go_wp2_with fail
    refine (K5.out _).mono ?_
    rintro e u ⟨rfl, hb⟩
    have R3 := keep hb (b := w.heap.size + 1) (by rw [heap_set_ne _ _ (by omega), heap_set_ne _ _ (by omega), heap_set_ne _ _ (by omega), heap_set_ne _ _ (by omega)]; exact R2.out)
    have B2 : Hid (Below w.heap.size w u) := ((((B.out.setCell (by simp; omega) _).setCell (by simp; omega) _).setCell (by simp; omega) _).setCell (by simp; omega) _).trans (hb.mono (by simp only [size_set]; exact B.out.size))
    clear hb p0 p1 p2 p3 f0 f1 f2 f3 R2 G2 B
    obtain ⟨p0, p1, p2, p3, f0, f1, f2, f3⟩ := cells4 R3
    clear R3
    go_wp2_with fail
    refine bodyPost_ret (v := E4 r) (by simp [results, Try.results8, go_sem, p0, p1, p2, p3]) rfl ⟨rfl, ?_⟩
    exact (((B2.out.setCell (by simp) _).setCell (by simp) _).setCell (by simp) _).setCell (by simp) _

theorem red_zero (x : Nat) : red x 0 = x % pN := by unfold red; rw [Nat.mul_zero, Nat.add_zero]
theorem word8_lt {ks : List Nat} (h : Bytes ks) (f : Nat) : wordTo ks f 8 < 18446744073709551616 := by
  have := wordTo_lt h f 8
  rwa [show (256 : Nat) ^ 8 = 18446744073709551616 by decide] at this
theorem numOf_lt {ks : List Nat} (hk : Bytes ks) : numOf ks < top4 := mk4_lt (word8_lt hk 0) (word8_lt hk 8) (word8_lt hk 16) (Nat.lt_of_le_of_lt (Nat.mod_le _ _) (word8_lt hk 24))
theorem numOf_E4 {ks : List Nat} (hk : Bytes ks) : E4 (numOf ks) = A4 (wordTo ks 0 8) (wordTo ks 8 8) (wordTo ks 16 8) (wordTo ks 24 8 % 9223372036854775808) := by
  obtain ⟨e0, e1, e2, e3⟩ := w_mk4 (word8_lt hk 0) (word8_lt hk 8) (word8_lt hk 16) (Nat.lt_of_le_of_lt (Nat.mod_le _ 9223372036854775808) (word8_lt hk 24))
  unfold E4 numOf
  rw [e0, e1, e2, e3]

theorem of_any (ks : List Nat) (hk : Bytes ks) (w : World) :
    Calls Try.prog 8 #[.agg (cs8 ks)] w fun e w' => e = .returned (E4 (numOf ks % pN)) ∧ Below w.heap.size w w' := by
  have k5 := fun w => settle_any (numOf ks) 0 (numOf_lt hk) (by omega) w
  rw [numOf_E4 hk, red_zero] at k5
  exact of_raw (cs8 ks) (by simp [cs8, hk.1]) (wordTo ks 0 8) (wordTo ks 8 8) (wordTo ks 16 8) (wordTo ks 24 8) (wordTo ks 24 8 % 9223372036854775808) (numOf ks % pN) w (andNot_top _ (word8_lt hk 24)) (word_any ks hk 0 (by omega)) (word_any ks hk 8 (by omega)) (word_any ks hk 16 (by omega)) (word_any ks hk 24 (by omega)) k5
end Go.Proofs.Ytpgmaidbemndnaa
