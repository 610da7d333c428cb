/- Numbers as bytes: made, added, subtracted, compared. -/
import Derived.Test.YtjfmeogknhkeoaaP9
import Derived.Test.YtjfmeogknhkeoaaN8n
import Derived.Test.YtjfmeogknhkeoaaEvH
namespace Go.Proofs.Ytjfmeogknhkeoaa
open Go.RowKit

theorem getD_out {X : List Nat} {i : Nat} (h : X.length ≤ i) : X.getD i 0 = 0 := by rw [List.getD_eq_getElem?_getD, List.getElem?_eq_none h]; rfl
theorem lies_cn {w : World} {b : Nat} {X : List Nat} {T : TypeId} {fr : Nat × Nat} (h : w.heap[b]? = some (.cells (cn .u8 X) T fr)) : ∀ (j : Nat) u, (bcells X)[j]? = some u → w.cell? ((⟨b, 0, none⟩ : Addr).add j) = some u := fun j u hu => by
  rw [add_off, cell_of h, ← hu, ← bcells_cn]; simp
theorem cmpm {M N : Nat} (h : M < N) : (-1 : Int) = cmpN M N := by simp [cmpN, h]
theorem cmp0 {M N : Nat} (h : M = N) : ((0 : Nat) : Int) = cmpN M N := by simp [cmpN, h]
theorem cmp1 {M N : Nat} (h : N < M) : ((1 : Nat) : Int) = cmpN M N := by
  rw [cmpN, if_neg (by omega), if_neg (by omega)]; rfl
set_option maxRecDepth 100000 in
theorem trim_any (X : List Nat) (hX : ∀ i, X.getD i 0 < 256) (hl : X.length < 4611686018427387904) (w0 : World) :
    Calls Try.prog 27 #[.string (bs X)] w0 fun e w' => e = .returned (.string (bs (minB (leV X)))) ∧ Below w0.heap.size w0 w' := by
  refine enter_fr Try.func27 rfl Try.ntmps27 (by simp) fun ac (FF : Fr 20 ac [(0, .string (bs X))]) => ?_
  have MM := MemS.start w0
  refine wp_seq (rg_seq FF MM [o_] [0, 2] (fun Kt => Kt [(2, .string (bs [])), (0, .string (bs X))] []) (by kernel_rfl) (fun _ => by kernel_rfl) (fun ac1 wd1 FF1 MM1 => then_n ?_))
  refine wp_seq (rg_seq FF1 MM1 [o_, t_ (.int .i64 (X.length : Nat)), o_] [2, 0, 3] (fun Kt => Value.int .i64 ((bs X).size : Nat) = .int .i64 (X.length : Nat) ∧ Kt [(3, .int .i64 (X.length : Nat)), (2, .string (bs [])), (0, .string (bs X))] []) (by kernel_rfl) (fun _ => by kernel_rfl) (⟨(vI (bs_size _)), fun ac2 wd2 FF2 MM2 => then_n ?_⟩))
  refine wp_seq ?_
  refine wp_for2w (fun a' w' => ∃ n : Nat, n ≤ X.length ∧ (∀ i, n ≤ i → X.getD i 0 = 0) ∧ Fr 20 a' [(3, .int .i64 (n : Nat)), (2, .string (bs [])), (0, .string (bs X))] ∧ MemS (fun k => k < w0.heap.size) w0 w' [] []) (fun a' _ => (cnt 3 a').toNat) ⟨X.length, Nat.le_refl _, (fun _ h => getD_out h), FF2.pick [0, 1, 2], MM2⟩ ?_
  rintro ac3 wd3 ⟨n, hn, h0, FF3, MM3⟩
  have hc := cnt_of (FF3.get 0 rfl)
  by_cases h1 : n > 0
  · by_cases h2 : X.getD (n - 1) 0 = 0
    · skip
      refine rg_seq FF3 MM3 [o_, w_ 2, o_, o_, o_, o_, t_ (.int .u8 (X.getD (n - 1) 0 : Nat)), w_ 2, o_] [3, 2, 0, 14] (fun Kt => n > 0 ∧ 1 ≤ n ∧ n - 1 < 9223372036854775808 ∧ (n - 1) < (bs X).size ∧ (nl (bs X)).getD (n - 1) 0 = X.getD (n - 1) 0 ∧ (X.getD (n - 1) 0) = 0 ∧ Kt [(14, .bool true), (3, .int .i64 (n : Nat)), (2, .string (bs [])), (0, .string (bs X))] []) (by kernel_rfl) (fun _ => by kernel_rfl) (⟨(by omega), (by omega), (by omega), (by simp only [bs_size]; omega), (byte_bs hX _), (by have := hX (n - 1); omega), fun ac4 wd4 FF4 MM4 => ?_⟩)
      refine then_n (.inl ⟨FF4.ev 0 rfl, ?_⟩)
      refine rg_seq FF4 MM4 [o_, o_, o_] [3, 2, 0] (fun Kt => 1 ≤ n ∧ n - 1 < 9223372036854775808 ∧ Kt [(3, .int .i64 (n - 1 : Nat)), (2, .string (bs [])), (0, .string (bs X))] []) (by kernel_rfl) (fun _ => by kernel_rfl) (⟨(by omega), (by omega), fun ac5 wd5 FF5 MM5 => ?_⟩)
      refine inb_n ?_
      have hd := cnt_of (FF5.get 0 rfl)
      refine then_n ⟨⟨n - 1, by omega, fun i hi => (Nat.eq_or_lt_of_le hi).elim (fun e => e ▸ h2) (fun h => h0 i (by omega)), FF5.pick [0, 1, 2], MM5⟩, ?_⟩
      rw [hc, hd]; omega
    · skip
      refine rg_seq FF3 MM3 [o_, w_ 2, o_, o_, o_, o_, t_ (.int .u8 (X.getD (n - 1) 0 : Nat)), w_ 3, o_] [3, 2, 0, 14] (fun Kt => n > 0 ∧ 1 ≤ n ∧ n - 1 < 9223372036854775808 ∧ (n - 1) < (bs X).size ∧ (nl (bs X)).getD (n - 1) 0 = X.getD (n - 1) 0 ∧ ¬ ((X.getD (n - 1) 0) = 0) ∧ Kt [(14, .bool false), (3, .int .i64 (n : Nat)), (2, .string (bs [])), (0, .string (bs X))] []) (by kernel_rfl) (fun _ => by kernel_rfl) (⟨(by omega), (by omega), (by omega), (by simp only [bs_size]; omega), (byte_bs hX _), (by have := hX (n - 1); omega), fun ac6 wd6 FF6 MM6 => ?_⟩)
      refine then_n (.inr ⟨FF6.ev 0 rfl, ?_⟩)
      refine then_n ?_
      refine wp_seq (rg_seq FF6 MM6 [o_, o_, t_ (.string (bs (minB (leV X)))), o_] [3, 2, 0] (fun Kt => 0 ≤ n ∧ n ≤ (bs X).size ∧ Value.string ((bs X).extract 0 n) = .string (bs (minB (leV X))) ∧ Kt [(2, .string (bs (minB (leV X)))), (3, .int .i64 (n : Nat)), (0, .string (bs X))] []) (by kernel_rfl) (fun _ => by kernel_rfl) (⟨(Nat.zero_le _), (by simp only [bs_size]; omega), (vS2 ((bs_extract _ _ _).trans (congrArg bs ((List.drop_zero ..).trans (trim_ok hX hn h0 (by first | exact .inl (by omega) | exact .inr h2)))))), fun ac7 wd7 FF7 MM7 => then_n ?_⟩))
      refine wp_ret ?_
      repeat first | refine then_ret ?_ | refine inb_ret ?_
      exact (ret_fr FF7 0 Try.results27 rfl ⟨rfl, MM7.below⟩)
  · skip
    refine rg_seq FF3 MM3 [o_, w_ 3, o_, o_, o_, o_, o_, o_, o_] [3, 2, 0, 14] (fun Kt => ¬ (n > 0) ∧ Kt [(14, .bool false), (3, .int .i64 (n : Nat)), (2, .string (bs [])), (0, .string (bs X))] []) (by kernel_rfl) (fun _ => by kernel_rfl) (⟨(by omega), fun ac8 wd8 FF8 MM8 => ?_⟩)
    refine then_n (.inr ⟨FF8.ev 0 rfl, ?_⟩)
    refine then_n ?_
    refine wp_seq (rg_seq FF8 MM8 [o_, o_, t_ (.string (bs (minB (leV X)))), o_] [3, 2, 0] (fun Kt => 0 ≤ n ∧ n ≤ (bs X).size ∧ Value.string ((bs X).extract 0 n) = .string (bs (minB (leV X))) ∧ Kt [(2, .string (bs (minB (leV X)))), (3, .int .i64 (n : Nat)), (0, .string (bs X))] []) (by kernel_rfl) (fun _ => by kernel_rfl) (⟨(Nat.zero_le _), (by simp only [bs_size]; omega), (vS2 ((bs_extract _ _ _).trans (congrArg bs ((List.drop_zero ..).trans (trim_ok hX hn h0 (by first | exact .inl (by omega) | exact .inr h2)))))), fun ac9 wd9 FF9 MM9 => then_n ?_⟩))
    refine wp_ret ?_
    repeat first | refine then_ret ?_ | refine inb_ret ?_
    exact (ret_fr FF9 0 Try.results27 rfl ⟨rfl, MM9.below⟩)
set_option maxRecDepth 100000 in
theorem digit_any (X : List Nat) (hX : ∀ i, X.getD i 0 < 256) (i : Nat) (w0 : World) :
    Calls Try.prog 28 #[.string (bs X), .int .i64 (i : Nat)] w0 fun e w' => e = .returned (.int .i64 (X.getD i 0 : Nat)) ∧ Below w0.heap.size w0 w' := by
  refine enter_fr Try.func28 rfl Try.ntmps28 (by simp) fun ac (FF : Fr 13 ac [(0, .string (bs X)), (1, .int .i64 (i : Nat))]) => ?_
  have MM := MemS.start w0
  refine wp_seq (rg_seq FF MM [o_] [0, 1, 4] (fun Kt => Kt [(4, .int .i64 (0 : Nat)), (0, .string (bs X)), (1, .int .i64 (i : Nat))] []) (by kernel_rfl) (fun _ => by kernel_rfl) (fun ac1 wd1 FF1 MM1 => then_n ?_))
  refine wp_seq ?_
  refine wp_seq (rg_seq FF1 MM1 [o_, o_, t_ (.int .i64 (X.length : Nat)), o_] [4, 0, 1, 8] (fun Kt => Value.int .i64 ((bs X).size : Nat) = .int .i64 (X.length : Nat) ∧ Kt [(8, .bool (decide (i < X.length))), (4, .int .i64 (0 : Nat)), (0, .string (bs X)), (1, .int .i64 (i : Nat))] []) (by kernel_rfl) (fun _ => by kernel_rfl) (⟨(vI (bs_size _)), fun ac2 wd2 FF2 MM2 => then_n ?_⟩))
  by_cases hs8 : i < X.length
  · refine wp_cond_true ((FF2.ev 0 rfl).trans (dec_t hs8)) ?_
    refine wp_seq (rg_seq FF2 MM2 [o_, o_, t_ (.int .u8 (X.getD i 0 : Nat)), w_ 1, o_] [4, 0, 1] (fun Kt => i < (bs X).size ∧ (nl (bs X)).getD i 0 = X.getD i 0 ∧ (X.getD i 0) < 9223372036854775808 ∧ Kt [(4, .int .i64 (X.getD i 0 : Nat)), (0, .string (bs X)), (1, .int .i64 (i : Nat))] []) (by kernel_rfl) (fun _ => by kernel_rfl) (⟨(by simp only [bs_size]; omega), (byte_bs hX _), (by have := hX i; omega), fun ac3 wd3 FF3 MM3 => then_n ?_⟩))
    refine wp_ret ?_
    repeat first | refine then_ret ?_ | refine inb_ret ?_
    exact (ret_fr FF3 0 Try.results28 rfl ⟨rfl, MM3.below⟩)
  · refine wp_cond_false ((FF2.ev 0 rfl).trans (dec_f hs8)) ?_
    refine wp_skip ?_
    refine then_n ?_
    refine wp_seq (rg_seq FF2 MM2 [t_ (.int .i64 (X.getD i 0 : Nat))] [4, 0, 1] (fun Kt => Value.int .i64 (0 : Nat) = .int .i64 (X.getD i 0 : Nat) ∧ Kt [(4, .int .i64 (X.getD i 0 : Nat)), (0, .string (bs X)), (1, .int .i64 (i : Nat))] []) (by kernel_rfl) (fun _ => by kernel_rfl) (⟨(vI (getD_out (by omega)).symm), fun ac4 wd4 FF4 MM4 => then_n ?_⟩))
    refine wp_ret ?_
    repeat first | refine then_ret ?_ | refine inb_ret ?_
    exact (ret_fr FF4 0 Try.results28 rfl ⟨rfl, MM4.below⟩)
theorem digm_ok (N i : Nat) (L : Blks) : CallP Try.prog 28 [.string (bs (minB N)), .int .i64 (i : Nat)] L (.int .i64 (N / 256 ^ i % 256 : Nat)) :=
  callP_of ent28 (fun w => by have := digit_any (minB N) (minB_lt N) i w; rwa [minB_get] at this) L
set_option maxRecDepth 100000 in
theorem bytes_any (X : List Nat) (hX : ∀ i, X.getD i 0 < 256) (hl : X.length < 4611686018427387904) (w0 : World) :
    Calls Try.prog 14 #[.string (bs X)] w0 fun e w' => e = .returned (.string (bs (minB (leV X)))) ∧ Below w0.heap.size w0 w' := by
  refine enter_fr Try.func14 rfl Try.ntmps14 (by simp) fun ac (FF : Fr 5 ac [(0, .string (bs X))]) => ?_
  have MM := MemS.start w0
  refine wp_seq (rg_seq FF MM [o_] [0, 2] (fun Kt => Kt [(2, .string (bs [])), (0, .string (bs X))] []) (by kernel_rfl) (fun _ => by kernel_rfl) (fun ac1 wd1 FF1 MM1 => then_n ?_))
  refine wp_seq (rg_seq FF1 MM1 [o_, t_ (.string (bs (minB (leV X)))), o_] [2] (fun Kt => CallP Try.prog 27 [.string (bs X)] [] (.string (bs (minB (leV X)))) ∧ Kt [(2, .string (bs (minB (leV X))))] []) (by kernel_rfl) (fun _ => by kernel_rfl) (⟨(callP_of ent27 (trim_any X hX (by omega)) _), fun ac2 wd2 FF2 MM2 => then_n ?_⟩))
  refine wp_ret ?_
  repeat first | refine then_ret ?_ | refine inb_ret ?_
  exact (ret_fr FF2 0 Try.results14 rfl ⟨rfl, MM2.below⟩)
theorem gen_leB (n v : Nat) : genL n (fun i => v / 256 ^ i % 256) n = leB n v := by
  refine ext_getD (by rw [genL_len, leB_len]) fun i hi => ?_
  rw [genL_len] at hi
  rw [genL_get _ _ _ hi, if_pos hi, leB_get hi]
set_option maxRecDepth 100000 in
theorem of_any (v : Nat) (hv : v < 18446744073709551616) (w0 : World) :
    Calls Try.prog 13 #[.int .u64 (v : Nat)] w0 fun e w' => e = .returned (.string (bs (minB v))) ∧ Below w0.heap.size w0 w' := by
  refine enter_fr Try.func13 rfl Try.ntmps13 (by simp) fun ac (FF : Fr 20 ac [(0, .int .u64 (v : Nat))]) => ?_
  have MM := MemS.start w0
  refine wp_seq (rg_seq FF MM [o_] [0, 2] (fun Kt => Kt [(2, .string (bs [])), (0, .int .u64 (v : Nat))] []) (by kernel_rfl) (fun _ => by kernel_rfl) (fun ac1 wd1 FF1 MM1 => then_n ?_))
  refine wp_seq (rg_seq FF1 MM1 [o_, o_, b_ 0] [2, 0, 3] (fun Kt => ∀ bo, bo = bo ∧ (cn .u8 (List.replicate 8 0)).size = 8 ∧ (cn .u8 (List.replicate 8 0)).size = 8 ∧ (cn .u8 (List.replicate 8 0)).all (·.oneCell') = true ∧ (0, 0).2 = 0 ∧ Kt [(3, .pointer (some ⟨bo, 0, none⟩)), (2, .string (bs [])), (0, .int .u64 (v : Nat))] [(bo, .cells (cn .u8 (List.replicate 8 0)) 68)]) (by kernel_rfl) (fun _ => by kernel_rfl) (fun bo => ⟨rfl, ((cn_size _ _).trans (List.length_replicate ..)), ((cn_size _ _).trans (List.length_replicate ..)), (cn_one _ _), rfl, fun ac2 wd2 FF2 MM2 => then_n ?_⟩))
  have MMr4 : MemS (fun k => k < w0.heap.size) w0 wd2 [(bo, .cells (cn .u8 (genL 8 (fun i => v / 256 ^ i % 256) 0)) 68)] [] := by rw [← genL_zero 8 (fun i => v / 256 ^ i % 256)]; exact MM2
  refine wp_seq ?_
  refine wp_seq (rg_seq FF2 MMr4 [o_] [3, 2, 0, 4] (fun Kt => Kt [(4, .int .i64 (0 : Nat)), (3, .pointer (some ⟨bo, 0, none⟩)), (2, .string (bs [])), (0, .int .u64 (v : Nat))] [(bo, .cells (cn .u8 (genL 8 (fun i => v / 256 ^ i % 256) 0)) 68)]) (by kernel_rfl) (fun _ => by kernel_rfl) (fun ac3 wd3 FF3 MM3 => then_n ?_))
  refine wp_for2 (fun a' w' => ∃ j : Nat, j ≤ 8 ∧ Fr 20 a' [(4, .int .i64 (j : Nat)), (3, .pointer (some ⟨bo, 0, none⟩)), (2, .string (bs [])), (0, .int .u64 (v : Nat))] ∧ MemS (fun k => k < w0.heap.size) w0 w' [(bo, .cells (cn .u8 (genL 8 (fun i => v / 256 ^ i % 256) j)) 68)] []) (fun a' _ => (8 - cnt 4 a').toNat) ⟨0, by omega, FF3.pick [0, 1, 2, 3], MM3⟩ ?_
  rintro ac4 wd4 ⟨j, hj, FF4, MM4⟩
  have hcj := cnt_of (FF4.get 0 rfl)
  refine rg_seq FF4 MM4 [o_, o_] [4, 3, 2, 0, 7] (fun Kt => Kt [(7, .bool (decide (j < 8))), (4, .int .i64 (j : Nat)), (3, .pointer (some ⟨bo, 0, none⟩)), (2, .string (bs [])), (0, .int .u64 (v : Nat))] [(bo, .cells (cn .u8 (genL 8 (fun i => v / 256 ^ i % 256) j)) 68)]) (by kernel_rfl) (fun _ => by kernel_rfl) (fun ac5 wd5 FF5 MM5 => ?_)
  by_cases hltj : j < 8
  · skip
    refine then_n (.inl ⟨(FF5.ev 0 rfl).trans (dec_t hltj), ?_⟩)
    refine rg_seq FF5 MM5 [o_, o_, o_, o_, o_, o_, w_ 1, s_ 0 (.cells (cn .u8 (genL 8 (fun i => v / 256 ^ i % 256) (j + 1))) 68)] [4, 3, 2, 0] (fun Kt => 8 * j < 9223372036854775808 ∧ 8 * j ≤ 64 ∧ j < 8 ∧ bo = bo ∧ j < (cn .u8 (genL 8 (fun i => v / 256 ^ i % 256) j)).size ∧ (((0, 0)).2 = 0 ∨ j < ((0, 0)).1) ∧ (cn .u8 (genL 8 (fun i => v / 256 ^ i % 256) j)).setIfInBounds j (.int .u8 ((v / (2 ^ (8 * j))) % 256 : Nat)) = cn .u8 (genL 8 (fun i => v / 256 ^ i % 256) (j + 1)) ∧ Kt [(4, .int .i64 (j : Nat)), (3, .pointer (some ⟨bo, 0, none⟩)), (2, .string (bs [])), (0, .int .u64 (v : Nat))] [(bo, .cells (cn .u8 (genL 8 (fun i => v / 256 ^ i % 256) (j + 1))) 68)]) (by kernel_rfl) (fun _ => by kernel_rfl) (⟨(by omega), (by omega), (by omega), rfl, (by rw [cn_size, (genL_len _ _ _)]; omega), (.inl rfl), ((cn_set _ _ _ _).trans (congrArg _ (genL_step _ _ j (by omega) (by rw [Nat.pow_mul])))), fun ac6 wd6 FF6 MM6 => ?_⟩)
    refine inb_n (then_n ?_)
    refine rg_seq FF6 MM6 [o_, o_, o_] [4, 3, 2, 0] (fun Kt => j + 1 < 9223372036854775808 ∧ Kt [(4, .int .i64 (j + 1 : Nat)), (3, .pointer (some ⟨bo, 0, none⟩)), (2, .string (bs [])), (0, .int .u64 (v : Nat))] [(bo, .cells (cn .u8 (genL 8 (fun i => v / 256 ^ i % 256) (j + 1))) 68)]) (by kernel_rfl) (fun _ => by kernel_rfl) (⟨(by omega), fun ac7 wd7 FF7 MM7 => ?_⟩)
    have hdj := cnt_of (FF7.get 0 rfl)
    refine then_n ⟨⟨j + 1, by omega, FF7.pick [0, 1, 2, 3], MM7⟩, ?_⟩
    rw [hcj, hdj]; omega
  · skip
    refine then_n (.inr ⟨(FF5.ev 0 rfl).trans (dec_f hltj), ?_⟩)
    obtain rfl : j = 8 := by omega
    have MMl : MemS (fun k => k < w0.heap.size) w0 wd5 [(bo, .cells (cn .u8 (leB 8 v)) 68)] [] := by rw [← gen_leB 8 v]; exact MM5
    refine then_n ?_
    refine wp_seq (rg_seq FF5 MMl [o_, l_ 0 (.string (bs (leB 8 v))), t_ (.string (bs (minB v))), o_] [4, 3, 2, 0] (fun Kt => 0 ≤ 8 ∧ 8 ≤ 8 ∧ 0 < 8 ∧ bo = bo ∧ StrAt (cn .u8 (leB 8 v)) 0 8 (bs (leB 8 v)) ∧ CallP Try.prog 27 [.string (bs (leB 8 v))] [] (.string (bs (minB v))) ∧ Kt [(2, .string (bs (minB v))), (4, .int .i64 (8 : Nat)), (3, .pointer (some ⟨bo, 0, none⟩)), (0, .int .u64 (v : Nat))] [(bo, .cells (cn .u8 (leB 8 v)) 68)]) (by kernel_rfl) (fun _ => by kernel_rfl) (⟨(by decide), (by decide), (by decide), rfl, (str_all (leB_len _ _) (leB_lt 8 v)), (by have h0 := callP_of ent27 (trim_any (leB 8 v) (leB_lt 8 v) (by rw [leB_len]; decide)) []; rw [leV_leB, Nat.mod_eq_of_lt (show v < 256 ^ 8 from hv)] at h0; exact h0), fun ac8 wd8 FF8 MM8 => then_n ?_⟩))
    refine wp_ret ?_
    repeat first | refine then_ret ?_ | refine inb_ret ?_
    exact (ret_fr FF8 0 Try.results13 rfl ⟨rfl, MM8.below⟩)
set_option maxRecDepth 100000 in
theorem add8_any (M N : Nat) (hs : sz M + sz N < 1000000) (w0 : World) :
    Calls Try.prog 15 #[.string (bs (minB M)), .string (bs (minB N))] w0 fun e w' => e = .returned (.string (bs (minB (M + N)))) ∧ Below w0.heap.size w0 w' := by
  refine enter_fr Try.func15 rfl Try.ntmps15 (by simp) fun ac (FF : Fr 43 ac [(0, .string (bs (minB M))), (1, .string (bs (minB N)))]) => ?_
  have MM := MemS.start w0
  refine wp_seq (rg_seq FF MM [o_] [0, 1, 4] (fun Kt => Kt [(4, .string (bs [])), (0, .string (bs (minB M))), (1, .string (bs (minB N)))] []) (by kernel_rfl) (fun _ => by kernel_rfl) (fun ac1 wd1 FF1 MM1 => then_n ?_))
  refine wp_seq (rg_seq FF1 MM1 [o_] [4, 0, 1, 5] (fun Kt => Kt [(5, .slice none 0 0), (4, .string (bs [])), (0, .string (bs (minB M))), (1, .string (bs (minB N)))] []) (by kernel_rfl) (fun _ => by kernel_rfl) (fun ac2 wd2 FF2 MM2 => then_n ?_))
  have MMn := MM2.rowNil 5 1
  refine wp_seq (rg_seq FF2 MMn [t_ (.int .i64 (carB M N 0 : Nat))] [5, 4, 0, 1, 6] (fun Kt => Value.int .i64 (0 : Nat) = .int .i64 (carB M N 0 : Nat) ∧ Kt [(6, .int .i64 (carB M N 0 : Nat)), (5, .slice none 0 0), (4, .string (bs [])), (0, .string (bs (minB M))), (1, .string (bs (minB N)))] []) (by kernel_rfl) (fun _ => by kernel_rfl) (⟨(vI (car_zero M N).symm), fun ac3 wd3 FF3 MM3 => then_n ?_⟩))
  refine wp_seq ?_
  refine wp_seq (rg_seq FF3 MM3 [o_] [6, 5, 4, 0, 1, 7] (fun Kt => Kt [(7, .int .i64 (0 : Nat)), (6, .int .i64 (carB M N 0 : Nat)), (5, .slice none 0 0), (4, .string (bs [])), (0, .string (bs (minB M))), (1, .string (bs (minB N)))] []) (by kernel_rfl) (fun _ => by kernel_rfl) (fun ac4 wd4 FF4 MM4 => then_n ?_))
  refine wp_for2 (fun a' w' => ∃ rv : Value, ∃ i : Nat, i ≤ sz M + sz N + 1 ∧ Fr 43 a' [(7, .int .i64 (i : Nat)), (6, .int .i64 (carB M N i : Nat)), (5, rv), (4, .string (bs [])), (0, .string (bs (minB M))), (1, .string (bs (minB N)))] ∧ MemS (fun k => k < w0.heap.size) w0 w' [] [(rv, 5, 1, i, (bcells (leB i (M + N))))]) (fun a' _ => (sz M + sz N + 1 - cnt 7 a').toNat) ⟨(.slice none 0 0), 0, by omega, FF4.pick [0, 1, 2, 3, 4, 5], MM4⟩ ?_
  rintro ac5 wd5 ⟨rv, i, hi, FF5, MM5⟩
  have hc := cnt_of (FF5.get 0 rfl)
  by_cases h1 : i < sz M
  · skip
    refine rg_seq FF5 MM5 [o_, o_, t_ (.int .i64 (sz M : Nat)), w_ 2, o_, o_, o_, o_, o_, o_, o_, o_, o_, o_] [7, 6, 5, 4, 0, 1, 21] (fun Kt => Value.int .i64 ((bs (minB M)).size : Nat) = .int .i64 (sz M : Nat) ∧ i < (sz M) ∧ Kt [(21, .bool true), (7, .int .i64 (i : Nat)), (6, .int .i64 (carB M N i : Nat)), (5, rv), (4, .string (bs [])), (0, .string (bs (minB M))), (1, .string (bs (minB N)))] []) (by kernel_rfl) (fun _ => by kernel_rfl) (⟨(vI ((bs_size _).trans (minB_len M))), (by omega), fun ac6 wd6 FF6 MM6 => ?_⟩)
    refine then_n (.inl ⟨FF6.ev 0 rfl, ?_⟩)
    refine wp_seq (rg_seq FF6 MM6 [o_, o_, o_, t_ (.int .i64 (M / 256 ^ i % 256 : Nat)), o_, o_, t_ (.int .i64 (N / 256 ^ i % 256 : Nat)), o_, o_, o_] [7, 6, 5, 4, 0, 1] (fun Kt => CallP Try.prog 28 [.string (bs (minB M)), .int .i64 (i : Nat)] [] (.int .i64 (M / 256 ^ i % 256 : Nat)) ∧ CallP Try.prog 28 [.string (bs (minB N)), .int .i64 (i : Nat)] [] (.int .i64 (N / 256 ^ i % 256 : Nat)) ∧ (M / 256 ^ i % 256) + (N / 256 ^ i % 256) < 9223372036854775808 ∧ (carB M N i) + ((M / 256 ^ i % 256) + (N / 256 ^ i % 256)) < 9223372036854775808 ∧ Kt [(6, .int .i64 ((carB M N i) + ((M / 256 ^ i % 256) + (N / 256 ^ i % 256)) : Nat)), (7, .int .i64 (i : Nat)), (5, rv), (4, .string (bs [])), (0, .string (bs (minB M))), (1, .string (bs (minB N)))] []) (by kernel_rfl) (fun _ => by kernel_rfl) (⟨(digm_ok _ _ _), (digm_ok _ _ _), (by omega), (by have := car_lt M N i; omega), fun ac7 wd7 FF7 MM7 => then_n ?_⟩))
    refine wp_seq (wp_region_list ?_)
    refine rg_part 4 FF7 MM7 [o_, o_, t_ (.int .u8 ((M + N) / 256 ^ i % 256 : Nat)), o_] [6, 7, 5, 4, 0, 1, 33, 36] (fun Kt => Value.int .u8 (((carB M N i) + ((M / 256 ^ i % 256) + (N / 256 ^ i % 256))) % 256 : Nat) = .int .u8 ((M + N) / 256 ^ i % 256 : Nat) ∧ ∀ bq, Kt [(36, .slice (some ⟨bq, 0, none⟩) 1 1), (33, rv), (6, .int .i64 ((carB M N i) + ((M / 256 ^ i % 256) + (N / 256 ^ i % 256)) : Nat)), (7, .int .i64 (i : Nat)), (5, rv), (4, .string (bs [])), (0, .string (bs (minB M))), (1, .string (bs (minB N)))] [(bq, .cells (cn .u8 ([(M + N) / 256 ^ i % 256])) 5)]) (by kernel_rfl) (fun _ => by kernel_rfl) (⟨(vI (car_digit M N i)), fun bq => fun ac8 wd8 FF8 MM8 => ?_⟩)
    refine st_app [6, 7, 5, 4, 0, 1, 37] FF8 MM8 (d := 37) (s := 33) (x := 36) (Y := (bcells [(M + N) / 256 ^ i % 256])) (z := .int .u8 (0 : Nat)) (bb := 1) rfl rfl rfl rfl (lies_cn (MM8.get 0 rfl)) (bcells_one _) (by decide) Try.underlying42 (by kernel_rfl) rfl (by decide) (by simp only [maxLen]; omega) (by omega) rfl rfl (by decide) fun ac10 wd10 rv9 (FF10 : Fr 43 ac10 [(37, rv9), (6, .int .i64 ((carB M N i) + ((M / 256 ^ i % 256) + (N / 256 ^ i % 256)) : Nat)), (7, .int .i64 (i : Nat)), (5, rv), (4, .string (bs [])), (0, .string (bs (minB M))), (1, .string (bs (minB N)))]) (MM10 : MemS (fun k => k < w0.heap.size) w0 wd10 [(bq, .cells (cn .u8 ([(M + N) / 256 ^ i % 256])) 5)] [(rv9, 5, 1, (i + 1), ((bcells (leB i (M + N))) ++ (bcells [(M + N) / 256 ^ i % 256])))]) => ?_
    rw [bcells_app, ← leB_succ] at MM10
    refine rg_part 1 FF10 MM10 [o_] [6, 7, 5, 4, 0, 1] (fun Kt => Kt [(5, rv9), (6, .int .i64 ((carB M N i) + ((M / 256 ^ i % 256) + (N / 256 ^ i % 256)) : Nat)), (7, .int .i64 (i : Nat)), (4, .string (bs [])), (0, .string (bs (minB M))), (1, .string (bs (minB N)))] [(bq, .cells (cn .u8 ([(M + N) / 256 ^ i % 256])) 5)]) (by kernel_rfl) (fun _ => by kernel_rfl) (fun ac11 wd11 FF11 MM11 => ?_)
    refine wpl_nil (then_n ?_)
    refine rg_seq FF11 MM11 [o_, t_ (.int .i64 (carB M N (i + 1) : Nat)), o_] [5, 6, 7, 4, 0, 1] (fun Kt => 8 ≤ 64 ∧ Value.int .i64 (((carB M N i) + ((M / 256 ^ i % 256) + (N / 256 ^ i % 256))) / 256 : Nat) = .int .i64 (carB M N (i + 1) : Nat) ∧ Kt [(6, .int .i64 (carB M N (i + 1) : Nat)), (5, rv9), (7, .int .i64 (i : Nat)), (4, .string (bs [])), (0, .string (bs (minB M))), (1, .string (bs (minB N)))] [(bq, .cells (cn .u8 ([(M + N) / 256 ^ i % 256])) 5)]) (by kernel_rfl) (fun _ => by kernel_rfl) (⟨(by decide), (vI (car_step M N i)), fun ac12 wd12 FF12 MM12 => ?_⟩)
    refine inb_n (then_n ?_)
    refine rg_seq FF12 MM12 [o_, o_, o_] [6, 5, 7, 4, 0, 1] (fun Kt => i + 1 < 9223372036854775808 ∧ Kt [(7, .int .i64 (i + 1 : Nat)), (6, .int .i64 (carB M N (i + 1) : Nat)), (5, rv9), (4, .string (bs [])), (0, .string (bs (minB M))), (1, .string (bs (minB N)))] [(bq, .cells (cn .u8 ([(M + N) / 256 ^ i % 256])) 5)]) (by kernel_rfl) (fun _ => by kernel_rfl) (⟨(by omega), fun ac13 wd13 FF13 MM13 => ?_⟩)
    have hd := cnt_of (FF13.get 0 rfl)
    refine then_n ⟨⟨rv9, i + 1, (by first | omega | (have := car_more h3; omega)), FF13.pick [0, 1, 2, 3, 4, 5], MM13.sub [] rfl⟩, ?_⟩
    rw [hc, hd]; first | omega | (have := car_more h3; omega)
  · by_cases h2 : i < sz N
    · skip
      refine rg_seq FF5 MM5 [o_, o_, t_ (.int .i64 (sz M : Nat)), w_ 3, o_, o_, o_, t_ (.int .i64 (sz N : Nat)), w_ 2, o_, o_, o_, o_, o_] [7, 6, 5, 4, 0, 1, 21] (fun Kt => Value.int .i64 ((bs (minB M)).size : Nat) = .int .i64 (sz M : Nat) ∧ ¬ (i < (sz M)) ∧ Value.int .i64 ((bs (minB N)).size : Nat) = .int .i64 (sz N : Nat) ∧ i < (sz N) ∧ Kt [(21, .bool true), (7, .int .i64 (i : Nat)), (6, .int .i64 (carB M N i : Nat)), (5, rv), (4, .string (bs [])), (0, .string (bs (minB M))), (1, .string (bs (minB N)))] []) (by kernel_rfl) (fun _ => by kernel_rfl) (⟨(vI ((bs_size _).trans (minB_len M))), (by omega), (vI ((bs_size _).trans (minB_len N))), (by omega), fun ac14 wd14 FF14 MM14 => ?_⟩)
      refine then_n (.inl ⟨FF14.ev 0 rfl, ?_⟩)
      refine wp_seq (rg_seq FF14 MM14 [o_, o_, o_, t_ (.int .i64 (M / 256 ^ i % 256 : Nat)), o_, o_, t_ (.int .i64 (N / 256 ^ i % 256 : Nat)), o_, o_, o_] [7, 6, 5, 4, 0, 1] (fun Kt => CallP Try.prog 28 [.string (bs (minB M)), .int .i64 (i : Nat)] [] (.int .i64 (M / 256 ^ i % 256 : Nat)) ∧ CallP Try.prog 28 [.string (bs (minB N)), .int .i64 (i : Nat)] [] (.int .i64 (N / 256 ^ i % 256 : Nat)) ∧ (M / 256 ^ i % 256) + (N / 256 ^ i % 256) < 9223372036854775808 ∧ (carB M N i) + ((M / 256 ^ i % 256) + (N / 256 ^ i % 256)) < 9223372036854775808 ∧ Kt [(6, .int .i64 ((carB M N i) + ((M / 256 ^ i % 256) + (N / 256 ^ i % 256)) : Nat)), (7, .int .i64 (i : Nat)), (5, rv), (4, .string (bs [])), (0, .string (bs (minB M))), (1, .string (bs (minB N)))] []) (by kernel_rfl) (fun _ => by kernel_rfl) (⟨(digm_ok _ _ _), (digm_ok _ _ _), (by omega), (by have := car_lt M N i; omega), fun ac15 wd15 FF15 MM15 => then_n ?_⟩))
      refine wp_seq (wp_region_list ?_)
      refine rg_part 4 FF15 MM15 [o_, o_, t_ (.int .u8 ((M + N) / 256 ^ i % 256 : Nat)), o_] [6, 7, 5, 4, 0, 1, 33, 36] (fun Kt => Value.int .u8 (((carB M N i) + ((M / 256 ^ i % 256) + (N / 256 ^ i % 256))) % 256 : Nat) = .int .u8 ((M + N) / 256 ^ i % 256 : Nat) ∧ ∀ bq, Kt [(36, .slice (some ⟨bq, 0, none⟩) 1 1), (33, rv), (6, .int .i64 ((carB M N i) + ((M / 256 ^ i % 256) + (N / 256 ^ i % 256)) : Nat)), (7, .int .i64 (i : Nat)), (5, rv), (4, .string (bs [])), (0, .string (bs (minB M))), (1, .string (bs (minB N)))] [(bq, .cells (cn .u8 ([(M + N) / 256 ^ i % 256])) 5)]) (by kernel_rfl) (fun _ => by kernel_rfl) (⟨(vI (car_digit M N i)), fun bq => fun ac16 wd16 FF16 MM16 => ?_⟩)
      refine st_app [6, 7, 5, 4, 0, 1, 37] FF16 MM16 (d := 37) (s := 33) (x := 36) (Y := (bcells [(M + N) / 256 ^ i % 256])) (z := .int .u8 (0 : Nat)) (bb := 1) rfl rfl rfl rfl (lies_cn (MM16.get 0 rfl)) (bcells_one _) (by decide) Try.underlying42 (by kernel_rfl) rfl (by decide) (by simp only [maxLen]; omega) (by omega) rfl rfl (by decide) fun ac18 wd18 rv17 (FF18 : Fr 43 ac18 [(37, rv17), (6, .int .i64 ((carB M N i) + ((M / 256 ^ i % 256) + (N / 256 ^ i % 256)) : Nat)), (7, .int .i64 (i : Nat)), (5, rv), (4, .string (bs [])), (0, .string (bs (minB M))), (1, .string (bs (minB N)))]) (MM18 : MemS (fun k => k < w0.heap.size) w0 wd18 [(bq, .cells (cn .u8 ([(M + N) / 256 ^ i % 256])) 5)] [(rv17, 5, 1, (i + 1), ((bcells (leB i (M + N))) ++ (bcells [(M + N) / 256 ^ i % 256])))]) => ?_
      rw [bcells_app, ← leB_succ] at MM18
      refine rg_part 1 FF18 MM18 [o_] [6, 7, 5, 4, 0, 1] (fun Kt => Kt [(5, rv17), (6, .int .i64 ((carB M N i) + ((M / 256 ^ i % 256) + (N / 256 ^ i % 256)) : Nat)), (7, .int .i64 (i : Nat)), (4, .string (bs [])), (0, .string (bs (minB M))), (1, .string (bs (minB N)))] [(bq, .cells (cn .u8 ([(M + N) / 256 ^ i % 256])) 5)]) (by kernel_rfl) (fun _ => by kernel_rfl) (fun ac19 wd19 FF19 MM19 => ?_)
      refine wpl_nil (then_n ?_)
      refine rg_seq FF19 MM19 [o_, t_ (.int .i64 (carB M N (i + 1) : Nat)), o_] [5, 6, 7, 4, 0, 1] (fun Kt => 8 ≤ 64 ∧ Value.int .i64 (((carB M N i) + ((M / 256 ^ i % 256) + (N / 256 ^ i % 256))) / 256 : Nat) = .int .i64 (carB M N (i + 1) : Nat) ∧ Kt [(6, .int .i64 (carB M N (i + 1) : Nat)), (5, rv17), (7, .int .i64 (i : Nat)), (4, .string (bs [])), (0, .string (bs (minB M))), (1, .string (bs (minB N)))] [(bq, .cells (cn .u8 ([(M + N) / 256 ^ i % 256])) 5)]) (by kernel_rfl) (fun _ => by kernel_rfl) (⟨(by decide), (vI (car_step M N i)), fun ac20 wd20 FF20 MM20 => ?_⟩)
      refine inb_n (then_n ?_)
      refine rg_seq FF20 MM20 [o_, o_, o_] [6, 5, 7, 4, 0, 1] (fun Kt => i + 1 < 9223372036854775808 ∧ Kt [(7, .int .i64 (i + 1 : Nat)), (6, .int .i64 (carB M N (i + 1) : Nat)), (5, rv17), (4, .string (bs [])), (0, .string (bs (minB M))), (1, .string (bs (minB N)))] [(bq, .cells (cn .u8 ([(M + N) / 256 ^ i % 256])) 5)]) (by kernel_rfl) (fun _ => by kernel_rfl) (⟨(by omega), fun ac21 wd21 FF21 MM21 => ?_⟩)
      have hd := cnt_of (FF21.get 0 rfl)
      refine then_n ⟨⟨rv17, i + 1, (by first | omega | (have := car_more h3; omega)), FF21.pick [0, 1, 2, 3, 4, 5], MM21.sub [] rfl⟩, ?_⟩
      rw [hc, hd]; first | omega | (have := car_more h3; omega)
    · by_cases h3 : carB M N i > 0
      · skip
        refine rg_seq FF5 MM5 [o_, o_, t_ (.int .i64 (sz M : Nat)), w_ 3, o_, o_, o_, t_ (.int .i64 (sz N : Nat)), w_ 3, o_, o_, o_, w_ 2, o_] [7, 6, 5, 4, 0, 1, 21] (fun Kt => Value.int .i64 ((bs (minB M)).size : Nat) = .int .i64 (sz M : Nat) ∧ ¬ (i < (sz M)) ∧ Value.int .i64 ((bs (minB N)).size : Nat) = .int .i64 (sz N : Nat) ∧ ¬ (i < (sz N)) ∧ (carB M N i) > 0 ∧ Kt [(21, .bool true), (7, .int .i64 (i : Nat)), (6, .int .i64 (carB M N i : Nat)), (5, rv), (4, .string (bs [])), (0, .string (bs (minB M))), (1, .string (bs (minB N)))] []) (by kernel_rfl) (fun _ => by kernel_rfl) (⟨(vI ((bs_size _).trans (minB_len M))), (by omega), (vI ((bs_size _).trans (minB_len N))), (by omega), (by have := car_lt M N i; omega), fun ac22 wd22 FF22 MM22 => ?_⟩)
        refine then_n (.inl ⟨FF22.ev 0 rfl, ?_⟩)
        refine wp_seq (rg_seq FF22 MM22 [o_, o_, o_, t_ (.int .i64 (M / 256 ^ i % 256 : Nat)), o_, o_, t_ (.int .i64 (N / 256 ^ i % 256 : Nat)), o_, o_, o_] [7, 6, 5, 4, 0, 1] (fun Kt => CallP Try.prog 28 [.string (bs (minB M)), .int .i64 (i : Nat)] [] (.int .i64 (M / 256 ^ i % 256 : Nat)) ∧ CallP Try.prog 28 [.string (bs (minB N)), .int .i64 (i : Nat)] [] (.int .i64 (N / 256 ^ i % 256 : Nat)) ∧ (M / 256 ^ i % 256) + (N / 256 ^ i % 256) < 9223372036854775808 ∧ (carB M N i) + ((M / 256 ^ i % 256) + (N / 256 ^ i % 256)) < 9223372036854775808 ∧ Kt [(6, .int .i64 ((carB M N i) + ((M / 256 ^ i % 256) + (N / 256 ^ i % 256)) : Nat)), (7, .int .i64 (i : Nat)), (5, rv), (4, .string (bs [])), (0, .string (bs (minB M))), (1, .string (bs (minB N)))] []) (by kernel_rfl) (fun _ => by kernel_rfl) (⟨(digm_ok _ _ _), (digm_ok _ _ _), (by omega), (by have := car_lt M N i; omega), fun ac23 wd23 FF23 MM23 => then_n ?_⟩))
        refine wp_seq (wp_region_list ?_)
        refine rg_part 4 FF23 MM23 [o_, o_, t_ (.int .u8 ((M + N) / 256 ^ i % 256 : Nat)), o_] [6, 7, 5, 4, 0, 1, 33, 36] (fun Kt => Value.int .u8 (((carB M N i) + ((M / 256 ^ i % 256) + (N / 256 ^ i % 256))) % 256 : Nat) = .int .u8 ((M + N) / 256 ^ i % 256 : Nat) ∧ ∀ bq, Kt [(36, .slice (some ⟨bq, 0, none⟩) 1 1), (33, rv), (6, .int .i64 ((carB M N i) + ((M / 256 ^ i % 256) + (N / 256 ^ i % 256)) : Nat)), (7, .int .i64 (i : Nat)), (5, rv), (4, .string (bs [])), (0, .string (bs (minB M))), (1, .string (bs (minB N)))] [(bq, .cells (cn .u8 ([(M + N) / 256 ^ i % 256])) 5)]) (by kernel_rfl) (fun _ => by kernel_rfl) (⟨(vI (car_digit M N i)), fun bq => fun ac24 wd24 FF24 MM24 => ?_⟩)
        refine st_app [6, 7, 5, 4, 0, 1, 37] FF24 MM24 (d := 37) (s := 33) (x := 36) (Y := (bcells [(M + N) / 256 ^ i % 256])) (z := .int .u8 (0 : Nat)) (bb := 1) rfl rfl rfl rfl (lies_cn (MM24.get 0 rfl)) (bcells_one _) (by decide) Try.underlying42 (by kernel_rfl) rfl (by decide) (by simp only [maxLen]; omega) (by omega) rfl rfl (by decide) fun ac26 wd26 rv25 (FF26 : Fr 43 ac26 [(37, rv25), (6, .int .i64 ((carB M N i) + ((M / 256 ^ i % 256) + (N / 256 ^ i % 256)) : Nat)), (7, .int .i64 (i : Nat)), (5, rv), (4, .string (bs [])), (0, .string (bs (minB M))), (1, .string (bs (minB N)))]) (MM26 : MemS (fun k => k < w0.heap.size) w0 wd26 [(bq, .cells (cn .u8 ([(M + N) / 256 ^ i % 256])) 5)] [(rv25, 5, 1, (i + 1), ((bcells (leB i (M + N))) ++ (bcells [(M + N) / 256 ^ i % 256])))]) => ?_
        rw [bcells_app, ← leB_succ] at MM26
        refine rg_part 1 FF26 MM26 [o_] [6, 7, 5, 4, 0, 1] (fun Kt => Kt [(5, rv25), (6, .int .i64 ((carB M N i) + ((M / 256 ^ i % 256) + (N / 256 ^ i % 256)) : Nat)), (7, .int .i64 (i : Nat)), (4, .string (bs [])), (0, .string (bs (minB M))), (1, .string (bs (minB N)))] [(bq, .cells (cn .u8 ([(M + N) / 256 ^ i % 256])) 5)]) (by kernel_rfl) (fun _ => by kernel_rfl) (fun ac27 wd27 FF27 MM27 => ?_)
        refine wpl_nil (then_n ?_)
        refine rg_seq FF27 MM27 [o_, t_ (.int .i64 (carB M N (i + 1) : Nat)), o_] [5, 6, 7, 4, 0, 1] (fun Kt => 8 ≤ 64 ∧ Value.int .i64 (((carB M N i) + ((M / 256 ^ i % 256) + (N / 256 ^ i % 256))) / 256 : Nat) = .int .i64 (carB M N (i + 1) : Nat) ∧ Kt [(6, .int .i64 (carB M N (i + 1) : Nat)), (5, rv25), (7, .int .i64 (i : Nat)), (4, .string (bs [])), (0, .string (bs (minB M))), (1, .string (bs (minB N)))] [(bq, .cells (cn .u8 ([(M + N) / 256 ^ i % 256])) 5)]) (by kernel_rfl) (fun _ => by kernel_rfl) (⟨(by decide), (vI (car_step M N i)), fun ac28 wd28 FF28 MM28 => ?_⟩)
        refine inb_n (then_n ?_)
        refine rg_seq FF28 MM28 [o_, o_, o_] [6, 5, 7, 4, 0, 1] (fun Kt => i + 1 < 9223372036854775808 ∧ Kt [(7, .int .i64 (i + 1 : Nat)), (6, .int .i64 (carB M N (i + 1) : Nat)), (5, rv25), (4, .string (bs [])), (0, .string (bs (minB M))), (1, .string (bs (minB N)))] [(bq, .cells (cn .u8 ([(M + N) / 256 ^ i % 256])) 5)]) (by kernel_rfl) (fun _ => by kernel_rfl) (⟨(by omega), fun ac29 wd29 FF29 MM29 => ?_⟩)
        have hd := cnt_of (FF29.get 0 rfl)
        refine then_n ⟨⟨rv25, i + 1, (by first | omega | (have := car_more h3; omega)), FF29.pick [0, 1, 2, 3, 4, 5], MM29.sub [] rfl⟩, ?_⟩
        rw [hc, hd]; first | omega | (have := car_more h3; omega)
      · skip
        refine rg_seq FF5 MM5 [o_, o_, t_ (.int .i64 (sz M : Nat)), w_ 3, o_, o_, o_, t_ (.int .i64 (sz N : Nat)), w_ 3, o_, o_, o_, w_ 3, o_] [7, 6, 5, 4, 0, 1, 21] (fun Kt => Value.int .i64 ((bs (minB M)).size : Nat) = .int .i64 (sz M : Nat) ∧ ¬ (i < (sz M)) ∧ Value.int .i64 ((bs (minB N)).size : Nat) = .int .i64 (sz N : Nat) ∧ ¬ (i < (sz N)) ∧ ¬ ((carB M N i) > 0) ∧ Kt [(21, .bool false), (7, .int .i64 (i : Nat)), (6, .int .i64 (carB M N i : Nat)), (5, rv), (4, .string (bs [])), (0, .string (bs (minB M))), (1, .string (bs (minB N)))] []) (by kernel_rfl) (fun _ => by kernel_rfl) (⟨(vI ((bs_size _).trans (minB_len M))), (by omega), (vI ((bs_size _).trans (minB_len N))), (by omega), (by have := car_lt M N i; omega), fun ac30 wd30 FF30 MM30 => ?_⟩)
        refine then_n (.inr ⟨FF30.ev 0 rfl, ?_⟩)
        refine then_n ?_
        refine wp_seq (wp_region_list ?_)
        refine rg_part 1 FF30 MM30 [o_] [7, 6, 5, 4, 0, 1, 40] (fun Kt => Kt [(40, rv), (7, .int .i64 (i : Nat)), (6, .int .i64 (carB M N i : Nat)), (5, rv), (4, .string (bs [])), (0, .string (bs (minB M))), (1, .string (bs (minB N)))] []) (by kernel_rfl) (fun _ => by kernel_rfl) (fun ac31 wd31 FF31 MM31 => ?_)
        refine st_strS [7, 6, 5, 4, 0, 1, 41] FF31 MM31 (leB_lt i (M + N)) (d := 41) (s := 40) rfl rfl Try.underlying42 Try.underlying5 Try.underlying9 rfl rfl (by decide) fun ac32 (FF32 : Fr 43 ac32 [(41, .string (bs (leB i (M + N)))), (7, .int .i64 (i : Nat)), (6, .int .i64 (carB M N i : Nat)), (5, rv), (4, .string (bs [])), (0, .string (bs (minB M))), (1, .string (bs (minB N)))]) => ?_
        refine rg_part 2 FF32 MM31 [t_ (.string (bs (minB (M + N)))), o_] [7, 6, 5, 4, 0, 1] (fun Kt => CallP Try.prog 27 [.string (bs (leB i (M + N)))] [] (.string (bs (minB (M + N)))) ∧ Kt [(4, .string (bs (minB (M + N)))), (7, .int .i64 (i : Nat)), (6, .int .i64 (carB M N i : Nat)), (5, rv), (0, .string (bs (minB M))), (1, .string (bs (minB N)))] []) (by kernel_rfl) (fun _ => by kernel_rfl) (⟨(by have h0 := callP_of ent27 (trim_any (leB i (M + N)) (leB_lt i (M + N)) (by rw [leB_len]; omega)) []; rw [add_val (add_end (by omega) (by omega) (by omega))] at h0; exact h0), fun ac33 wd33 FF33 MM33 => ?_⟩)
        refine wpl_nil (then_n ?_)
        refine wp_ret ?_
        repeat first | refine then_ret ?_ | refine inb_ret ?_
        exact (ret_fr FF33 0 Try.results15 rfl ⟨rfl, MM33.below⟩)
set_option maxRecDepth 100000 in
theorem cmp_any (M N : Nat) (hz : sz M + sz N < 1000000) (w0 : World) :
    Calls Try.prog 29 #[.string (bs (minB M)), .string (bs (minB N))] w0 fun e w' => e = .returned (.int .i64 (cmpN M N)) ∧ Below w0.heap.size w0 w' := by
  refine enter_fr Try.func29 rfl Try.ntmps29 (by simp) fun ac (FF : Fr 37 ac [(0, .string (bs (minB M))), (1, .string (bs (minB N)))]) => ?_
  have MM := MemS.start w0
  refine wp_seq (rg_seq FF MM [o_] [0, 1, 4] (fun Kt => Kt [(4, .int .i64 (0 : Nat)), (0, .string (bs (minB M))), (1, .string (bs (minB N)))] []) (by kernel_rfl) (fun _ => by kernel_rfl) (fun ac1 wd1 FF1 MM1 => then_n ?_))
  refine wp_seq ?_
  refine wp_seq (rg_seq FF1 MM1 [o_, t_ (.int .i64 (sz M : Nat)), o_, t_ (.int .i64 (sz N : Nat)), o_] [4, 0, 1, 10] (fun Kt => Value.int .i64 ((bs (minB M)).size : Nat) = .int .i64 (sz M : Nat) ∧ Value.int .i64 ((bs (minB N)).size : Nat) = .int .i64 (sz N : Nat) ∧ Kt [(10, .bool (decide ((sz M) ≠ (sz N)))), (4, .int .i64 (0 : Nat)), (0, .string (bs (minB M))), (1, .string (bs (minB N)))] []) (by kernel_rfl) (fun _ => by kernel_rfl) (⟨(vI ((bs_size _).trans (minB_len M))), (vI ((bs_size _).trans (minB_len N))), fun ac2 wd2 FF2 MM2 => then_n ?_⟩))
  by_cases hs10 : (sz M) ≠ (sz N)
  · refine wp_cond_true ((FF2.ev 0 rfl).trans (dec_t hs10)) ?_
    refine wp_seq ?_
    refine wp_seq (rg_seq FF2 MM2 [o_, t_ (.int .i64 (sz M : Nat)), o_, t_ (.int .i64 (sz N : Nat)), o_] [4, 0, 1, 15] (fun Kt => Value.int .i64 ((bs (minB M)).size : Nat) = .int .i64 (sz M : Nat) ∧ Value.int .i64 ((bs (minB N)).size : Nat) = .int .i64 (sz N : Nat) ∧ Kt [(15, .bool (decide ((sz M) < (sz N)))), (4, .int .i64 (0 : Nat)), (0, .string (bs (minB M))), (1, .string (bs (minB N)))] []) (by kernel_rfl) (fun _ => by kernel_rfl) (⟨(vI ((bs_size _).trans (minB_len M))), (vI ((bs_size _).trans (minB_len N))), fun ac3 wd3 FF3 MM3 => then_n ?_⟩))
    by_cases hs15 : (sz M) < (sz N)
    · refine wp_cond_true ((FF3.ev 0 rfl).trans (dec_t hs15)) ?_
      have hM := cmp_len hs15
      refine wp_seq (rg_seq FF3 MM3 [o_] [4, 0, 1] (fun Kt => Kt [(4, .int .i64 (-1 : Int)), (0, .string (bs (minB M))), (1, .string (bs (minB N)))] []) (by kernel_rfl) (fun _ => by kernel_rfl) (fun ac4 wd4 FF4 MM4 => then_n ?_))
      refine wp_ret ?_
      repeat first | refine then_ret ?_ | refine inb_ret ?_
      exact (ret_fr FF4 0 Try.results29 rfl ⟨congrArg (fun z => Ending.returned (Value.int .i64 z)) (cmpm hM), MM4.below⟩)
    · refine wp_cond_false ((FF3.ev 0 rfl).trans (dec_f hs15)) ?_
      have hM := cmp_len (show sz N < sz M by omega)
      refine wp_skip ?_
      refine then_n ?_
      refine wp_seq (rg_seq FF3 MM3 [o_] [4, 0, 1] (fun Kt => Kt [(4, .int .i64 (1 : Nat)), (0, .string (bs (minB M))), (1, .string (bs (minB N)))] []) (by kernel_rfl) (fun _ => by kernel_rfl) (fun ac5 wd5 FF5 MM5 => then_n ?_))
      refine wp_ret ?_
      repeat first | refine then_ret ?_ | refine inb_ret ?_
      exact (ret_fr FF5 0 Try.results29 rfl ⟨congrArg (fun z => Ending.returned (Value.int .i64 z)) (cmp1 hM), MM5.below⟩)
  · refine wp_cond_false ((FF2.ev 0 rfl).trans (dec_f hs10)) ?_
    have hs : sz M = sz N := by omega
    refine wp_skip ?_
    refine then_n ?_
    refine wp_seq ?_
    refine wp_seq (rg_seq FF2 MM2 [o_, t_ (.int .i64 (sz M : Nat)), u_ 4 (.int .i64 (((sz M : Nat) : Int) - 1 : Int)), o_] [4, 0, 1, 5] (fun Kt => Value.int .i64 ((bs (minB M)).size : Nat) = .int .i64 (sz M : Nat) ∧ -(9223372036854775808 : Int) ≤ ((sz M : Nat) : Int) - ((1 : Nat) : Int) ∧ ((sz M : Nat) : Int) - ((1 : Nat) : Int) < (9223372036854775808 : Nat) ∧ Value.int .i64 (((sz M : Nat) : Int) - ((1 : Nat) : Int) : Int) = .int .i64 (((sz M : Nat) : Int) - 1 : Int) ∧ Kt [(5, .int .i64 (((sz M : Nat) : Int) - 1 : Int)), (4, .int .i64 (0 : Nat)), (0, .string (bs (minB M))), (1, .string (bs (minB N)))] []) (by kernel_rfl) (fun _ => by kernel_rfl) (⟨(vI ((bs_size _).trans (minB_len M))), (by omega), (by omega), (vZ (by omega)), fun ac6 wd6 FF6 MM6 => then_n ?_⟩))
    refine wp_for2 (fun a' w' => ∃ j : Nat, j ≤ sz M ∧ M / 256 ^ j = N / 256 ^ j ∧ Fr 37 a' [(5, .int .i64 (((j : Nat) : Int) - 1 : Int)), (0, .string (bs (minB M))), (1, .string (bs (minB N)))] ∧ MemS (fun k => k < w0.heap.size) w0 w' [] []) (fun a' _ => (cnt 5 a' + 1).toNat) ⟨sz M, Nat.le_refl _, cmp_top hs, FF6.pick [0, 2, 3], MM6⟩ ?_
    rintro ac7 wd7 ⟨j, hj, hq, FF7, MM7⟩
    have hc := cnt_of (FF7.get 0 rfl)
    refine rg_seq FF7 MM7 [o_, w_ 4] [5, 0, 1, 20] (fun Kt => Kt [(20, .bool (decide ((((j : Nat) : Int) - 1) ≥ ((0 : Nat) : Int)))), (5, .int .i64 (((j : Nat) : Int) - 1 : Int)), (0, .string (bs (minB M))), (1, .string (bs (minB N)))] []) (by kernel_rfl) (fun _ => by kernel_rfl) (fun ac8 wd8 FF8 MM8 => ?_)
    by_cases hlt : (((j : Nat) : Int) - 1) ≥ ((0 : Nat) : Int)
    · skip
      refine then_n (.inl ⟨(FF8.ev 0 rfl).trans (dec_t hlt), ?_⟩)
      obtain ⟨j, rfl⟩ : ∃ z, j = z + 1 := ⟨j - 1, by omega⟩
      refine wp_seq (rg_draw FF8 MM8 [.inl (.string (bs (minB M))), .inl (.int .i64 (j : Nat)), .inl (.int .u8 (M / 256 ^ j % 256 : Nat)), .inl (.string (bs (minB N))), .inl (.int .i64 (j : Nat)), .inl (.int .u8 (N / 256 ^ j % 256 : Nat)), .inl (.bool (decide ((M / 256 ^ j % 256) ≠ (N / 256 ^ j % 256))))] [] [o_, t_ (.int .i64 (j : Nat)), t_ (.int .u8 (M / 256 ^ j % 256 : Nat)), o_, t_ (.int .i64 (j : Nat)), t_ (.int .u8 (N / 256 ^ j % 256 : Nat)), o_] [] [5, 0, 1, 29] (fun nb => [Value.int .i64 ((((j + 1) : Nat) : Int) - 1 : Int) = .int .i64 (j : Nat), j < (bs (minB M)).size, (nl (bs (minB M))).getD j 0 = M / 256 ^ j % 256, Value.int .i64 ((((j + 1) : Nat) : Int) - 1 : Int) = .int .i64 (j : Nat), j < (bs (minB N)).size, (nl (bs (minB N))).getD j 0 = N / 256 ^ j % 256]) (fun nb Kt => Kt [(29, .bool (decide ((M / 256 ^ j % 256) ≠ (N / 256 ^ j % 256)))), (5, .int .i64 ((((j + 1) : Nat) : Int) - 1 : Int)), (0, .string (bs (minB M))), (1, .string (bs (minB N)))] []) (by kernel_rfl) (by kernel_rfl) (by kernel_rfl) (fun _ => by kernel_rfl) (fun _ _ => by kernel_rfl) trivial (fun nb => ⟨(vZ (by omega)), (by simp only [bs_size, minB_len]; omega), ((byte_bs (minB_lt M) _).trans (minB_get M _)), (vZ (by omega)), (by simp only [bs_size, minB_len]; omega), ((byte_bs (minB_lt N) _).trans (minB_get N _)), trivial⟩) (fun nb => fun ac9 wd9 FF9 MM9 => then_n ?_))
      by_cases hs29 : (M / 256 ^ j % 256) ≠ (N / 256 ^ j % 256)
      · refine wp_cond_true ((FF9.ev 0 rfl).trans (dec_t hs29)) ?_
        refine wp_seq ?_
        refine wp_seq (rg_draw FF9 MM9 [.inl (.string (bs (minB M))), .inl (.int .i64 (j : Nat)), .inl (.int .u8 (M / 256 ^ j % 256 : Nat)), .inl (.string (bs (minB N))), .inl (.int .i64 (j : Nat)), .inl (.int .u8 (N / 256 ^ j % 256 : Nat)), .inl (.bool (decide ((M / 256 ^ j % 256) < (N / 256 ^ j % 256))))] [] [o_, t_ (.int .i64 (j : Nat)), t_ (.int .u8 (M / 256 ^ j % 256 : Nat)), o_, t_ (.int .i64 (j : Nat)), t_ (.int .u8 (N / 256 ^ j % 256 : Nat)), o_] [] [5, 0, 1, 36] (fun nb => [Value.int .i64 ((((j + 1) : Nat) : Int) - 1 : Int) = .int .i64 (j : Nat), j < (bs (minB M)).size, (nl (bs (minB M))).getD j 0 = M / 256 ^ j % 256, Value.int .i64 ((((j + 1) : Nat) : Int) - 1 : Int) = .int .i64 (j : Nat), j < (bs (minB N)).size, (nl (bs (minB N))).getD j 0 = N / 256 ^ j % 256]) (fun nb Kt => Kt [(36, .bool (decide ((M / 256 ^ j % 256) < (N / 256 ^ j % 256)))), (5, .int .i64 ((((j + 1) : Nat) : Int) - 1 : Int)), (0, .string (bs (minB M))), (1, .string (bs (minB N)))] []) (by kernel_rfl) (by kernel_rfl) (by kernel_rfl) (fun _ => by kernel_rfl) (fun _ _ => by kernel_rfl) trivial (fun nb => ⟨(vZ (by omega)), (by simp only [bs_size, minB_len]; omega), ((byte_bs (minB_lt M) _).trans (minB_get M _)), (vZ (by omega)), (by simp only [bs_size, minB_len]; omega), ((byte_bs (minB_lt N) _).trans (minB_get N _)), trivial⟩) (fun nb => fun ac10 wd10 FF10 MM10 => then_n ?_))
        by_cases hs36 : (M / 256 ^ j % 256) < (N / 256 ^ j % 256)
        · refine wp_cond_true ((FF10.ev 0 rfl).trans (dec_t hs36)) ?_
          have hM := cmp_lt hq hs36
          refine wp_seq (rg_seq FF10 MM10 [o_] [5, 0, 1, 4] (fun Kt => Kt [(4, .int .i64 (-1 : Int)), (5, .int .i64 ((((j + 1) : Nat) : Int) - 1 : Int)), (0, .string (bs (minB M))), (1, .string (bs (minB N)))] []) (by kernel_rfl) (fun _ => by kernel_rfl) (fun ac11 wd11 FF11 MM11 => then_n ?_))
          refine wp_ret ?_
          repeat first | refine then_ret ?_ | refine inb_ret ?_
          exact (ret_fr FF11 0 Try.results29 rfl ⟨congrArg (fun z => Ending.returned (Value.int .i64 z)) (cmpm hM), MM11.below⟩)
        · refine wp_cond_false ((FF10.ev 0 rfl).trans (dec_f hs36)) ?_
          have hM := cmp_lt hq.symm (by omega)
          refine wp_skip ?_
          refine then_n ?_
          refine wp_seq (rg_seq FF10 MM10 [o_] [5, 0, 1, 4] (fun Kt => Kt [(4, .int .i64 (1 : Nat)), (5, .int .i64 ((((j + 1) : Nat) : Int) - 1 : Int)), (0, .string (bs (minB M))), (1, .string (bs (minB N)))] []) (by kernel_rfl) (fun _ => by kernel_rfl) (fun ac12 wd12 FF12 MM12 => then_n ?_))
          refine wp_ret ?_
          repeat first | refine then_ret ?_ | refine inb_ret ?_
          exact (ret_fr FF12 0 Try.results29 rfl ⟨congrArg (fun z => Ending.returned (Value.int .i64 z)) (cmp1 hM), MM12.below⟩)
      · refine wp_cond_false ((FF9.ev 0 rfl).trans (dec_f hs29)) ?_
        have hq2 := cmp_eq hq (by omega)
        refine wp_skip ?_
        refine inb_n (then_n ?_)
        refine rg_seq FF9 MM9 [o_, u_ 4 (.int .i64 (((j : Nat) : Int) - 1 : Int)), o_] [5, 0, 1] (fun Kt => -(9223372036854775808 : Int) ≤ ((((j + 1) : Nat) : Int) - 1) - ((1 : Nat) : Int) ∧ ((((j + 1) : Nat) : Int) - 1) - ((1 : Nat) : Int) < (9223372036854775808 : Nat) ∧ Value.int .i64 (((((j + 1) : Nat) : Int) - 1) - ((1 : Nat) : Int) : Int) = .int .i64 (((j : Nat) : Int) - 1 : Int) ∧ Kt [(5, .int .i64 (((j : Nat) : Int) - 1 : Int)), (0, .string (bs (minB M))), (1, .string (bs (minB N)))] []) (by kernel_rfl) (fun _ => by kernel_rfl) (⟨(by omega), (by omega), (vZ (by omega)), fun ac13 wd13 FF13 MM13 => ?_⟩)
        have hd := cnt_of (FF13.get 0 rfl)
        refine then_n ⟨⟨j, by omega, hq2, FF13.pick [0, 1, 2], MM13⟩, ?_⟩
        rw [hc, hd]; omega
    · skip
      refine then_n (.inr ⟨(FF8.ev 0 rfl).trans (dec_f hlt), ?_⟩)
      obtain rfl : j = 0 := by omega
      have hM : M = N := by simpa using hq
      refine then_n ?_
      refine wp_seq (rg_seq FF8 MM8 [o_] [5, 0, 1, 4] (fun Kt => Kt [(4, .int .i64 (0 : Nat)), (5, .int .i64 (((0 : Nat) : Int) - 1 : Int)), (0, .string (bs (minB M))), (1, .string (bs (minB N)))] []) (by kernel_rfl) (fun _ => by kernel_rfl) (fun ac14 wd14 FF14 MM14 => then_n ?_))
      refine wp_ret ?_
      repeat first | refine then_ret ?_ | refine inb_ret ?_
      exact (ret_fr FF14 0 Try.results29 rfl ⟨congrArg (fun z => Ending.returned (Value.int .i64 z)) (cmp0 hM), MM14.below⟩)
set_option maxRecDepth 100000 in
theorem sub8_any (M N : Nat) (hz : sz M + sz N < 1000000) (w0 : World) :
    Calls Try.prog 16 #[.string (bs (minB M)), .string (bs (minB N))] w0 fun e w' => e = .returned (.tuple #[.string (bs (subN M N)), .bool (decide (N ≤ M))]) ∧ Below w0.heap.size w0 w' := by
  refine enter_fr Try.func16 rfl Try.ntmps16 (by simp) fun ac (FF : Fr 41 ac [(0, .string (bs (minB M))), (1, .string (bs (minB N)))]) => ?_
  have MM := MemS.start w0
  refine wp_seq (rg_seq FF MM [o_, o_] [0, 1, 4, 5] (fun Kt => Kt [(5, .bool false), (4, .string (bs [])), (0, .string (bs (minB M))), (1, .string (bs (minB N)))] []) (by kernel_rfl) (fun _ => by kernel_rfl) (fun ac1 wd1 FF1 MM1 => then_n ?_))
  refine wp_seq ?_
  refine wp_seq (rg_seq FF1 MM1 [o_, o_, t_ (.int .i64 (cmpN M N : Int)), w_ 4] [5, 4, 0, 1, 13] (fun Kt => CallP Try.prog 29 [.string (bs (minB M)), .string (bs (minB N))] [] (.int .i64 (cmpN M N : Int)) ∧ Kt [(13, .bool (decide ((cmpN M N) < ((0 : Nat) : Int)))), (5, .bool false), (4, .string (bs [])), (0, .string (bs (minB M))), (1, .string (bs (minB N)))] []) (by kernel_rfl) (fun _ => by kernel_rfl) (⟨(callP_of ent29 (cmp_any M N hz) _), fun ac2 wd2 FF2 MM2 => then_n ?_⟩))
  by_cases hs13 : (cmpN M N) < ((0 : Nat) : Int)
  · refine wp_cond_true ((FF2.ev 0 rfl).trans (dec_t hs13)) ?_
    have hno : ¬ N ≤ M := Nat.not_le.2 ((cmp_neg M N).1 hs13)
    refine wp_seq (rg_seq FF2 MM2 [o_, o_] [5, 4, 0, 1] (fun Kt => Kt [(5, .bool false), (4, .string (bs [])), (0, .string (bs (minB M))), (1, .string (bs (minB N)))] []) (by kernel_rfl) (fun _ => by kernel_rfl) (fun ac3 wd3 FF3 MM3 => then_n ?_))
    refine wp_ret ?_
    repeat first | refine then_ret ?_ | refine inb_ret ?_
    exact (ret_tup2 FF3 1 0 Try.results16 rfl rfl ⟨by rw [subN, if_neg hno, decide_eq_false hno], MM3.below⟩)
  · refine wp_cond_false ((FF2.ev 0 rfl).trans (dec_f hs13)) ?_
    have hle : N ≤ M := Nat.le_of_not_lt fun h => hs13 ((cmp_neg M N).2 h)
    refine wp_skip ?_
    refine then_n ?_
    refine wp_seq (rg_seq FF2 MM2 [o_] [5, 4, 0, 1, 6] (fun Kt => Kt [(6, .slice none 0 0), (5, .bool false), (4, .string (bs [])), (0, .string (bs (minB M))), (1, .string (bs (minB N)))] []) (by kernel_rfl) (fun _ => by kernel_rfl) (fun ac4 wd4 FF4 MM4 => then_n ?_))
    have MMn := MM4.rowNil 5 1
    refine wp_seq (rg_seq FF4 MMn [o_] [6, 5, 4, 0, 1, 7] (fun Kt => Kt [(7, .int .i64 (0 : Nat)), (6, .slice none 0 0), (5, .bool false), (4, .string (bs [])), (0, .string (bs (minB M))), (1, .string (bs (minB N)))] []) (by kernel_rfl) (fun _ => by kernel_rfl) (fun ac5 wd5 FF5 MM5 => then_n ?_))
    refine wp_seq ?_
    refine wp_seq (rg_seq FF5 MM5 [o_] [7, 6, 5, 4, 0, 1, 8] (fun Kt => Kt [(8, .int .i64 (0 : Nat)), (7, .int .i64 (0 : Nat)), (6, .slice none 0 0), (5, .bool false), (4, .string (bs [])), (0, .string (bs (minB M))), (1, .string (bs (minB N)))] []) (by kernel_rfl) (fun _ => by kernel_rfl) (fun ac6 wd6 FF6 MM6 => then_n ?_))
    refine wp_for2 (fun a' w' => ∃ rv : Value, ∃ i : Nat, ∃ c : Nat, i ≤ sz M ∧ c = borN M N i ∧ Fr 41 a' [(8, .int .i64 (i : Nat)), (7, .int .i64 (c : Nat)), (6, rv), (5, .bool false), (4, .string (bs [])), (0, .string (bs (minB M))), (1, .string (bs (minB N)))] ∧ MemS (fun k => k < w0.heap.size) w0 w' [] [(rv, 5, 1, i, (bcells (leB i (M - N))))]) (fun a' _ => (sz M - cnt 8 a').toNat) ⟨(.slice none 0 0), 0, 0, by omega, (bor_zero M N).symm, FF6.pick [0, 1, 2, 3, 4, 5, 6], MM6⟩ ?_
    rintro ac7 wd7 ⟨rv, i, c, hi, hbc, FF7, MM7⟩
    have hc := cnt_of (FF7.get 0 rfl)
    refine rg_seq FF7 MM7 [o_, o_, t_ (.int .i64 (sz M : Nat)), o_] [8, 7, 6, 5, 4, 0, 1, 17] (fun Kt => Value.int .i64 ((bs (minB M)).size : Nat) = .int .i64 (sz M : Nat) ∧ Kt [(17, .bool (decide (i < (sz M)))), (8, .int .i64 (i : Nat)), (7, .int .i64 (c : Nat)), (6, rv), (5, .bool false), (4, .string (bs [])), (0, .string (bs (minB M))), (1, .string (bs (minB N)))] []) (by kernel_rfl) (fun _ => by kernel_rfl) (⟨(vI ((bs_size _).trans (minB_len M))), fun ac8 wd8 FF8 MM8 => ?_⟩)
    by_cases hlt : i < (sz M)
    · skip
      refine then_n (.inl ⟨(FF8.ev 0 rfl).trans (dec_t hlt), ?_⟩)
      have hbl := bor_lt M N i
      refine wp_seq (rg_seq FF8 MM8 [o_, o_, t_ (.int .i64 (M / 256 ^ i % 256 : Nat)), o_, o_, t_ (.int .i64 (N / 256 ^ i % 256 : Nat)), w_ 4, o_, w_ 4, o_] [8, 7, 6, 5, 4, 0, 1, 9] (fun Kt => CallP Try.prog 28 [.string (bs (minB M)), .int .i64 (i : Nat)] [] (.int .i64 (M / 256 ^ i % 256 : Nat)) ∧ CallP Try.prog 28 [.string (bs (minB N)), .int .i64 (i : Nat)] [] (.int .i64 (N / 256 ^ i % 256 : Nat)) ∧ -(9223372036854775808 : Int) ≤ ((M / 256 ^ i % 256 : Nat) : Int) - ((N / 256 ^ i % 256 : Nat) : Int) ∧ ((M / 256 ^ i % 256 : Nat) : Int) - ((N / 256 ^ i % 256 : Nat) : Int) < (9223372036854775808 : Nat) ∧ -(9223372036854775808 : Int) ≤ (((M / 256 ^ i % 256 : Nat) : Int) - ((N / 256 ^ i % 256 : Nat) : Int)) - ((c : Nat) : Int) ∧ (((M / 256 ^ i % 256 : Nat) : Int) - ((N / 256 ^ i % 256 : Nat) : Int)) - ((c : Nat) : Int) < (9223372036854775808 : Nat) ∧ Kt [(9, .int .i64 ((((M / 256 ^ i % 256 : Nat) : Int) - ((N / 256 ^ i % 256 : Nat) : Int)) - ((c : Nat) : Int) : Int)), (8, .int .i64 (i : Nat)), (7, .int .i64 (c : Nat)), (6, rv), (5, .bool false), (4, .string (bs [])), (0, .string (bs (minB M))), (1, .string (bs (minB N)))] []) (by kernel_rfl) (fun _ => by kernel_rfl) (⟨(digm_ok _ _ _), (digm_ok _ _ _), (by omega), (by omega), (by omega), (by omega), fun ac9 wd9 FF9 MM9 => then_n ?_⟩))
      refine wp_seq (rg_seq FF9 MM9 [o_] [9, 8, 7, 6, 5, 4, 0, 1] (fun Kt => Kt [(7, .int .i64 (0 : Nat)), (9, .int .i64 ((((M / 256 ^ i % 256 : Nat) : Int) - ((N / 256 ^ i % 256 : Nat) : Int)) - ((c : Nat) : Int) : Int)), (8, .int .i64 (i : Nat)), (6, rv), (5, .bool false), (4, .string (bs [])), (0, .string (bs (minB M))), (1, .string (bs (minB N)))] []) (by kernel_rfl) (fun _ => by kernel_rfl) (fun ac10 wd10 FF10 MM10 => then_n ?_))
      refine wp_seq ?_
      refine wp_seq (rg_seq FF10 MM10 [o_, w_ 4] [7, 9, 8, 6, 5, 4, 0, 1, 30] (fun Kt => Kt [(30, .bool (decide (((((M / 256 ^ i % 256 : Nat) : Int) - ((N / 256 ^ i % 256 : Nat) : Int)) - ((c : Nat) : Int)) < ((0 : Nat) : Int)))), (7, .int .i64 (0 : Nat)), (9, .int .i64 ((((M / 256 ^ i % 256 : Nat) : Int) - ((N / 256 ^ i % 256 : Nat) : Int)) - ((c : Nat) : Int) : Int)), (8, .int .i64 (i : Nat)), (6, rv), (5, .bool false), (4, .string (bs [])), (0, .string (bs (minB M))), (1, .string (bs (minB N)))] []) (by kernel_rfl) (fun _ => by kernel_rfl) (fun ac11 wd11 FF11 MM11 => then_n ?_))
      by_cases hs30 : ((((M / 256 ^ i % 256 : Nat) : Int) - ((N / 256 ^ i % 256 : Nat) : Int)) - ((c : Nat) : Int)) < ((0 : Nat) : Int)
      · refine wp_cond_true ((FF11.ev 0 rfl).trans (dec_t hs30)) ?_
        have hq := sub_neg hle (i := i) (by omega)
        refine wp_seq (rg_seq FF11 MM11 [o_, u_ 4 (.int .i64 ((M - N) / 256 ^ i % 256 : Nat)), o_] [7, 9, 8, 6, 5, 4, 0, 1] (fun Kt => -(9223372036854775808 : Int) ≤ ((((M / 256 ^ i % 256 : Nat) : Int) - ((N / 256 ^ i % 256 : Nat) : Int)) - ((c : Nat) : Int)) + ((256 : Nat) : Int) ∧ ((((M / 256 ^ i % 256 : Nat) : Int) - ((N / 256 ^ i % 256 : Nat) : Int)) - ((c : Nat) : Int)) + ((256 : Nat) : Int) < (9223372036854775808 : Nat) ∧ Value.int .i64 (((((M / 256 ^ i % 256 : Nat) : Int) - ((N / 256 ^ i % 256 : Nat) : Int)) - ((c : Nat) : Int)) + ((256 : Nat) : Int) : Int) = .int .i64 ((M - N) / 256 ^ i % 256 : Nat) ∧ Kt [(9, .int .i64 ((M - N) / 256 ^ i % 256 : Nat)), (7, .int .i64 (0 : Nat)), (8, .int .i64 (i : Nat)), (6, rv), (5, .bool false), (4, .string (bs [])), (0, .string (bs (minB M))), (1, .string (bs (minB N)))] []) (by kernel_rfl) (fun _ => by kernel_rfl) (⟨(by omega), (by omega), (vZ (by omega)), fun ac12 wd12 FF12 MM12 => then_n ?_⟩))
        refine rg_seq FF12 MM12 [o_] [9, 7, 8, 6, 5, 4, 0, 1] (fun Kt => Kt [(7, .int .i64 (1 : Nat)), (9, .int .i64 ((M - N) / 256 ^ i % 256 : Nat)), (8, .int .i64 (i : Nat)), (6, rv), (5, .bool false), (4, .string (bs [])), (0, .string (bs (minB M))), (1, .string (bs (minB N)))] []) (by kernel_rfl) (fun _ => by kernel_rfl) (fun ac13 wd13 FF13 MM13 => ?_)
        refine then_n ?_
        refine wp_region_list ?_
        refine rg_part 4 FF13 MM13 [o_, t_ (.int .i64 ((M - N) / 256 ^ i % 256 : Nat)), t_ (.int .u8 ((M - N) / 256 ^ i % 256 : Nat)), o_] [7, 9, 8, 6, 5, 4, 0, 1, 33, 36] (fun Kt => Value.int .i64 ((M - N) / 256 ^ i % 256 : Nat) = .int .i64 ((M - N) / 256 ^ i % 256 : Nat) ∧ Value.int .u8 (((M - N) / 256 ^ i % 256) % 256 : Nat) = .int .u8 ((M - N) / 256 ^ i % 256 : Nat) ∧ ∀ bq, Kt [(36, .slice (some ⟨bq, 0, none⟩) 1 1), (33, rv), (7, .int .i64 (1 : Nat)), (9, .int .i64 ((M - N) / 256 ^ i % 256 : Nat)), (8, .int .i64 (i : Nat)), (6, rv), (5, .bool false), (4, .string (bs [])), (0, .string (bs (minB M))), (1, .string (bs (minB N)))] [(bq, .cells (cn .u8 ([(M - N) / 256 ^ i % 256])) 5)]) (by kernel_rfl) (fun _ => by kernel_rfl) (⟨(vZ (by omega)), (vI (Nat.mod_mod _ _)), fun bq => fun ac14 wd14 FF14 MM14 => ?_⟩)
        refine st_app [7, 9, 8, 6, 5, 4, 0, 1, 37] FF14 MM14 (d := 37) (s := 33) (x := 36) (Y := (bcells [(M - N) / 256 ^ i % 256])) (z := .int .u8 (0 : Nat)) (bb := 1) rfl rfl rfl rfl (lies_cn (MM14.get 0 rfl)) (bcells_one _) (by decide) Try.underlying42 (by kernel_rfl) rfl (by decide) (by simp only [maxLen]; omega) (by omega) rfl rfl (by decide) fun ac16 wd16 rv15 (FF16 : Fr 41 ac16 [(37, rv15), (7, .int .i64 (1 : Nat)), (9, .int .i64 ((M - N) / 256 ^ i % 256 : Nat)), (8, .int .i64 (i : Nat)), (6, rv), (5, .bool false), (4, .string (bs [])), (0, .string (bs (minB M))), (1, .string (bs (minB N)))]) (MM16 : MemS (fun k => k < w0.heap.size) w0 wd16 [(bq, .cells (cn .u8 ([(M - N) / 256 ^ i % 256])) 5)] [(rv15, 5, 1, (i + 1), ((bcells (leB i (M - N))) ++ (bcells [(M - N) / 256 ^ i % 256])))]) => ?_
        rw [bcells_app, ← leB_succ] at MM16
        refine rg_part 1 FF16 MM16 [o_] [7, 9, 8, 6, 5, 4, 0, 1] (fun Kt => Kt [(6, rv15), (7, .int .i64 (1 : Nat)), (9, .int .i64 ((M - N) / 256 ^ i % 256 : Nat)), (8, .int .i64 (i : Nat)), (5, .bool false), (4, .string (bs [])), (0, .string (bs (minB M))), (1, .string (bs (minB N)))] [(bq, .cells (cn .u8 ([(M - N) / 256 ^ i % 256])) 5)]) (by kernel_rfl) (fun _ => by kernel_rfl) (fun ac17 wd17 FF17 MM17 => ?_)
        refine wpl_nil ?_
        refine inb_n (then_n ?_)
        refine rg_seq FF17 MM17 [o_, o_, o_] [6, 7, 9, 8, 5, 4, 0, 1] (fun Kt => i + 1 < 9223372036854775808 ∧ Kt [(8, .int .i64 (i + 1 : Nat)), (6, rv15), (7, .int .i64 (1 : Nat)), (9, .int .i64 ((M - N) / 256 ^ i % 256 : Nat)), (5, .bool false), (4, .string (bs [])), (0, .string (bs (minB M))), (1, .string (bs (minB N)))] [(bq, .cells (cn .u8 ([(M - N) / 256 ^ i % 256])) 5)]) (by kernel_rfl) (fun _ => by kernel_rfl) (⟨(by omega), fun ac18 wd18 FF18 MM18 => ?_⟩)
        have hd := cnt_of (FF18.get 0 rfl)
        refine then_n ⟨⟨rv15, i + 1, 1, by omega, hq.2.symm, FF18.pick [0, 2, 1, 4, 5, 6, 7], MM18.sub [] rfl⟩, ?_⟩
        rw [hc, hd]; omega
      · refine wp_cond_false ((FF11.ev 0 rfl).trans (dec_f hs30)) ?_
        have hq := sub_pos hle (i := i) (by omega)
        refine wp_skip ?_
        refine then_n ?_
        refine wp_region_list ?_
        refine rg_part 4 FF11 MM11 [o_, t_ (.int .i64 ((M - N) / 256 ^ i % 256 : Nat)), t_ (.int .u8 ((M - N) / 256 ^ i % 256 : Nat)), o_] [7, 9, 8, 6, 5, 4, 0, 1, 33, 36] (fun Kt => Value.int .i64 ((((M / 256 ^ i % 256 : Nat) : Int) - ((N / 256 ^ i % 256 : Nat) : Int)) - ((c : Nat) : Int) : Int) = .int .i64 ((M - N) / 256 ^ i % 256 : Nat) ∧ Value.int .u8 (((M - N) / 256 ^ i % 256) % 256 : Nat) = .int .u8 ((M - N) / 256 ^ i % 256 : Nat) ∧ ∀ bq, Kt [(36, .slice (some ⟨bq, 0, none⟩) 1 1), (33, rv), (7, .int .i64 (0 : Nat)), (9, .int .i64 ((((M / 256 ^ i % 256 : Nat) : Int) - ((N / 256 ^ i % 256 : Nat) : Int)) - ((c : Nat) : Int) : Int)), (8, .int .i64 (i : Nat)), (6, rv), (5, .bool false), (4, .string (bs [])), (0, .string (bs (minB M))), (1, .string (bs (minB N)))] [(bq, .cells (cn .u8 ([(M - N) / 256 ^ i % 256])) 5)]) (by kernel_rfl) (fun _ => by kernel_rfl) (⟨(vZ (by omega)), (vI (Nat.mod_mod _ _)), fun bq => fun ac19 wd19 FF19 MM19 => ?_⟩)
        refine st_app [7, 9, 8, 6, 5, 4, 0, 1, 37] FF19 MM19 (d := 37) (s := 33) (x := 36) (Y := (bcells [(M - N) / 256 ^ i % 256])) (z := .int .u8 (0 : Nat)) (bb := 1) rfl rfl rfl rfl (lies_cn (MM19.get 0 rfl)) (bcells_one _) (by decide) Try.underlying42 (by kernel_rfl) rfl (by decide) (by simp only [maxLen]; omega) (by omega) rfl rfl (by decide) fun ac21 wd21 rv20 (FF21 : Fr 41 ac21 [(37, rv20), (7, .int .i64 (0 : Nat)), (9, .int .i64 ((((M / 256 ^ i % 256 : Nat) : Int) - ((N / 256 ^ i % 256 : Nat) : Int)) - ((c : Nat) : Int) : Int)), (8, .int .i64 (i : Nat)), (6, rv), (5, .bool false), (4, .string (bs [])), (0, .string (bs (minB M))), (1, .string (bs (minB N)))]) (MM21 : MemS (fun k => k < w0.heap.size) w0 wd21 [(bq, .cells (cn .u8 ([(M - N) / 256 ^ i % 256])) 5)] [(rv20, 5, 1, (i + 1), ((bcells (leB i (M - N))) ++ (bcells [(M - N) / 256 ^ i % 256])))]) => ?_
        rw [bcells_app, ← leB_succ] at MM21
        refine rg_part 1 FF21 MM21 [o_] [7, 9, 8, 6, 5, 4, 0, 1] (fun Kt => Kt [(6, rv20), (7, .int .i64 (0 : Nat)), (9, .int .i64 ((((M / 256 ^ i % 256 : Nat) : Int) - ((N / 256 ^ i % 256 : Nat) : Int)) - ((c : Nat) : Int) : Int)), (8, .int .i64 (i : Nat)), (5, .bool false), (4, .string (bs [])), (0, .string (bs (minB M))), (1, .string (bs (minB N)))] [(bq, .cells (cn .u8 ([(M - N) / 256 ^ i % 256])) 5)]) (by kernel_rfl) (fun _ => by kernel_rfl) (fun ac22 wd22 FF22 MM22 => ?_)
        refine wpl_nil ?_
        refine inb_n (then_n ?_)
        refine rg_seq FF22 MM22 [o_, o_, o_] [6, 7, 9, 8, 5, 4, 0, 1] (fun Kt => i + 1 < 9223372036854775808 ∧ Kt [(8, .int .i64 (i + 1 : Nat)), (6, rv20), (7, .int .i64 (0 : Nat)), (9, .int .i64 ((((M / 256 ^ i % 256 : Nat) : Int) - ((N / 256 ^ i % 256 : Nat) : Int)) - ((c : Nat) : Int) : Int)), (5, .bool false), (4, .string (bs [])), (0, .string (bs (minB M))), (1, .string (bs (minB N)))] [(bq, .cells (cn .u8 ([(M - N) / 256 ^ i % 256])) 5)]) (by kernel_rfl) (fun _ => by kernel_rfl) (⟨(by omega), fun ac23 wd23 FF23 MM23 => ?_⟩)
        have hd := cnt_of (FF23.get 0 rfl)
        refine then_n ⟨⟨rv20, i + 1, 0, by omega, hq.2.symm, FF23.pick [0, 2, 1, 4, 5, 6, 7], MM23.sub [] rfl⟩, ?_⟩
        rw [hc, hd]; omega
    · skip
      refine then_n (.inr ⟨(FF8.ev 0 rfl).trans (dec_f hlt), ?_⟩)
      have hend : M - N < 256 ^ i := Nat.lt_of_le_of_lt (Nat.sub_le _ _) (lt_sz (by omega))
      refine then_n ?_
      refine wp_seq (wp_region_list ?_)
      refine rg_part 1 FF8 MM8 [o_] [8, 7, 6, 5, 4, 0, 1, 38] (fun Kt => Kt [(38, rv), (8, .int .i64 (i : Nat)), (7, .int .i64 (c : Nat)), (6, rv), (5, .bool false), (4, .string (bs [])), (0, .string (bs (minB M))), (1, .string (bs (minB N)))] []) (by kernel_rfl) (fun _ => by kernel_rfl) (fun ac24 wd24 FF24 MM24 => ?_)
      refine st_strS [8, 7, 6, 5, 4, 0, 1, 39] FF24 MM24 (leB_lt i (M - N)) (d := 39) (s := 38) rfl rfl Try.underlying42 Try.underlying5 Try.underlying9 rfl rfl (by decide) fun ac25 (FF25 : Fr 41 ac25 [(39, .string (bs (leB i (M - N)))), (8, .int .i64 (i : Nat)), (7, .int .i64 (c : Nat)), (6, rv), (5, .bool false), (4, .string (bs [])), (0, .string (bs (minB M))), (1, .string (bs (minB N)))]) => ?_
      refine rg_part 3 FF25 MM24 [t_ (.string (bs (minB (M - N)))), o_, o_] [8, 7, 6, 5, 4, 0, 1] (fun Kt => CallP Try.prog 27 [.string (bs (leB i (M - N)))] [] (.string (bs (minB (M - N)))) ∧ Kt [(5, .bool true), (4, .string (bs (minB (M - N)))), (8, .int .i64 (i : Nat)), (7, .int .i64 (c : Nat)), (6, rv), (0, .string (bs (minB M))), (1, .string (bs (minB N)))] []) (by kernel_rfl) (fun _ => by kernel_rfl) (⟨(by have h0 := callP_of ent27 (trim_any (leB i (M - N)) (leB_lt i (M - N)) (by rw [leB_len]; omega)) []; rw [leV_leB, Nat.mod_eq_of_lt hend] at h0; exact h0), fun ac26 wd26 FF26 MM26 => ?_⟩)
      refine wpl_nil (then_n ?_)
      refine wp_ret ?_
      repeat first | refine then_ret ?_ | refine inb_ret ?_
      exact (ret_tup2 FF26 1 0 Try.results16 rfl rfl ⟨by rw [subN, if_pos hle, decide_eq_true hle], MM26.below⟩)

end Go.Proofs.Ytjfmeogknhkeoaa
