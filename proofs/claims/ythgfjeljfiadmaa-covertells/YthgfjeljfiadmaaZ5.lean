/- Several texts in one: The document: products. The document: powers. The document's tape: what is taken. The document's tape: numbers under another one. The numbers of a table. No program in this text. The laws of the table: numbers. Package table: least, most, how many. Package table: powers, weights. Package table: weights, the total, the number of a word. Package table: tables made; draws. Package table: draws. The document's table: what may be one, weights. The document's table: the total, the number of a word, draws. -/
import Derived.Test.YthgfjeljfiadmaaZ4
import Derived.Test.YthgfjeljfiadmaaZ3
import Derived.Lib.MinMax
namespace Go.Proofs.Ythgfjeljfiadmaa
open Go.RowKit
def d8 (N j : Nat) : Nat := N / 256 ^ j % 256
/-- What is carried behind k words of V + N * x. -/
def nc (V N x k : Nat) : Nat := (V % 256 ^ k + N % 256 ^ k * x) / 256 ^ k
theorem nc_zero (V N x : Nat) : nc V N x 0 = 0 := by simp [nc, Nat.mod_one]
theorem mod_next8 (X k : Nat) : X % 256 ^ (k + 1) = X % 256 ^ k + 256 ^ k * d8 X k := by rw [Nat.pow_succ, Nat.mod_mul]; rfl
theorem nc_num (V N x k : Nat) : (V % 256 ^ (k + 1) + N % 256 ^ (k + 1) * x) / 256 ^ k = nc V N x k + (d8 V k + d8 N k * x) := by
  rw [mod_next8 V k, mod_next8 N k]
  have : V % 256 ^ k + 256 ^ k * d8 V k + (N % 256 ^ k + 256 ^ k * d8 N k) * x = (V % 256 ^ k + N % 256 ^ k * x) + 256 ^ k * (d8 V k + d8 N k * x) := by
    rw [Nat.add_mul, Nat.mul_add, Nat.mul_assoc]; omega
  rw [this, Nat.add_mul_div_left _ _ (pw_pos k)]; rfl
theorem nc_step (V N x k : Nat) : (x * d8 N k + nc V N x k + d8 V k) / 256 = nc V N x (k + 1) := by
  have h := nc_num V N x k
  have e : nc V N x (k + 1) = (V % 256 ^ (k + 1) + N % 256 ^ (k + 1) * x) / 256 ^ k / 256 := by rw [nc, Nat.div_div_eq_div_mul, ← Nat.pow_succ]
  rw [e, h, Nat.mul_comm x]
  congr 1; omega
theorem nc_word (V N x k : Nat) : (x * d8 N k + nc V N x k + d8 V k) % 256 = d8 (V + N * x) k := by
  have e : V + N * x = (V % 256 ^ k + N % 256 ^ k * x) + 256 ^ k * (V / 256 ^ k + N / 256 ^ k * x) := by
    have h1 := Nat.div_add_mod V (256 ^ k)
    have h2 := Nat.div_add_mod N (256 ^ k)
    conv => lhs; rw [← h1, ← h2]
    rw [Nat.add_mul, Nat.mul_add, Nat.mul_assoc]; omega
  unfold d8
  rw [e, Nat.add_mul_div_left _ _ (pw_pos k)]
  have : N / 256 ^ k * x % 256 = (N / 256 ^ k % 256) * x % 256 := by rw [Nat.mod_mul_mod]
  have hm : (V % 256 ^ k + N % 256 ^ k * x) / 256 ^ k = nc V N x k := rfl
  rw [hm, Nat.mul_comm x]
  omega
theorem nc_lt {x : Nat} (hx : x < 256) (V N k : Nat) : nc V N x k < 256 := by
  refine Nat.div_lt_of_lt_mul ?_
  have h1 := Nat.mod_lt V (pw_pos k)
  have h2 := Nat.mod_lt N (pw_pos k)
  have h3 : N % 256 ^ k * x ≤ (256 ^ k - 1) * (256 - 1) := Nat.mul_le_mul (by omega) (by omega)
  have h4 : (256 ^ k - 1) * (256 - 1) + (256 ^ k - 1) = (256 ^ k - 1) * 256 := by rw [← Nat.mul_succ]
  have h5 : (256 ^ k - 1) * 256 + 256 = 256 ^ k * 256 := by rw [← Nat.succ_mul]; congr 1; omega
  omega
theorem nc_end {V N n : Nat} (x : Nat) (hV : V < 256 ^ n) (hN : N < 256 ^ n) : nc V N x n = (V + N * x) / 256 ^ n := by rw [nc, Nat.mod_eq_of_lt hV, Nat.mod_eq_of_lt hN]
theorem d8_lt (N j : Nat) : d8 N j < 256 := Nat.mod_lt _ (by decide)
theorem d8_out {N j k : Nat} (h : N < 256 ^ k) (hk : k ≤ j) : d8 N j = 0 := by rw [d8, Nat.div_eq_of_lt (Nat.lt_of_lt_of_le h (pw_le hk))]
/-- The digits of U up to k; then those of V. -/
def yL (n V U k : Nat) : List Nat := (List.range n).map fun p => if p < k then d8 U p else d8 V p
theorem yL_len (n V U k : Nat) : (yL n V U k).length = n := by simp [yL]
theorem yL_get (n V U k : Nat) {j : Nat} (h : j < n) : (yL n V U k).getD j 0 = if j < k then d8 U j else d8 V j := by simp [yL, h]
theorem yL_start {n V U k : Nat} (h : ∀ p, p < k → d8 U p = d8 V p) : yL n V U k = leB n V := by
  refine ext_getD (by rw [yL_len, leB_len]) fun j hj => ?_
  rw [yL_len] at hj
  rw [yL_get _ _ _ _ hj, leB_get hj]
  split
  · rw [h _ (by assumption)]; rfl
  · rfl
theorem yL_end {n V U k : Nat} (h : ∀ p, k ≤ p → d8 U p = d8 V p) : yL n V U k = leB n U := by
  refine ext_getD (by rw [yL_len, leB_len]) fun j hj => ?_
  rw [yL_len] at hj
  rw [yL_get _ _ _ _ hj, leB_get hj]
  split
  · rfl
  · rw [← h _ (by omega)]; rfl
theorem yL_step (n V U k : Nat) (h : k < n) : (yL n V U k).set k (d8 U k) = yL n V U (k + 1) := by
  refine ext_getD (by simp [yL]) fun j hj => ?_
  simp only [List.length_set, yL_len] at hj
  rw [getD_set, yL_get _ _ _ _ hj, yL_get _ _ _ _ hj, yL_len]
  by_cases e : k = j
  · subst e; rw [if_pos ⟨rfl, h⟩, if_pos (by omega)]
  · rw [if_neg (fun h => e h.1)]
    by_cases h1 : j < k
    · rw [if_pos h1, if_pos (by omega)]
    · rw [if_neg h1, if_neg (by omega)]
/-- The product with the first i digits. -/
def pI (M N i : Nat) : Nat := M % 256 ^ i * N
theorem pI_zero (M N : Nat) : pI M N 0 = 0 := by simp [pI, Nat.mod_one]
theorem pI_all {M N i : Nat} (h : sz M ≤ i) : pI M N i = M * N := by rw [pI, Nat.mod_eq_of_lt (lt_sz h)]
theorem pI_next (M N i : Nat) : pI M N (i + 1) = pI M N i + 256 ^ i * (N * d8 M i) := by
  rw [pI, pI, mod_next8, Nat.add_mul, Nat.mul_assoc, Nat.mul_comm (d8 M i)]
theorem pI_div (M N i : Nat) : pI M N (i + 1) / 256 ^ i = pI M N i / 256 ^ i + N * d8 M i := by rw [pI_next, Nat.add_mul_div_left _ _ (pw_pos i)]
theorem pI_top (M N i : Nat) : pI M N i / 256 ^ i < 256 ^ sz N := by
  refine Nat.div_lt_of_lt_mul ?_
  rcases Nat.eq_zero_or_pos N with h | h
  · subst h; rw [pI, Nat.mul_zero]; exact Nat.mul_pos (pw_pos _) (pw_pos _)
  · exact Nat.mul_lt_mul'' (Nat.mod_lt _ (pw_pos i)) (sz_ok N).1
theorem d8_shift (V i j : Nat) : d8 V (i + j) = d8 (V / 256 ^ i) j := by rw [d8, d8, Nat.div_div_eq_div_mul, ← Nat.pow_add]
theorem pI_low (M N i p : Nat) (h : p < i) : d8 (pI M N (i + 1)) p = d8 (pI M N i) p := by
  rw [pI_next]
  obtain ⟨k, rfl⟩ : ∃ k, i = p + 1 + k := ⟨i - p - 1, by omega⟩
  have e : 256 ^ (p + 1 + k) * (N * d8 M (p + 1 + k)) = 256 ^ p * (256 * (256 ^ k * (N * d8 M (p + 1 + k)))) := by
    rw [Nat.pow_add, Nat.pow_succ]; simp only [Nat.mul_assoc]
  rw [e]
  show (_ + 256 ^ p * _) / 256 ^ p % 256 = _ / 256 ^ p % 256
  rw [Nat.add_mul_div_left _ _ (pw_pos p), Nat.add_mul_mod_self_left]
theorem yL_begin (n M N i : Nat) : yL n (pI M N i) (pI M N (i + 1)) (i + 0) = leB n (pI M N i) := yL_start fun p hp => pI_low M N i p (by omega)
theorem pI_lt8 (M N i : Nat) : pI M N (i + 1) / 256 ^ i < 256 ^ (sz N + 1) := by
  have h1 := pI_top M N i
  rw [pI_div, Nat.pow_succ]
  have h2 : N * d8 M i ≤ (256 ^ sz N - 1) * 255 := Nat.mul_le_mul (by have := (sz_ok N).1; omega) (by have := d8_lt M i; omega)
  have h3 : (256 ^ sz N - 1) * 255 + (256 ^ sz N - 1) = (256 ^ sz N - 1) * 256 := by omega
  omega
theorem nc_more {M N i j : Nat} (h : nc (pI M N i / 256 ^ i) N (d8 M i) j > 0) : j ≤ sz N := by
  refine Nat.le_of_not_lt fun hj => ?_
  have hN : N < 256 ^ j := lt_sz (by omega)
  have hV : pI M N i / 256 ^ i < 256 ^ j := Nat.lt_of_lt_of_le (pI_top M N i) (pw_le (by omega))
  rw [nc_end _ hV hN, ← pI_div, Nat.div_eq_of_lt (Nat.lt_of_lt_of_le (pI_lt8 M N i) (pw_le (by omega)))] at h
  omega
theorem pI_fin {M N i j : Nat} (hj : sz N ≤ j) (h : nc (pI M N i / 256 ^ i) N (d8 M i) j = 0) (n : Nat) : yL n (pI M N i) (pI M N (i + 1)) (i + j) = leB n (pI M N (i + 1)) := by
  have hN : N < 256 ^ j := lt_sz hj
  have hV : pI M N i / 256 ^ i < 256 ^ j := Nat.lt_of_lt_of_le (pI_top M N i) (pw_le hj)
  rw [nc_end _ hV hN, ← pI_div] at h
  have hU : pI M N (i + 1) / 256 ^ i < 256 ^ j := by
    rcases Nat.lt_or_ge (pI M N (i + 1) / 256 ^ i) (256 ^ j) with h2 | h2
    · exact h2
    · have := Nat.div_pos h2 (pw_pos j); omega
  refine yL_end fun p hp => ?_
  obtain ⟨k, rfl⟩ : ∃ k, p = i + k := ⟨p - i, by omega⟩
  rw [d8_shift, d8_shift, d8_out hU (by omega), d8_out hV (by omega)]
theorem nc_dig (M N i j : Nat) : (nc (pI M N i / 256 ^ i) N (d8 M i) j + (d8 (pI M N i) (i + j) + d8 M i * d8 N j)) % 256 = d8 (pI M N (i + 1)) (i + j) := by
  rw [d8_shift (pI M N (i + 1)), pI_div, ← nc_word, d8_shift]
  congr 1; omega
theorem nc_nxt (M N i j : Nat) : (nc (pI M N i / 256 ^ i) N (d8 M i) j + (d8 (pI M N i) (i + j) + d8 M i * d8 N j)) / 256 = nc (pI M N i / 256 ^ i) N (d8 M i) (j + 1) := by
  rw [← nc_step, d8_shift]
  congr 1; omega
theorem mul_sz8 (M N : Nat) : M * N < 256 ^ (sz M + sz N + 1) := by
  refine Nat.lt_of_lt_of_le ?_ (pw_le (show sz M + sz N ≤ sz M + sz N + 1 by omega))
  rw [Nat.pow_add]
  rcases Nat.eq_zero_or_pos N with h | h
  · subst h; rw [Nat.mul_zero]; exact Nat.mul_pos (pw_pos _) (pw_pos _)
  · exact Nat.mul_lt_mul'' (sz_ok M).1 (sz_ok N).1
theorem zero_leB (n : Nat) : List.replicate n 0 = leB n 0 := by
  refine ext_getD (by rw [leB_len, List.length_replicate]) fun j hj => ?_
  rw [List.length_replicate] at hj
  rw [leB_get hj]; simp [hj]
theorem mul_le8 {a b : Nat} (ha : a < 256) (hb : b < 256) : a * b ≤ 65025 := Nat.mul_le_mul (Nat.le_of_lt_succ ha) (Nat.le_of_lt_succ hb)
set_option maxRecDepth 100000 in
theorem mul8_any (M N : Nat) (hz : sz M + sz N < 1000000) (w0 : World) :
    Calls Try.prog 67 #[sB (minB M), sB (minB N)] w0 fun e w' => e = .returned (sB (minB (M * N))) ∧ Below w0.heap.size w0 w' := by
  refine enter_fr Try.func67 rfl Try.ntmps67 (by simp) fun ac (FF : Fr 62 ac [(0, sB (minB M)), (1, sB (minB N))]) => ?_
  have MM := MemS.start w0
  refine wp_seq (rg_c FF MM [(0, t_ (sB []))] 5 [] [] (⟨(by kernel_rfl), fun _ _ FF1 MM1 => then_n ?_⟩))
  refine wp_seq (rg_c FF1 MM1 [(1, t_ (iN (sz M))), (1, t_ (iN (sz N))), (2, n_ (.slice none (((sz M) + (sz N)) + 1) (((sz M) + (sz N)) + 1)) (.cells (cn .u8 (List.replicate (((sz M) + (sz N)) + 1) 0)) 5))] 6 [] [] (⟨(vI ((bs_size _).trans (minB_len M))), (vI ((bs_size _).trans (minB_len N))), by omega, by omega, (make_ok (t := 63) (e := 5) (p := (.tmp 14)) (q := (.tmp 14)) (by kernel_rfl) rfl rfl Try.underlying63 (by kernel_rfl) (by omega)), fun bo => fun _ _ FF2 MM2 => then_n ?_⟩))
  have MMr4 : MemS _ _ _ [(bo, .cells (cn .u8 (leB (sz M + sz N + 1) (pI M N 0))) 5)] _ := MM2.eqA 0 rfl (by rw [pI_zero, ← zero_leB] <;> rfl)
  refine wp_seq ?_
  refine wp_seq (rg_c FF2 MMr4 [] 7 [] [] (fun _ _ FF3 MM3 => then_n ?_))
  refine wp_for2 (fun a' w' => ∃ i : Nat, i ≤ sz M ∧ Fr 62 a' [(6, iN i), (5, .slice (some ⟨bo, 0, none⟩) (((sz M) + (sz N)) + 1) (((sz M) + (sz N)) + 1)), (4, sB []), (0, sB (minB M)), (1, sB (minB N))] ∧ MemS (fun k => k < w0.heap.size) w0 w' [(bo, .cells (cn .u8 (leB (sz M + sz N + 1) (pI M N i))) 5)] []) (fun a' _ => (sz M - cnt 6 a').toNat) ⟨0, Nat.zero_le _, FF3.pick [0, 1, 2, 3, 4], MM3⟩ ?_
  rintro ac4 wd4 ⟨i, hi, FF4, MM4⟩
  have hc := cnt_of (FF4.get 0 rfl)
  refine rg_c FF4 MM4 [(2, t_ (iN (sz M)))] 7 [19] [] (⟨(vI ((bs_size _).trans (minB_len M))), fun _ _ FF5 MM5 => ?_⟩)
  by_cases hlt : i < (sz M)
  · skip
    refine then_n (.inl ⟨(FF5.ev 0 rfl).trans (dec_t hlt), ?_⟩)
    refine wp_seq (rg_c FF5 MM5 [(0, t_ (iN (nc (pI M N i / 256 ^ i) N (d8 M i) 0)))] 8 [] [] (⟨(vI (nc_zero _ _ _).symm), fun _ _ FF6 MM6 => then_n ?_⟩))
    have MMr15 : MemS _ _ _ [(bo, .cells (cn .u8 (yL (sz M + sz N + 1) (pI M N i) (pI M N (i + 1)) (i + 0))) 5)] _ := MM6.eqA 0 rfl (by rw [yL_begin] <;> rfl)
    refine wp_seq (rg_c FF6 MMr15 [] 9 [] [] (fun _ _ FF7 MM7 => then_n ?_))
    refine wp_for2 (fun a' w' => ∃ j : Nat, j ≤ sz N + 1 ∧ Fr 62 a' [(8, iN j), (7, iN (nc (pI M N i / 256 ^ i) N (d8 M i) j)), (6, iN i), (5, .slice (some ⟨bo, 0, none⟩) (((sz M) + (sz N)) + 1) (((sz M) + (sz N)) + 1)), (4, sB []), (0, sB (minB M)), (1, sB (minB N))] ∧ MemS (fun k => k < w0.heap.size) w0 w' [(bo, .cells (cn .u8 (yL (sz M + sz N + 1) (pI M N i) (pI M N (i + 1)) (i + j))) 5)] []) (fun a' _ => (sz N + 1 - cnt 8 a').toNat) ⟨0, Nat.zero_le _, FF7.pick [0, 1, 2, 3, 4, 5, 6], MM7⟩ ?_
    rintro ac8 wd8 ⟨j, hj, FF8, MM8⟩
    have hc2 := cnt_of (FF8.get 0 rfl)
    by_cases h1 : j < sz N
    · skip
      refine rg_c FF8 MM8 [(2, t_ (iN (sz N))), (0, w_ 2)] 9 [29] [] (⟨(vI ((bs_size _).trans (minB_len N))), h1, fun _ _ FF9 MM9 => ?_⟩)
      refine then_n (.inl ⟨FF9.ev 0 rfl, ?_⟩)
      have hjj : i + j < sz M + sz N + 1 := by first | omega | (have := nc_more h3; omega)
      have hcl := nc_lt (d8_lt M i) (pI M N i / 256 ^ i) N j
      have hdl := d8_lt (pI M N i) (i + j)
      have hml := mul_le8 (d8_lt M i) (d8_lt N j)
      have hmi := d8_lt M i
      have hnj := d8_lt N j
      refine wp_seq (rg_dc 18 FF9 MM9 [(5, w_ 1), (0, l_ 0 (iB (d8 (pI M N i) (i + j)))), (0, w_ 1), (2, t_ (iB (d8 M i))), (0, w_ 1), (2, t_ (iN (d8 N j)))] [] 9 [] [] (⟨by omega, by omega, rfl, ((cn_get _ _ _ (by rw [yL_len]; exact hjj)).trans (by rw [yL_get _ _ _ _ hjj, if_neg (by omega)])), by omega, (by simp only [bs_size, minB_len]; omega), ((byte_bs (minB_lt M) _).trans (minB_get M _)), by omega, (digm_ok _ _ _), by omega, by omega, by omega, fun _ _ FF10 MM10 => then_n ?_⟩))
      refine wp_seq (rg_c FF10 MM10 [(5, t_ (iB (d8 (pI M N (i + 1)) (i + j)))), (0, w_ 1), (0, s_ 0 (.cells (cn .u8 (yL (sz M + sz N + 1) (pI M N i) (pI M N (i + 1)) (i + (j + 1)))) 5))] 9 [] [] (⟨by omega, (vI (nc_dig M N i j)), by omega, rfl, (by rw [cn_size, yL_len]; exact hjj), (.inl rfl), ((cn_set _ _ _ _).trans (congrArg _ (yL_step _ _ _ _ hjj))), fun _ _ FF11 MM11 => then_n ?_⟩))
      refine rg_c FF11 MM11 [(1, t_ (iN (nc (pI M N i / 256 ^ i) N (d8 M i) (j + 1))))] 9 [] [] (⟨by decide, (vI (nc_nxt M N i j)), fun _ _ FF12 MM12 => ?_⟩)
      refine inb_n (then_n ?_)
      refine rg_c FF12 MM12 [] 9 [] [] (⟨by omega, fun _ _ FF13 MM13 => ?_⟩)
      have hd2 := cnt_of (FF13.get 0 rfl)
      refine then_n ⟨⟨j + 1, (by first | omega | (have := nc_more h3; omega)), FF13.pick [0, 1, 2, 3, 4, 5, 6], MM13⟩, ?_⟩
      rw [hc2, hd2]; first | omega | (have := nc_more h3; omega)
    · by_cases h3 : nc (pI M N i / 256 ^ i) N (d8 M i) j > 0
      · skip
        refine rg_c FF8 MM8 [(2, t_ (iN (sz N))), (0, w_ 3), (2, w_ 2)] 9 [29] [] (⟨(vI ((bs_size _).trans (minB_len N))), h1, h3, fun _ _ FF14 MM14 => ?_⟩)
        refine then_n (.inl ⟨FF14.ev 0 rfl, ?_⟩)
        have hjj : i + j < sz M + sz N + 1 := by first | omega | (have := nc_more h3; omega)
        have hcl := nc_lt (d8_lt M i) (pI M N i / 256 ^ i) N j
        have hdl := d8_lt (pI M N i) (i + j)
        have hml := mul_le8 (d8_lt M i) (d8_lt N j)
        have hmi := d8_lt M i
        have hnj := d8_lt N j
        refine wp_seq (rg_dc 18 FF14 MM14 [(5, w_ 1), (0, l_ 0 (iB (d8 (pI M N i) (i + j)))), (0, w_ 1), (2, t_ (iB (d8 M i))), (0, w_ 1), (2, t_ (iN (d8 N j)))] [] 9 [] [] (⟨by omega, by omega, rfl, ((cn_get _ _ _ (by rw [yL_len]; exact hjj)).trans (by rw [yL_get _ _ _ _ hjj, if_neg (by omega)])), by omega, (by simp only [bs_size, minB_len]; omega), ((byte_bs (minB_lt M) _).trans (minB_get M _)), by omega, (digm_ok _ _ _), by omega, by omega, by omega, fun _ _ FF15 MM15 => then_n ?_⟩))
        refine wp_seq (rg_c FF15 MM15 [(5, t_ (iB (d8 (pI M N (i + 1)) (i + j)))), (0, w_ 1), (0, s_ 0 (.cells (cn .u8 (yL (sz M + sz N + 1) (pI M N i) (pI M N (i + 1)) (i + (j + 1)))) 5))] 9 [] [] (⟨by omega, (vI (nc_dig M N i j)), by omega, rfl, (by rw [cn_size, yL_len]; exact hjj), (.inl rfl), ((cn_set _ _ _ _).trans (congrArg _ (yL_step _ _ _ _ hjj))), fun _ _ FF16 MM16 => then_n ?_⟩))
        refine rg_c FF16 MM16 [(1, t_ (iN (nc (pI M N i / 256 ^ i) N (d8 M i) (j + 1))))] 9 [] [] (⟨by decide, (vI (nc_nxt M N i j)), fun _ _ FF17 MM17 => ?_⟩)
        refine inb_n (then_n ?_)
        refine rg_c FF17 MM17 [] 9 [] [] (⟨by omega, fun _ _ FF18 MM18 => ?_⟩)
        have hd2 := cnt_of (FF18.get 0 rfl)
        refine then_n ⟨⟨j + 1, (by first | omega | (have := nc_more h3; omega)), FF18.pick [0, 1, 2, 3, 4, 5, 6], MM18⟩, ?_⟩
        rw [hc2, hd2]; first | omega | (have := nc_more h3; omega)
      · skip
        refine rg_c FF8 MM8 [(2, t_ (iN (sz N))), (0, w_ 3), (2, w_ 3)] 9 [29] [] (⟨(vI ((bs_size _).trans (minB_len N))), h1, h3, fun _ _ FF19 MM19 => ?_⟩)
        refine then_n (.inr ⟨FF19.ev 0 rfl, ?_⟩)
        have MMl : MemS _ _ _ [(bo, .cells (cn .u8 (leB (sz M + sz N + 1) (pI M N (i + 1)))) 5)] _ := MM19.eqA 0 rfl (by rw [← pI_fin (M := M) (N := N) (i := i) (j := j) (by omega) (by omega)] <;> rfl)
        refine inb_n (then_n ?_)
        refine rg_c FF19 MMl [] 9 [] [] (⟨by omega, fun _ _ FF20 MM20 => ?_⟩)
        have hd := cnt_of (FF20.get 0 rfl)
        refine then_n ⟨⟨i + 1, by omega, FF20.pick [0, 3, 4, 5, 6], MM20⟩, ?_⟩
        rw [hc, hd]; omega
  · skip
    refine then_n (.inr ⟨(FF5.ev 0 rfl).trans (dec_f hlt), ?_⟩)
    obtain rfl : i = sz M := by omega
    rw [pI_all (M := M) (N := N) (Nat.le_refl (sz M))] at MM5
    refine then_n ?_
    refine wp_seq (rg_c FF5 MM5 [(1, l_ 0 (sB (leB (sz M + sz N + 1) (M * N)))), (0, t_ (sB (minB (M * N))))] 7 [] [] (⟨rfl, (str_all (leB_len _ _) (leB_lt _ _)), (by have h0 := callP_of en_rtrim (trim_any (leB (sz M + sz N + 1) (M * N)) (leB_lt _ _) (by rw [leB_len]; omega)) []; rw [leV_leB, Nat.mod_eq_of_lt (mul_sz8 M N)] at h0; exact h0), fun _ _ FF21 MM21 => then_n ?_⟩))
    refine wp_ret ?_
    repeat first | refine then_ret ?_ | refine inb_ret ?_
    exact (ret_fr FF21 0 Try.results67 rfl ⟨rfl, MM21.below⟩)
end Go.Proofs.Ythgfjeljfiadmaa
namespace Go.Proofs.Ythgfjeljfiadmaa
open Go.RowKit
theorem sz_mul8 (M N : Nat) : sz (M * N) ≤ sz M + sz N := by
  refine sz_le ?_
  rw [Nat.pow_add]
  rcases Nat.eq_zero_or_pos N with h | h
  · subst h; rw [Nat.mul_zero]; exact Nat.mul_pos (pw_pos _) (pw_pos _)
  · exact Nat.mul_lt_mul'' (sz_ok M).1 (sz_ok N).1
theorem sz_pow8 {M : Nat} (hM : sz M ≤ 20) : ∀ i, sz (M ^ i) ≤ 1 + 20 * i
  | 0 => by rw [Nat.pow_zero]; decide
  | i + 1 => by
    rw [Nat.pow_succ]
    have h1 := sz_mul8 (M ^ i) M
    have h2 := sz_pow8 hM i
    omega
theorem cmp1_pos {M : Nat} : cmpN M 1 > ((0 : Nat) : Int) ↔ 1 < M := by
  unfold cmpN
  split
  · constructor <;> intro h <;> omega
  · split
    · constructor <;> intro h <;> omega
    · constructor <;> intro h <;> omega
theorem pow_small {M n : Nat} (h : ¬ 1 < M) (h2 : ¬ (n > 0 ∧ sz M = 0)) : 1 = M ^ n := by
  rcases Nat.eq_zero_or_pos M with e | e
  · have : n = 0 := by
      rcases Nat.eq_zero_or_pos n with q | q
      · exact q
      · exact absurd ⟨q, by rw [e]; rfl⟩ h2
    rw [this, Nat.pow_zero]
  · rw [show M = 1 by omega, Nat.one_pow]
theorem pow_none {M n : Nat} (h : n > 0) (h2 : sz M = 0) : 0 = M ^ n := by rw [sz0 h2, Nat.zero_pow h]
set_option maxRecDepth 100000 in
theorem pow8_big (M n : Nat) (hM : sz M ≤ 20) (hM1 : 1 < M) (hn : n ≤ 300) (w0 : World) :
    Calls Try.prog 68 #[sB (minB M), iN n] w0 fun e w' => e = .returned (sB (minB (M ^ n))) ∧ Below w0.heap.size w0 w' := by
  refine enter_fr Try.func68 rfl Try.ntmps68 (by simp) fun ac (FF : Fr 30 ac [(0, sB (minB M)), (1, iN n)]) => ?_
  have MM := MemS.start w0
  refine wp_seq (rg_c FF MM [(0, t_ (sB []))] 5 [] [] (⟨(by kernel_rfl), fun _ _ FF1 MM1 => then_n ?_⟩))
  refine wp_seq (rg_c FF1 MM1 [(0, t_ (sB (minB 1)))] 6 [] [] (⟨(callP_of en_rof (of_any 1 (by decide)) _), fun ac2 _ FF2 MM2 => then_n ?_⟩))
  have FFz : Fr 30 ac2 [(5, sB (minB (M ^ 0))), (4, sB []), (0, sB (minB M)), (1, iN n)] := by rw [Nat.pow_zero]; exact FF2
  refine wp_seq ?_
  refine wp_seq (rg_c FFz MM2 [] 7 [] [] (fun _ _ FF3 MM3 => then_n ?_))
  refine wp_for2 (fun a' w' => ∃ i : Nat, i ≤ n ∧ Fr 30 a' [(6, iN i), (5, sB (minB (M ^ i))), (4, sB []), (0, sB (minB M)), (1, iN n)] ∧ MemS (fun k => k < w0.heap.size) w0 w' [] []) (fun a' _ => (n - cnt 6 a').toNat) ⟨0, Nat.zero_le _, FF3.pick [0, 1, 2, 3, 4], MM3⟩ ?_
  rintro ac4 wd4 ⟨i, hi, FF4, MM4⟩
  have hc := cnt_of (FF4.get 0 rfl)
  by_cases h1 : i < n
  · skip
    refine rg_c FF4 MM4 [(2, w_ 2), (2, t_ (sB (minB 1))), (0, t_ (.int .i64 (cmpN M 1 : Int))), (0, u_ 4 (.bool true))] 7 [16] [] (⟨h1, (callP_of en_rof (of_any 1 (by decide)) _), (callP_of en_rcmp (cmp_any M 1 (by have : sz 1 = 1 := rfl; omega)) _), (dec_t (cmp1_pos.2 hM1)), fun _ _ FF5 MM5 => ?_⟩)
    refine then_n (.inl ⟨FF5.ev 0 rfl, ?_⟩)
    refine rg_c FF5 MM5 [(2, t_ (sB (minB ((M ^ i) * M))))] 7 [] [] (⟨(callP_of en_rmul (mul8_any (M ^ i) M (by have := sz_pow8 hM i; omega)) _), fun _ _ FF6 MM6 => ?_⟩)
    refine inb_n (then_n ?_)
    refine rg_c FF6 MM6 [] 7 [] [] (⟨by omega, fun _ _ FF7 MM7 => ?_⟩)
    have hd := cnt_of (FF7.get 0 rfl)
    rw [← Nat.pow_succ] at FF7
    refine then_n ⟨⟨i + 1, by omega, FF7.pick [0, 1, 2, 3, 4], MM7⟩, ?_⟩
    rw [hc, hd]; omega
  · skip
    refine rg_c FF4 MM4 [(2, w_ 3)] 7 [16] [] (⟨h1, fun _ _ FF8 MM8 => ?_⟩)
    refine then_n (.inr ⟨FF8.ev 0 rfl, ?_⟩)
    obtain rfl : n = i := by omega
    refine then_n ?_
    refine wp_seq ?_
    by_cases h6 : n > 0
    · skip
      refine wp_seq (rg_c FF8 MM8 [(1, w_ 2), (2, t_ (iN (sz M))), (0, w_ 3)] 7 [28] [] (⟨h6, (vI ((bs_size _).trans (minB_len M))), (fun e => by rw [sz0 e] at hM1; omega), fun _ _ FF9 MM9 => then_n ?_⟩))
      refine wp_cond_false (FF9.ev 0 rfl) ?_
      refine wp_skip ?_
      refine then_n ?_
      refine wp_seq (rg_c FF9 MM9 [] 7 [] [] (fun _ _ FF10 MM10 => then_n ?_))
      refine wp_ret ?_
      repeat first | refine then_ret ?_ | refine inb_ret ?_
      exact (ret_fr FF10 0 Try.results68 rfl ⟨rfl, MM10.below⟩)
    · skip
      refine wp_seq (rg_c FF8 MM8 [(1, w_ 3)] 7 [28] [] (⟨h6, fun _ _ FF11 MM11 => then_n ?_⟩))
      refine wp_cond_false (FF11.ev 0 rfl) ?_
      refine wp_skip ?_
      refine then_n ?_
      refine wp_seq (rg_c FF11 MM11 [] 7 [] [] (fun _ _ FF12 MM12 => then_n ?_))
      refine wp_ret ?_
      repeat first | refine then_ret ?_ | refine inb_ret ?_
      exact (ret_fr FF12 0 Try.results68 rfl ⟨rfl, MM12.below⟩)
set_option maxRecDepth 100000 in
theorem pow8_small (M n : Nat) (hM : sz M ≤ 20) (hM1 : ¬ 1 < M) (_hn : n < 9223372036854775808) (w0 : World) :
    Calls Try.prog 68 #[sB (minB M), iN n] w0 fun e w' => e = .returned (sB (minB (M ^ n))) ∧ Below w0.heap.size w0 w' := by
  refine enter_fr Try.func68 rfl Try.ntmps68 (by simp) fun ac (FF : Fr 30 ac [(0, sB (minB M)), (1, iN n)]) => ?_
  have MM := MemS.start w0
  refine wp_seq (rg_c FF MM [(0, t_ (sB []))] 5 [] [] (⟨(by kernel_rfl), fun _ _ FF1 MM1 => then_n ?_⟩))
  refine wp_seq (rg_c FF1 MM1 [(0, t_ (sB (minB 1)))] 6 [] [] (⟨(callP_of en_rof (of_any 1 (by decide)) _), fun _ _ FF2 MM2 => then_n ?_⟩))
  refine wp_seq ?_
  refine wp_seq (rg_c FF2 MM2 [] 7 [] [] (fun _ _ FF3 MM3 => then_n ?_))
  refine wp_for2 (fun a' w' => ∃ i : Nat, i = 0 ∧ Fr 30 a' [(6, iN i), (5, sB (minB 1)), (4, sB []), (0, sB (minB M)), (1, iN n)] ∧ MemS (fun k => k < w0.heap.size) w0 w' [] []) (fun _ _ => 0) ⟨0, rfl, FF3.pick [0, 1, 2, 3, 4], MM3⟩ ?_
  rintro ac4 wd4 ⟨i, hi, FF4, MM4⟩
  by_cases h1 : i < n
  · skip
    refine rg_c FF4 MM4 [(2, w_ 2), (2, t_ (sB (minB 1))), (0, t_ (.int .i64 (cmpN M 1 : Int))), (0, u_ 4 (.bool false))] 7 [16] [] (⟨h1, (callP_of en_rof (of_any 1 (by decide)) _), (callP_of en_rcmp (cmp_any M 1 (by have : sz 1 = 1 := rfl; omega)) _), (dec_f (fun h => hM1 (cmp1_pos.1 h))), fun _ _ FF5 MM5 => ?_⟩)
    refine then_n (.inr ⟨FF5.ev 0 rfl, ?_⟩)
    refine then_n ?_
    refine wp_seq ?_
    by_cases h6 : n > 0
    · by_cases h7 : sz M = 0
      · skip
        refine wp_seq (rg_c FF5 MM5 [(1, w_ 2), (2, t_ (iN (sz M))), (0, w_ 2)] 7 [28] [] (⟨h6, (vI ((bs_size _).trans (minB_len M))), h7, fun _ _ FF6 MM6 => then_n ?_⟩))
        refine wp_cond_true (FF6.ev 0 rfl) ?_
        refine wp_seq (rg_c FF6 MM6 [(0, t_ (sB []))] 7 [] [] (⟨(by kernel_rfl), fun _ _ FF7 MM7 => then_n ?_⟩))
        refine wp_ret ?_
        repeat first | refine then_ret ?_ | refine inb_ret ?_
        exact (ret_fr FF7 0 Try.results68 rfl ⟨congrArg (fun z => Ending.returned (sB (minB z))) (pow_none h6 h7), MM7.below⟩)
      · skip
        refine wp_seq (rg_c FF5 MM5 [(1, w_ 2), (2, t_ (iN (sz M))), (0, w_ 3)] 7 [28] [] (⟨h6, (vI ((bs_size _).trans (minB_len M))), h7, fun _ _ FF8 MM8 => then_n ?_⟩))
        refine wp_cond_false (FF8.ev 0 rfl) ?_
        refine wp_skip ?_
        refine then_n ?_
        refine wp_seq (rg_c FF8 MM8 [] 7 [] [] (fun _ _ FF9 MM9 => then_n ?_))
        refine wp_ret ?_
        repeat first | refine then_ret ?_ | refine inb_ret ?_
        exact (ret_fr FF9 0 Try.results68 rfl ⟨congrArg (fun z => Ending.returned (sB (minB z))) (pow_small hM1 (fun h => by first | exact h7 h.2 | exact h6 h.1)), MM9.below⟩)
    · skip
      refine wp_seq (rg_c FF5 MM5 [(1, w_ 3)] 7 [28] [] (⟨h6, fun _ _ FF10 MM10 => then_n ?_⟩))
      refine wp_cond_false (FF10.ev 0 rfl) ?_
      refine wp_skip ?_
      refine then_n ?_
      refine wp_seq (rg_c FF10 MM10 [] 7 [] [] (fun _ _ FF11 MM11 => then_n ?_))
      refine wp_ret ?_
      repeat first | refine then_ret ?_ | refine inb_ret ?_
      exact (ret_fr FF11 0 Try.results68 rfl ⟨congrArg (fun z => Ending.returned (sB (minB z))) (pow_small hM1 (fun h => by first | exact h7 h.2 | exact h6 h.1)), MM11.below⟩)
  · skip
    refine rg_c FF4 MM4 [(2, w_ 3)] 7 [16] [] (⟨h1, fun _ _ FF12 MM12 => ?_⟩)
    refine then_n (.inr ⟨FF12.ev 0 rfl, ?_⟩)
    refine then_n ?_
    refine wp_seq ?_
    by_cases h6 : n > 0
    · by_cases h7 : sz M = 0
      · skip
        refine wp_seq (rg_c FF12 MM12 [(1, w_ 2), (2, t_ (iN (sz M))), (0, w_ 2)] 7 [28] [] (⟨h6, (vI ((bs_size _).trans (minB_len M))), h7, fun _ _ FF13 MM13 => then_n ?_⟩))
        refine wp_cond_true (FF13.ev 0 rfl) ?_
        refine wp_seq (rg_c FF13 MM13 [(0, t_ (sB []))] 7 [] [] (⟨(by kernel_rfl), fun _ _ FF14 MM14 => then_n ?_⟩))
        refine wp_ret ?_
        repeat first | refine then_ret ?_ | refine inb_ret ?_
        exact (ret_fr FF14 0 Try.results68 rfl ⟨congrArg (fun z => Ending.returned (sB (minB z))) (pow_none h6 h7), MM14.below⟩)
      · skip
        refine wp_seq (rg_c FF12 MM12 [(1, w_ 2), (2, t_ (iN (sz M))), (0, w_ 3)] 7 [28] [] (⟨h6, (vI ((bs_size _).trans (minB_len M))), h7, fun _ _ FF15 MM15 => then_n ?_⟩))
        refine wp_cond_false (FF15.ev 0 rfl) ?_
        refine wp_skip ?_
        refine then_n ?_
        refine wp_seq (rg_c FF15 MM15 [] 7 [] [] (fun _ _ FF16 MM16 => then_n ?_))
        refine wp_ret ?_
        repeat first | refine then_ret ?_ | refine inb_ret ?_
        exact (ret_fr FF16 0 Try.results68 rfl ⟨congrArg (fun z => Ending.returned (sB (minB z))) (pow_small hM1 (fun h => by first | exact h7 h.2 | exact h6 h.1)), MM16.below⟩)
    · skip
      refine wp_seq (rg_c FF12 MM12 [(1, w_ 3)] 7 [28] [] (⟨h6, fun _ _ FF17 MM17 => then_n ?_⟩))
      refine wp_cond_false (FF17.ev 0 rfl) ?_
      refine wp_skip ?_
      refine then_n ?_
      refine wp_seq (rg_c FF17 MM17 [] 7 [] [] (fun _ _ FF18 MM18 => then_n ?_))
      refine wp_ret ?_
      repeat first | refine then_ret ?_ | refine inb_ret ?_
      exact (ret_fr FF18 0 Try.results68 rfl ⟨congrArg (fun z => Ending.returned (sB (minB z))) (pow_small hM1 (fun h => by first | exact h7 h.2 | exact h6 h.1)), MM18.below⟩)
theorem pow8_any (M n : Nat) (hM : sz M ≤ 20) (hn : n < 9223372036854775808) (h : ¬ 1 < M ∨ n ≤ 300) (w : World) : Calls Try.prog 68 #[sB (minB M), iN n] w fun e w' => e = .returned (sB (minB (M ^ n))) ∧ Below w.heap.size w w' := by
  by_cases h1 : 1 < M
  · exact pow8_big M n hM h1 (h.resolve_left (fun q => q h1)) w
  · exact pow8_small M n hM h1 hn w
end Go.Proofs.Ythgfjeljfiadmaa
namespace Go.Proofs.Ythgfjeljfiadmaa
open Go.RowKit
theorem en_rtake : Enters Try.prog 26 := fun args w => by simp [go_sem]
theorem en_rid_ : Enters Try.prog 25 := fun args w => by simp [go_sem]
theorem en_runder : Enters Try.prog 37 := fun args w => by simp [go_sem]
/-- The document's tape: its bytes, how many were taken. -/
abbrev RB (X : List Nat) (u : Nat) : Obj := .cells #[sB X, iN u] 35
set_option maxRecDepth 100000 in
theorem rtake_any (g n : Nat) (X : List Nat) (u : Nat) (hX : ∀ i, X.getD i 0 < 256) (hu : u < 4611686018427387904) (hn : n ≤ 65536) (w0 : World) (hg : w0.heap[g]? = some (RB X u)) :
    Calls Try.prog 26 #[pT g, iN n] w0 fun e w' => e = .returned (sB (takN n (X.drop u))) ∧ Turn g (RB X (u + n)) w0 w' := by
  refine enter_fr Try.func26 rfl Try.ntmps26 (by simp) fun ac (FF : Fr 51 ac [(0, pT g), (1, iN n)]) => ?_
  have MM : MemS (fun k => k < w0.heap.size ∧ ∀ x ∈ (g, oC #[sB X, iN u] 35) :: ([] : Blks), x.1 ≠ k) w0 w0 ((g, oC #[sB X, iN u] 35) :: ([] : Blks)) [] := MemS.startN (one_has hg) ⟨fun y hy => (nomatch hy), trivial⟩
  have hgl : ∀ j i, (genL n (fun j => (X.drop u).getD j 0) j).getD i 0 < 256 := fun j => genL_lt (by decide) (fun i => dropX_lt hX u i) j
  refine wp_seq (rg_c FF MM [(0, t_ (sB []))] 5 [] [] (⟨(by kernel_rfl), fun _ _ FF1 MM1 => then_n ?_⟩))
  refine wp_seq ?_
  refine wp_seq (rg_c FF1 MM1 [(1, w_ 3), (2, w_ 3)] 5 [12] [] (⟨(by have := hn; omega), (by have := hn; omega), fun _ _ FF2 MM2 => then_n ?_⟩))
  refine wp_cond_false (FF2.ev 0 rfl) ?_
  refine wp_skip ?_
  refine then_n ?_
  refine wp_seq (rg_c FF2 MM2 [(1, n_ (.slice none n n) (.cells (cn .u8 (List.replicate n 0)) 5))] 6 [] [] (⟨(make_ok (t := 63) (e := 5) (p := (.tmp 13)) (q := (.tmp 13)) (by kernel_rfl) rfl rfl Try.underlying63 (by kernel_rfl) (by have := hn; omega)), fun bo => fun _ _ FF3 MM3 => then_n ?_⟩))
  have MMr10 : MemS _ _ _ ((bo, .cells (cn .u8 (genL n (fun j => (X.drop u).getD j 0) 0)) 5) :: _ :: _) _ := MM3.eqA 0 rfl (by rw [← genL_zero n (fun j => (X.drop u).getD j 0)] <;> rfl)
  refine wp_seq ?_
  refine wp_seq (rg_c FF3 MMr10 [] 7 [] [] (fun _ _ FF4 MM4 => then_n ?_))
  refine wp_for2 (fun a' w' => ∃ i : Nat, i ≤ n ∧ Fr 51 a' [(6, iN i), (5, .slice (some ⟨bo, 0, none⟩) n n), (4, sB []), (0, pT g), (1, iN n)] ∧ MemS (fun k => k < w0.heap.size ∧ ∀ x ∈ (g, oC #[sB X, iN u] 35) :: ([] : Blks), x.1 ≠ k) w0 w' ((bo, .cells (cn .u8 (genL n (fun j => (X.drop u).getD j 0) i)) 5) :: (g, oC #[sB X, iN (u + i)] 35) :: ([] : Blks)) []) (fun a' _ => (n - cnt 6 a').toNat) ⟨0, Nat.zero_le _, FF4.pick [0, 1, 2, 3, 4], MM4⟩ ?_
  rintro ac5 wd5 ⟨i, hi, FF5, MM5⟩
  have hc := cnt_of (FF5.get 0 rfl)
  refine rg_c FF5 MM5 [] 7 [17] [] (fun _ _ FF6 MM6 => ?_)
  by_cases hlt : i < n
  · skip
    refine then_n (.inl ⟨(FF6.ev 0 rfl).trans (dec_t hlt), ?_⟩)
    refine wp_mid (fun a' w' => Fr 51 a' [(6, iN i), (5, .slice (some ⟨bo, 0, none⟩) n n), (4, sB []), (0, pT g), (1, iN n)] ∧ MemS (fun k => k < w0.heap.size ∧ ∀ x ∈ (g, oC #[sB X, iN u] 35) :: ([] : Blks), x.1 ≠ k) w0 w' ((bo, .cells (cn .u8 (genL n (fun j => (X.drop u).getD j 0) (i + 1))) 5) :: (g, oC #[sB X, iN (u + i)] 35) :: ([] : Blks)) []) ?_ ?_
    · skip
      refine wp_seq (rg_dc 10 FF6 MM6 [(3, l_ 1 (iN (u + i))), (3, l_ 1 (sB X)), (0, t_ (iN X.length))] [] 7 [29] [] (⟨rfl, rfl, rfl, rfl, (vI (bs_size _)), fun _ _ FF7 MM7 => then_n ?_⟩))
      by_cases hs29 : (u + i) < X.length
      · refine wp_cond_true ((FF7.ev 0 rfl).trans (dec_t hs29)) ?_
        refine rg_dc 12 FF7 MM7 [(5, l_ 1 (sB X)), (3, l_ 1 (iN (u + i))), (0, t_ (iB ((X.drop u).getD i 0))), (0, w_ 1)] [(0, s_ 0 (.cells (cn .u8 (genL n (fun j => (X.drop u).getD j 0) (i + 1))) 5))] 7 [] [] (⟨rfl, rfl, rfl, rfl, (by rw [bs_size]; exact hs29), ((byte_bs hX _).trans (dropD X u i).symm), by omega, rfl, (by rw [cn_size, (genL_len _ _ _)]; omega), (.inl rfl), ((cn_set _ _ _ _).trans (congrArg _ (genL_step _ _ i (by omega) rfl))), fun _ _ FF8 MM8 => ?_⟩)
        refine then_n ?_
        exact ⟨FF8.pick [0, 1, 2, 3, 4], MM8⟩
      · refine wp_cond_false ((FF7.ev 0 rfl).trans (dec_f hs29)) ?_
        have MMr29 : MemS _ _ _ ((bo, .cells (cn .u8 (genL n (fun j => (X.drop u).getD j 0) (i + 1))) 5) :: _ :: _) _ := MM7.eqA 0 rfl (by rw [tk_zero (X := X.drop u) (by simp; omega) hlt] <;> rfl)
        refine wp_skip ?_
        refine then_n ?_
        exact ⟨FF7.pick [1, 2, 3, 4, 5], MMr29⟩
    · rintro ac9 wd9 ⟨FF9, MM9⟩
      refine rg_c FF9 MM9 [(3, l_ 1 (iN (u + i))), (3, s_ 1 (oC #[sB X, iN ((u + i) + 1)] 35))] 7 [] [] (⟨rfl, rfl, by omega, rfl, (by simp), (.inl rfl), rfl, fun _ _ FF10 MM10 => ?_⟩)
      refine inb_n (then_n ?_)
      refine rg_c FF10 MM10 [] 7 [] [] (⟨by omega, fun _ _ FF11 MM11 => ?_⟩)
      have hd := cnt_of (FF11.get 0 rfl)
      refine then_n ⟨⟨i + 1, by omega, FF11.pick [0, 1, 2, 3, 4], MM11⟩, ?_⟩
      rw [hc, hd]; omega
  · skip
    refine then_n (.inr ⟨(FF6.ev 0 rfl).trans (dec_f hlt), ?_⟩)
    obtain rfl : n = i := by omega
    have MMl : MemS _ _ _ ((bo, .cells (cn .u8 (takN n (X.drop u))) 5) :: _ :: _) _ := MM6.eqA 0 rfl (by rw [← tkI_end n (X.drop u)] <;> rfl)
    refine then_n ?_
    refine wp_seq (rg_c FF6 MMl [(1, l_ 0 (sB (takN n (X.drop u))))] 7 [] [] (⟨rfl, (str_all (takN_len _ _) (takN_lt (dropX_lt hX u) n)), fun _ _ FF12 MM12 => then_n ?_⟩))
    refine wp_ret ?_
    repeat first | refine then_ret ?_ | refine inb_ret ?_
    exact (ret_fr FF12 0 Try.results26 rfl ⟨rfl, MM12.turn (O := []) (fun i x hx => by simp at hx) 1 rfl (fun x hx => (nomatch hx))⟩)
set_option maxRecDepth 100000 in
theorem rid__any (g : Nat) (X : List Nat) (u : Nat) (hX : ∀ i, X.getD i 0 < 256) (hu : u < 4611686018427387904)  (w0 : World) (hg : w0.heap[g]? = some (RB X u)) :
    Calls Try.prog 25 #[pT g] w0 fun e w' => e = .returned (.agg (cn .u8 (takN 16 (X.drop u)))) ∧ Turn g (RB X (u + 16)) w0 w' := by
  refine enter_fr Try.func25 rfl Try.ntmps25 (by simp) fun ac (FF : Fr 10 ac [(0, pT g)]) => ?_
  have MM : MemS (fun k => k < w0.heap.size ∧ ∀ x ∈ (g, oC #[sB X, iN u] 35) :: ([] : Blks), x.1 ≠ k) w0 w0 ((g, oC #[sB X, iN u] 35) :: ([] : Blks)) [] := MemS.startN (one_has hg) ⟨fun y hy => (nomatch hy), trivial⟩
  refine wp_seq (rg_c FF MM [(0, s_ 0 (.cells (cn .u8 (List.replicate 16 0)) 61))] 3 [] [] (⟨(by kernel_rfl), fun br => fun _ _ FF1 MM1 => then_n ?_⟩))
  refine wp_seq (rg_c FF1 MM1 [(0, t_ (.agg (cn .u8 (List.replicate 16 0)))), (0, s_ 0 (.cells (cn .u8 (List.replicate 16 0)) 61)), (0, b_ 0)] 4 [] [] (⟨(by kernel_rfl), (by kernel_rfl), fun bk => ⟨rfl, ((cn_size _ _).trans (List.length_replicate ..)), ((cn_size _ _).trans (List.length_replicate ..)), (cn_one _ _), rfl, fun _ _ FF2 MM2 => then_n ?_⟩⟩))
  refine wp_mid (fun a' w' => Fr 10 a' [(3, pT bk), (2, pT br)] ∧ MemS (fun k => k < w0.heap.size ∧ ∀ x ∈ (g, oC #[sB X, iN u] 35) :: ([] : Blks), x.1 ≠ k) w0 w' ((bk, .cells (cn .u8 (takN 16 (X.drop u))) 61) :: (br, .cells (cn .u8 (List.replicate 16 0)) 61) :: (g, oC #[sB X, iN (u + 16)] 35) :: ([] : Blks)) []) ?_ ?_
  · skip
    refine draw_open (N := 4) (by kernel_rfl) (by kernel_rfl) MM2 fun wq3 (MM4 : MemS (fun k => k < w0.heap.size ∧ ∀ x ∈ (g, oC #[sB X, iN u] 35) :: ([] : Blks), x.1 ≠ k) w0 wq3 ((bk, .cells (cn .u8 (List.replicate 16 0)) 61) :: (br, .cells (cn .u8 (List.replicate 16 0)) 61) :: (g, oC #[sB X, iN u] 35) :: ([] : Blks)) []) => ?_
    refine take_op FF2 (i := 1) (oi := (opAt Try.f25 2 1)) (v := (pT g)) (d := 6) (by kernel_rfl) (by kernel_rfl) (by kernel_rfl) (by kernel_rfl) (fun _ _ _ _ _ h => h) (by kernel_rfl) (by decide) (by kernel_rfl) (mvV (x := (.tmp 0)) (by kernel_rfl) rfl) fun _ FF5 => ?_
    refine any_two (i := 0) (oi := (opAt Try.f25 2 0)) (j := 2) (oj := (opAt Try.f25 2 2)) (by kernel_rfl) (by kernel_rfl) (by kernel_rfl) ?_ ?_
    · skip
      refine rp_c 1 FF5 MM4 [] 7 [] [0] (⟨by decide, by decide, by decide, fun _ _ FF6 MM6 => ?_⟩)
      refine wpl_nil (onN_n ?_)
      refine any_one (i := 2) (o := (opAt Try.f25 2 2)) (by kernel_rfl) (by kernel_rfl) ?_
      refine rp_c 1 FF6 MM6 [(0, c_ (sB (takN 16 (X.drop u))) [(2, oC #[sB X, iN (u + 16)] 35)])] 6 [7] [] (⟨(callU_turn en_rtake (g := g) (ob := RB X u) rfl fun w hg => by have h0 := rtake_any g 16 X u hX (by omega) (by decide) w hg; exact h0), fun _ _ FF7 MM7 => ?_⟩)
      refine wpl_nil (onN_n ?_)
      refine any_one (i := 3) (o := (opAt Try.f25 2 3)) (by kernel_rfl) (by kernel_rfl) ?_
      refine rp_c 1 FF7 MM7 [(0, r_ (iN (min (takN 16 (X.drop u)).length 16)) [(0, .cells (cn .u8 (takN 16 (X.drop u))) 61)])] 4 [] [] (⟨(copyStr_ok (p := .tmp 5) (q := .tmp 7) (t := 63) (tq := 9) (e := 5) (T := 61) (off := 0) (len := 16) (X := takN 16 (X.drop u)) (cs := cn .u8 (List.replicate 16 0)) (i := 0) (by kernel_rfl) rfl rfl (takN_lt (dropX_lt hX u) 16) Try.underlying63 (by kernel_rfl) rfl (by rw [cn_size, List.length_replicate]; decide) (by rw [List.take_of_length_le (by rw [takN_len]; decide)]; exact setFrom_new8 (by rw [List.length_replicate, takN_len]))), fun _ _ FF8 MM8 => ?_⟩)
      refine wpl_nil (onN_n ?_)
      refine any_none (by kernel_rfl) (then_n ?_)
      exact ⟨FF8.pick [0, 1], MM8⟩
    · skip
      refine rp_c 1 FF5 MM4 [(0, c_ (sB (takN 16 (X.drop u))) [(2, oC #[sB X, iN (u + 16)] 35)])] 4 [7] [0] (⟨(callU_turn en_rtake (g := g) (ob := RB X u) rfl fun w hg => by have h0 := rtake_any g 16 X u hX (by omega) (by decide) w hg; exact h0), fun _ _ FF9 MM9 => ?_⟩)
      refine wpl_nil (onN_n ?_)
      refine any_one (i := 0) (o := (opAt Try.f25 2 0)) (by kernel_rfl) (by kernel_rfl) ?_
      refine rp_c 1 FF9 MM9 [] 8 [] [] (⟨by decide, by decide, by decide, fun _ _ FF10 MM10 => ?_⟩)
      refine wpl_nil (onN_n ?_)
      refine any_one (i := 3) (o := (opAt Try.f25 2 3)) (by kernel_rfl) (by kernel_rfl) ?_
      refine rp_c 1 FF10 MM10 [(0, r_ (iN (min (takN 16 (X.drop u)).length 16)) [(0, .cells (cn .u8 (takN 16 (X.drop u))) 61)])] 4 [] [] (⟨(copyStr_ok (p := .tmp 5) (q := .tmp 7) (t := 63) (tq := 9) (e := 5) (T := 61) (off := 0) (len := 16) (X := takN 16 (X.drop u)) (cs := cn .u8 (List.replicate 16 0)) (i := 0) (by kernel_rfl) rfl rfl (takN_lt (dropX_lt hX u) 16) Try.underlying63 (by kernel_rfl) rfl (by rw [cn_size, List.length_replicate]; decide) (by rw [List.take_of_length_le (by rw [takN_len]; decide)]; exact setFrom_new8 (by rw [List.length_replicate, takN_len]))), fun _ _ FF11 MM11 => ?_⟩)
      refine wpl_nil (onN_n ?_)
      refine any_none (by kernel_rfl) (then_n ?_)
      exact ⟨FF11.pick [0, 1], MM11⟩
  · rintro ac12 wd12 ⟨FF12, MM12⟩
    refine wp_seq (rg_c FF12 MM12 [(0, b_ 0), (0, b_ 1)] 4 [] [] (⟨rfl, ((cn_size _ _).trans (takN_len _ _)), rfl, ((cn_size _ _).trans (List.length_replicate ..)), ((cn_size _ _).trans (takN_len _ _)), (cn_one _ _), rfl, fun _ _ FF13 MM13 => then_n ?_⟩))
    refine wp_ret ?_
    repeat first | refine then_ret ?_ | refine inb_ret ?_
    exact (retc FF13 MM13 (k := 16) (i := 1) (j := 1) Try.results25 rfl rfl Try.underlying61 rfl (by kernel_rfl) ((cn_size _ _).trans (takN_len _ _)) ⟨rfl, MM13.turn (O := []) (fun i x hx => by simp at hx) 2 rfl (fun x hx => (nomatch hx))⟩)
end Go.Proofs.Ythgfjeljfiadmaa
namespace Go.Proofs.Ythgfjeljfiadmaa
open Go.RowKit
theorem minB_zero : minB 0 = [] := by decide
theorem sz_bits {N : Nat} (h : bsz N ≤ 1024) : sz N ≤ 128 := sz_le (Nat.lt_of_lt_of_le (bsz_ok N).1 (Nat.le_trans (Nat.pow_le_pow_right (by decide) h) (by decide +kernel)))
theorem sz_bit {b : Nat} (X : List Nat) (h : b ≤ 1024) : sz (bitN b X) ≤ 128 := sz_le (Nat.lt_of_lt_of_le (bitN_lt b X) (Nat.le_trans (Nat.pow_le_pow_right (by decide) h) (by decide +kernel)))
set_option maxRecDepth 100000 in
theorem runder_any (g : Nat) (X : List Nat) (u : Nat) (hX : ∀ i, X.getD i 0 < 256) (hu : u < 4611686018427000000) (N k : Nat) (h1 : 1 ≤ bsz N) (hb : bsz N ≤ 1024) (hk1 : 1 ≤ k) (hk : k ≤ 16) (w0 : World) (hg : w0.heap[g]? = some (RB X u)) :
    Calls Try.prog 37 #[pT g, sB (minB N), iN k] w0 fun e w' => e = .returned (.tuple #[sB (minB (undN N (bsz N) k (X.drop u)).1), iN ((undN N (bsz N) k (X.drop u)).2.1)]) ∧ Turn g (RB X (u + (undN N (bsz N) k (X.drop u)).2.2)) w0 w' := by
  refine enter_fr Try.func37 rfl Try.ntmps37 (by simp) fun ac (FF : Fr 59 ac [(0, pT g), (1, sB (minB N)), (2, iN k)]) => ?_
  have MM : MemS (fun k => k < w0.heap.size ∧ ∀ x ∈ (g, oC #[sB X, iN u] 35) :: ([] : Blks), x.1 ≠ k) w0 w0 ((g, oC #[sB X, iN u] 35) :: ([] : Blks)) [] := MemS.startN (one_has hg) ⟨fun y hy => (nomatch hy), trivial⟩
  have hsN := sz_bits hb
  refine wp_seq (rg_c FF MM [(0, t_ (sB []))] 8 [] [] (⟨(by kernel_rfl), fun _ _ FF1 MM1 => then_n ?_⟩))
  refine wp_seq (rg_c FF1 MM1 [(1, t_ (iN (bsz N)))] 9 [] [] (⟨(callP_of en_rbits (bits8_any N (by omega)) _), fun _ _ FF2 MM2 => then_n ?_⟩))
  refine wp_seq ?_
  refine wp_seq (rg_c FF2 MM2 [(1, w_ 3), (2, w_ 3), (3, t_ (.bool true))] 9 [24] [] (⟨by omega, by omega, (callP_of en_tries (tries_yes k (by omega) (by omega)) _), fun _ _ FF3 MM3 => then_n ?_⟩))
  refine wp_cond_false (FF3.ev 0 rfl) ?_
  refine wp_skip ?_
  refine then_n ?_
  refine wp_seq ?_
  refine wp_seq (rg_c FF3 MM3 [] 9 [9] [] (fun _ _ FF4 MM4 => then_n ?_))
  refine wp_for2 (fun a' w' => ∃ i : Nat, i ≤ k ∧ UndI N (bsz N) k (X.drop u) i ∧ Fr 59 a' [(9, iN i), (8, iN (bsz N)), (0, pT g), (1, sB (minB N)), (2, iN k)] ∧ MemS (fun k => k < w0.heap.size ∧ ∀ x ∈ (g, oC #[sB X, iN u] 35) :: ([] : Blks), x.1 ≠ k) w0 w' ((g, oC #[sB X, iN (u + (bsz N + 7) / 8 * i)] 35) :: ([] : Blks)) []) (fun a' _ => (k - cnt 9 a').toNat) ⟨0, Nat.zero_le _, und_start _ _ _ _, FF4.pick [0, 1, 4, 5, 6], MM4⟩ ?_
  rintro ac5 wd5 ⟨i, hi, hI, FF5, MM5⟩
  have hc := cnt_of (FF5.get 0 rfl)
  refine rg_c FF5 MM5 [] 10 [27] [] (fun _ _ FF6 MM6 => ?_)
  by_cases hlt : i < k
  · skip
    refine then_n (.inl ⟨(FF6.ev 0 rfl).trans (dec_t hlt), ?_⟩)
    have hmi : (bsz N + 7) / 8 * i ≤ 129 * 16 := Nat.mul_le_mul (by omega) (by omega)
    have hXi := dropX_lt hX (u + (bsz N + 7) / 8 * i)
    have hmk : (takN ((bsz N + 7) / 8) (X.drop (u + (bsz N + 7) / 8 * i))).getD ((bsz N + 7) / 8 - 1) 0 &&& ((1 * 2 ^ (bsz N % 8) % 256 + (256 - 1)) % 256) < 256 := Nat.lt_of_le_of_lt Nat.and_le_left (takN_lt hXi _ _)
    have hY2 := setY_lt (i := (bsz N + 7) / 8 - 1) (takN_lt hXi ((bsz N + 7) / 8)) hmk
    refine wp_seq (wp_region_list ?_)
    refine rp_c 5 FF6 MM6 [(4, c_ (sB (takN (((bsz N) + 7) / 8) (X.drop (u + (bsz N + 7) / 8 * i)))) [(0, oC #[sB X, iN (u + (bsz N + 7) / 8 * (i + 1))] 35)])] 10 [34] [] (⟨(by have := hb; omega), by decide, (by have := hb; omega), (callU_turn en_rtake (g := g) (ob := RB X (u + (bsz N + 7) / 8 * i)) rfl fun w hg => by have h0 := rtake_any g (((bsz N) + 7) / 8) X (u + (bsz N + 7) / 8 * i) hX (by omega) (by omega) w hg; rw [Nat.add_assoc, ← Nat.mul_succ] at h0; exact h0), fun _ _ FF7 MM7 => ?_⟩)
    refine st_new [9, 8, 0, 1, 2, 35] FF7 MM7 (d := 35) (bytes_ok (e := 5) (x := (.tmp 34)) (by kernel_rfl) rfl (takN_lt (dropX_lt hX (u + (bsz N + 7) / 8 * i)) (((bsz N) + 7) / 8)) Try.underlying9 Try.underlying63 Try.underlying5) rfl rfl (by decide) fun ac8 wd8 bs_ cz FF8 MM8 => ?_
    refine rp_c 1 FF8 MM8 [] 11 [] [] (fun _ _ FF9 MM9 => ?_)
    refine wpl_nil (then_n ?_)
    refine wp_mid (fun a' w' => ∃ Z : List Nat, Z.length = (takN ((bsz N + 7) / 8) (X.drop (u + (bsz N + 7) / 8 * i))).length ∧ (∀ i, Z.getD i 0 < 256) ∧ leV Z = bitN (bsz N) (X.drop (u + (bsz N + 7) / 8 * i)) ∧ Fr 59 a' [(10, .slice (some ⟨bs_, 0, none⟩) ((takN (((bsz N) + 7) / 8) (X.drop (u + (bsz N + 7) / 8 * i))).length) ((takN (((bsz N) + 7) / 8) (X.drop (u + (bsz N + 7) / 8 * i))).length + cz)), (9, iN i), (8, iN (bsz N)), (0, pT g), (1, sB (minB N)), (2, iN k)] ∧ MemS (fun k => k < w0.heap.size ∧ ∀ x ∈ (g, oC #[sB X, iN u] 35) :: ([] : Blks), x.1 ≠ k) w0 w' ((bs_, .cells (cn .u8 (Z ++ List.replicate cz 0)) 5 ((takN ((bsz N + 7) / 8) (X.drop (u + (bsz N + 7) / 8 * i))).length + cz, (takN ((bsz N + 7) / 8) (X.drop (u + (bsz N + 7) / 8 * i))).length + cz + 1)) :: (g, oC #[sB X, iN (u + (bsz N + 7) / 8 * (i + 1))] 35) :: ([] : Blks)) []) ?_ ?_
    · skip
      refine wp_seq (rg_c FF9 MM9 [] 11 [38] [] (⟨by decide, fun _ _ FF10 MM10 => then_n ?_⟩))
      by_cases hs38 : ((bsz N) % 8) ≠ 0
      · refine wp_cond_true ((FF10.ev 0 rfl).trans (dec_t hs38)) ?_
        refine rg_dc 12 FF10 MM10 [(2, t_ (iN ((bsz N + 7) / 8))), (1, w_ 1), (0, l_ 0 (iB ((takN ((bsz N + 7) / 8) (X.drop (u + (bsz N + 7) / 8 * i))).getD ((bsz N + 7) / 8 - 1) 0))), (5, w_ 1)] [(0, s_ 0 (.cells (cn .u8 ((takN ((bsz N + 7) / 8) (X.drop (u + (bsz N + 7) / 8 * i))).set ((bsz N + 7) / 8 - 1) ((takN ((bsz N + 7) / 8) (X.drop (u + (bsz N + 7) / 8 * i))).getD ((bsz N + 7) / 8 - 1) 0 &&& ((1 * 2 ^ (bsz N % 8) % 256 + (256 - 1)) % 256)) ++ List.replicate cz 0)) 5))] 11 [] [] (⟨(vI (takN_len _ _)), by omega, by omega, (by rw [takN_len]; omega), rfl, ((cn_get _ _ _ (by rw [List.length_append, takN_len]; omega)).trans (congrArg some (vI (getD_app_l _ _ _ (by rw [takN_len]; omega))))), by decide, by decide, (takN_lt hXi _ _), (Nat.mod_lt _ (by decide)), (by rw [takN_len]; omega), rfl, (by rw [cn_size, List.length_append, takN_len]; omega), (.inr (by rw [takN_len]; show _ < _; omega)), ((cn_set _ _ _ _).trans (congrArg _ (setY_rep (by rw [takN_len]; omega)))), fun _ _ FF11 MM11 => ?_⟩)
        refine then_n ?_
        exact ⟨(takN ((bsz N + 7) / 8) (X.drop (u + (bsz N + 7) / 8 * i))).set ((bsz N + 7) / 8 - 1) ((takN ((bsz N + 7) / 8) (X.drop (u + (bsz N + 7) / 8 * i))).getD ((bsz N + 7) / 8 - 1) 0 &&& ((1 * 2 ^ (bsz N % 8) % 256 + (256 - 1)) % 256)), (by rw [List.length_set]), hY2, (bit_ref hXi hs38), FF11.pick [0, 1, 2, 3, 4, 5], MM11⟩
      · refine wp_cond_false ((FF10.ev 0 rfl).trans (dec_f hs38)) ?_
        refine wp_skip ?_
        refine then_n ?_
        exact ⟨takN ((bsz N + 7) / 8) (X.drop (u + (bsz N + 7) / 8 * i)), rfl, (takN_lt hXi _), (bit_ref0 hXi (Classical.byContradiction hs38)), FF10.pick [1, 2, 3, 4, 5, 6], MM10⟩
    · rintro ac12 wd12 ⟨Z, hZl, hZb, hZv, FF12, MM12⟩
      refine wp_seq (rg_c FF12 MM12 [(1, l_ 0 (sB Z)), (0, t_ (sB (minB (bitN (bsz N) (X.drop (u + (bsz N + 7) / 8 * i))))))] 12 [] [] (⟨rfl, (strY_rep hZl hZb), (by have h0 := callP_of en_rbytes (bytes_any Z hZb (by rw [hZl, takN_len]; omega)) []; rw [hZv] at h0; exact h0), fun _ _ FF13 MM13 => then_n ?_⟩))
      have hsb := sz_bit (X.drop (u + (bsz N + 7) / 8 * i)) hb
      refine wp_seq (rg_c FF13 MM13 [(2, t_ (.int .i64 (cmpN (bitN (bsz N) (X.drop (u + (bsz N + 7) / 8 * i))) N : Int))), (0, w_ 4)] 12 [57] [] (⟨(callP_of en_rcmp (cmp_any (bitN (bsz N) (X.drop (u + (bsz N + 7) / 8 * i))) N (by omega)) _), fun _ _ FF14 MM14 => then_n ?_⟩))
      by_cases hs57 : (cmpN (bitN (bsz N) (X.drop (u + (bsz N + 7) / 8 * i))) N) < ((0 : Nat) : Int)
      · refine wp_cond_true ((FF14.ev 0 rfl).trans (dec_t hs57)) ?_
        have hE := und_yes hI hlt (by rw [List.drop_drop]; exact (cmp_neg _ _).1 hs57)
        refine wp_seq (rg_c FF14 MM14 [] 12 [] [] (fun _ _ FF15 MM15 => then_n ?_))
        refine wp_ret ?_
        repeat first | refine then_ret ?_ | refine inb_ret ?_
        exact (ret_tup2 FF15 1 0 Try.results37 rfl rfl (by rw [hE]; exact ⟨by rw [List.drop_drop], MM15.turn (O := []) (fun i x hx => by simp at hx) 1 rfl (fun x hx => (nomatch hx))⟩))
      · refine wp_cond_false ((FF14.ev 0 rfl).trans (dec_f hs57)) ?_
        have hno := fun h => hs57 ((cmp_neg _ _).2 h)
        refine wp_skip ?_
        refine inb_n (then_n ?_)
        refine rg_c FF14 MM14 [] 12 [] [] (⟨by omega, fun _ _ FF16 MM16 => ?_⟩)
        have hd := cnt_of (FF16.get 0 rfl)
        refine then_n ⟨⟨i + 1, by omega, und_no hI hlt (by rw [List.drop_drop]; exact hno), FF16.pick [0, 3, 4, 5, 6], (MM16.dropAt 0)⟩, ?_⟩
        rw [hc, hd]; omega
  · skip
    refine then_n (.inr ⟨(FF6.ev 0 rfl).trans (dec_f hlt), ?_⟩)
    have hik : i = k := by omega
    subst hik
    have hE := und_end hI
    refine then_n ?_
    refine wp_seq (rg_c FF6 MM6 [(0, t_ (sB []))] 9 [9] [] (⟨(by kernel_rfl), fun _ _ FF17 MM17 => then_n ?_⟩))
    refine wp_ret ?_
    repeat first | refine then_ret ?_ | refine inb_ret ?_
    exact (ret_tup2 FF17 1 0 Try.results37 rfl rfl (by rw [hE]; exact ⟨by rw [minB_zero], MM17.turn (O := []) (fun i x hx => by simp at hx) 0 rfl (fun x hx => (nomatch hx))⟩))
end Go.Proofs.Ythgfjeljfiadmaa
namespace Go.Proofs.Ythgfjeljfiadmaa
open Go.RowKit
/-- What may be a table: a ratio, a reach, a middle. -/
def TOk (a b r m : Nat) : Prop := 1 ≤ b ∧ b < a ∧ a ≤ 16 ∧ r ≤ m ∧ m + r ≤ 8
/-- The weight of a number. -/
def wgZ (a b r m : Nat) (n : Int) : Nat := if (m : Int) - r ≤ n ∧ n ≤ m + r then b ^ (n - m).natAbs * a ^ (r - (n - m).natAbs) else 0
/-- Those of the first i numbers together. -/
def toN (a b r m : Nat) : Nat → Nat
  | 0 => 0
  | i + 1 => toN a b r m i + wgZ a b r m ((m - r + i : Nat) : Int)
theorem wg_in {a b r m : Nat} {n : Int} (h : (m : Int) - r ≤ n) (h2 : n ≤ m + r) : wgZ a b r m n = b ^ (n - m).natAbs * a ^ (r - (n - m).natAbs) := if_pos ⟨h, h2⟩
theorem wg_lo {a b r m : Nat} {n : Int} (h : n < (m : Int) - r) : wgZ a b r m n = 0 := if_neg fun q => by omega
theorem wg_hi {a b r m : Nat} {n : Int} (h : n > (m : Int) + r) : wgZ a b r m n = 0 := if_neg fun q => by omega
theorem pow16 {a d : Nat} (h : a ≤ 16) : a ^ d ≤ 16 ^ d := Nat.pow_le_pow_left h d
theorem wg_le {a b r m : Nat} (hk : TOk a b r m) (n : Int) : wgZ a b r m n ≤ 65536 := by
  obtain ⟨h1, h2, h3, h4, h5⟩ := hk
  unfold wgZ
  split
  · rename_i h
    have e : 16 ^ (n - m).natAbs * 16 ^ (r - (n - m).natAbs) = 16 ^ r := by rw [← Nat.pow_add]; congr 1; omega
    have h6 : 16 ^ r ≤ 16 ^ 4 := Nat.pow_le_pow_right (by decide) (by omega)
    exact Nat.le_trans (Nat.mul_le_mul (pow16 (by omega)) (pow16 h3)) (by rw [e]; exact h6)
  · exact Nat.zero_le _
theorem wg_pos {a b r m : Nat} (hk : TOk a b r m) {n : Int} (h : (m : Int) - r ≤ n) (h2 : n ≤ m + r) : 0 < wgZ a b r m n := by
  rw [wg_in h h2]; exact Nat.mul_pos (Nat.pow_pos (by have := hk.1; omega)) (Nat.pow_pos (by have := hk.2.1; omega))
theorem wgi_pos {a b r m : Nat} (hk : TOk a b r m) {i : Nat} (h : i < 2 * r + 1) : 0 < wgZ a b r m ((m - r + i : Nat) : Int) := wg_pos hk (by have := hk.2.2.2.1; omega) (by have := hk.2.2.2.1; omega)
theorem to_le {a b r m : Nat} (hk : TOk a b r m) : ∀ i, toN a b r m i ≤ 65536 * i
  | 0 => Nat.le_refl _
  | i + 1 => by have := to_le hk i; have := wg_le hk ((m - r + i : Nat) : Int); rw [toN]; omega
theorem to_mono (a b r m : Nat) : ∀ {i j : Nat}, i ≤ j → toN a b r m i ≤ toN a b r m j
  | i, 0, h => by rw [Nat.le_zero.1 h]; exact Nat.le_refl _
  | i, j + 1, h => by
    rcases Nat.lt_or_ge j i with h1 | h1
    · rw [show i = j + 1 by omega]; exact Nat.le_refl _
    · exact Nat.le_trans (to_mono a b r m h1) (Nat.le_add_right _ _)
theorem to_pos {a b r m : Nat} (hk : TOk a b r m) : 1 ≤ toN a b r m (2 * r + 1) := Nat.le_trans (Nat.lt_of_lt_of_le (wgi_pos hk (i := 2 * r) (by omega)) (Nat.le_add_left _ _)) (Nat.le_refl _)
theorem to_small {a b r m : Nat} (hk : TOk a b r m) {i : Nat} (h : i ≤ 9) : toN a b r m i < 1048576 := by have := to_le hk i; omega
/-- At which number a word stands, the first i left out. -/
def atN (a b r m w : Nat) : Nat → Nat → Nat
  | 0, i => i
  | k + 1, i => if w < toN a b r m (i + 1) then i else atN a b r m w k (i + 1)
theorem atw_of {a b r m w i : Nat} (h1 : toN a b r m i ≤ w) (h2 : w < toN a b r m (i + 1)) : ∀ {k j : Nat}, j ≤ i → i < j + k → atN a b r m w k j = i
  | 0, j, hj, hk => by omega
  | k + 1, j, hj, hk => by
    rw [atN]
    rcases Nat.lt_or_ge j i with h | h
    · rw [if_neg (Nat.not_lt.2 (Nat.le_trans (to_mono a b r m h) h1))]; exact atw_of h1 h2 h (by omega)
    · obtain rfl : j = i := by omega
      exact if_pos h2
theorem atw_find {a b r m w : Nat} : ∀ {k : Nat}, w < toN a b r m k → ∃ i, i < k ∧ toN a b r m i ≤ w ∧ w < toN a b r m (i + 1)
  | 0, h => (Nat.not_lt_zero _ h).elim
  | k + 1, h => by
    rcases Nat.lt_or_ge w (toN a b r m k) with h1 | h1
    · obtain ⟨i, h2, h3⟩ := atw_find h1
      exact ⟨i, by omega, h3⟩
    · exact ⟨k, Nat.lt_succ_self _, h1, h⟩
/-- The number of a word. -/
def aN (a b r m w : Nat) : Nat := if w < toN a b r m (2 * r + 1) then m - r + atN a b r m w (2 * r + 1) 0 else 0
theorem a_yes {a b r m w i : Nat} (hi : i < 2 * r + 1) (h1 : toN a b r m i ≤ w) (h2 : w < toN a b r m (i + 1)) : aN a b r m w = m - r + i := by
  rw [aN, if_pos (Nat.lt_of_lt_of_le h2 (to_mono a b r m hi)), atw_of h1 h2 (Nat.zero_le _) (by omega)]
theorem a_no {a b r m w : Nat} (h : toN a b r m (2 * r + 1) ≤ w) : aN a b r m w = 0 := if_neg (Nat.not_lt.2 h)
theorem atw_lt {a b r m w i : Nat} (hi : i < 2 * r + 1) (h2 : w < toN a b r m (i + 1)) : w < toN a b r m (2 * r + 1) := Nat.lt_of_lt_of_le h2 (to_mono a b r m hi)
end Go.Proofs.Ythgfjeljfiadmaa
namespace Go.Proofs.Ythgfjeljfiadmaa
open Go.RowKit
theorem qok {N : Nat} (h : N < 18446744073709551616 ^ 100) : qsz N < 1000000 := Nat.lt_of_le_of_lt (qsz_le h) (by decide)
theorem qok4 {N : Nat} (h : N < 18446744073709551616 ^ 100) : qsz N < 10000 := Nat.lt_of_le_of_lt (qsz_le h) (by decide)
theorem qok3 {N : Nat} (h : N < 18446744073709551616 ^ 100) : qsz N ≤ 1000 := Nat.le_trans (qsz_le h) (by decide)
theorem prN2 (a b : Nat) : prN [a, b] = a * b := by simp [prN]
end Go.Proofs.Ythgfjeljfiadmaa
namespace Go.Proofs.Ythgfjeljfiadmaa
open Go.RowKit
theorem en_kleast : Enters Try.prog 15 := fun args w => by simp [go_sem]
theorem en_kmost : Enters Try.prog 16 := fun args w => by simp [go_sem]
theorem en_kcount : Enters Try.prog 45 := fun args w => by simp [go_sem]
theorem en_kpower : Enters Try.prog 64 := fun args w => by simp [go_sem]
theorem en_kweight : Enters Try.prog 47 := fun args w => by simp [go_sem]
theorem en_ktotal : Enters Try.prog 31 := fun args w => by simp [go_sem]
theorem en_kat : Enters Try.prog 32 := fun args w => by simp [go_sem]
theorem en_kdraw : Enters Try.prog 19 := fun args w => by simp [go_sem]
theorem en_knew : Enters Try.prog 21 := fun args w => by simp [go_sem]
theorem en_kratio : Enters Try.prog 33 := fun args w => by simp [go_sem]
theorem en_kspan : Enters Try.prog 34 := fun args w => by simp [go_sem]
/-- A table: its ratio, its reach, its middle. -/
abbrev KB (a b r m : Nat) : Obj := .cells #[iN a, iN b, iN r, iN m] 65
def KO (O : Blks) (g a b r m : Nat) : Prop := (g, KB a b r m) ∈ O
theorem KO.mono {O O' : Blks} {g a b r m : Nat} (h : KO O g a b r m) (hs : ∀ x ∈ O, x ∈ O') : KO O' g a b r m := hs _ h
theorem KO.at {w : World} {O : Blks} {g a b r m : Nat} (h : KO O g a b r m) (H : Has w O) : w.heap[g]? = some (KB a b r m) := Has.mem H h
set_option maxRecDepth 100000 in
theorem kleast_T (g : Nat) (a b r m : Nat) (hk : TOk a b r m)  (w0 : World) (hg : w0.heap[g]? = some (KB a b r m)) :
    Calls Try.prog 15 #[pT g] w0 fun e w' => e = .returned (iN (m - r)) ∧ Turn g (KB a b r m) w0 w' := by
  have ⟨k1, k2, k3, k4, k5⟩ := hk
  refine enter_fr Try.func15 rfl Try.ntmps15 (by simp) fun ac (FF : Fr 14 ac [(0, pT g)]) => ?_
  have MM : MemS (fun k => k < w0.heap.size ∧ ∀ x ∈ (g, oC #[iN a, iN b, iN r, iN m] 65) :: ([] : Blks), x.1 ≠ k) w0 w0 ((g, oC #[iN a, iN b, iN r, iN m] 65) :: ([] : Blks)) [] := MemS.startN (one_has hg) ⟨fun y hy => (nomatch hy), trivial⟩
  refine wp_seq (rg_c FF MM [] 3 [] [] (fun _ _ FF1 MM1 => then_n ?_))
  refine wp_seq ?_
  refine wp_seq (rg_c FF1 MM1 [(1, f_ (.bool false))] 3 [4] [] (⟨(ptrSome_ok (t := 27) (t' := 27) (x := (.tmp 3)) (y := (.const (.pointer none))) (by kernel_rfl) rfl rfl Try.underlying27), fun _ _ FF2 MM2 => then_n ?_⟩))
  refine wp_cond_false (FF2.ev 0 rfl) ?_
  refine wp_skip ?_
  refine then_n ?_
  refine wp_seq (rg_dc 10 FF2 MM2 [(3, l_ 0 (iN m)), (3, l_ 0 (iN r))] [] 3 [] [] (⟨rfl, rfl, rfl, rfl, by omega, by omega, fun _ _ FF3 MM3 => then_n ?_⟩))
  refine wp_ret ?_
  repeat first | refine then_ret ?_ | refine inb_ret ?_
  exact (ret_fr FF3 0 Try.results15 rfl ⟨rfl, MM3.turn (O := []) (fun i x hx => by simp at hx) 0 rfl (fun x hx => (nomatch hx))⟩)
theorem kleast_any (g : Nat) (a b r m : Nat) (hk : TOk a b r m) (w : World) (hg : w.heap[g]? = some (KB a b r m)) : Calls Try.prog 15 #[pT g] w fun e w' => e = .returned (iN (m - r)) ∧ Below w.heap.size w w' := (kleast_T g a b r m hk w hg).mono fun _ _ ⟨h1, h2⟩ => ⟨h1, turn_below hg h2⟩
set_option maxRecDepth 100000 in
theorem kmost_T (g : Nat) (a b r m : Nat) (hk : TOk a b r m)  (w0 : World) (hg : w0.heap[g]? = some (KB a b r m)) :
    Calls Try.prog 16 #[pT g] w0 fun e w' => e = .returned (iN (m + r)) ∧ Turn g (KB a b r m) w0 w' := by
  have ⟨k1, k2, k3, k4, k5⟩ := hk
  refine enter_fr Try.func16 rfl Try.ntmps16 (by simp) fun ac (FF : Fr 14 ac [(0, pT g)]) => ?_
  have MM : MemS (fun k => k < w0.heap.size ∧ ∀ x ∈ (g, oC #[iN a, iN b, iN r, iN m] 65) :: ([] : Blks), x.1 ≠ k) w0 w0 ((g, oC #[iN a, iN b, iN r, iN m] 65) :: ([] : Blks)) [] := MemS.startN (one_has hg) ⟨fun y hy => (nomatch hy), trivial⟩
  refine wp_seq (rg_c FF MM [] 3 [] [] (fun _ _ FF1 MM1 => then_n ?_))
  refine wp_seq ?_
  refine wp_seq (rg_c FF1 MM1 [(1, f_ (.bool false))] 3 [4] [] (⟨(ptrSome_ok (t := 27) (t' := 27) (x := (.tmp 3)) (y := (.const (.pointer none))) (by kernel_rfl) rfl rfl Try.underlying27), fun _ _ FF2 MM2 => then_n ?_⟩))
  refine wp_cond_false (FF2.ev 0 rfl) ?_
  refine wp_skip ?_
  refine then_n ?_
  refine wp_seq (rg_dc 10 FF2 MM2 [(3, l_ 0 (iN m)), (3, l_ 0 (iN r))] [] 3 [] [] (⟨rfl, rfl, rfl, rfl, by omega, fun _ _ FF3 MM3 => then_n ?_⟩))
  refine wp_ret ?_
  repeat first | refine then_ret ?_ | refine inb_ret ?_
  exact (ret_fr FF3 0 Try.results16 rfl ⟨rfl, MM3.turn (O := []) (fun i x hx => by simp at hx) 0 rfl (fun x hx => (nomatch hx))⟩)
theorem kmost_any (g : Nat) (a b r m : Nat) (hk : TOk a b r m) (w : World) (hg : w.heap[g]? = some (KB a b r m)) : Calls Try.prog 16 #[pT g] w fun e w' => e = .returned (iN (m + r)) ∧ Below w.heap.size w w' := (kmost_T g a b r m hk w hg).mono fun _ _ ⟨h1, h2⟩ => ⟨h1, turn_below hg h2⟩
set_option maxRecDepth 100000 in
theorem kcount_T (g : Nat) (a b r m : Nat) (hk : TOk a b r m)  (w0 : World) (hg : w0.heap[g]? = some (KB a b r m)) :
    Calls Try.prog 45 #[pT g] w0 fun e w' => e = .returned (iN (2 * r + 1)) ∧ Turn g (KB a b r m) w0 w' := by
  have ⟨k1, k2, k3, k4, k5⟩ := hk
  refine enter_fr Try.func45 rfl Try.ntmps45 (by simp) fun ac (FF : Fr 11 ac [(0, pT g)]) => ?_
  have MM : MemS (fun k => k < w0.heap.size ∧ ∀ x ∈ (g, oC #[iN a, iN b, iN r, iN m] 65) :: ([] : Blks), x.1 ≠ k) w0 w0 ((g, oC #[iN a, iN b, iN r, iN m] 65) :: ([] : Blks)) [] := MemS.startN (one_has hg) ⟨fun y hy => (nomatch hy), trivial⟩
  refine wp_seq (rg_c FF MM [] 3 [] [] (fun _ _ FF1 MM1 => then_n ?_))
  refine wp_seq ?_
  refine wp_seq (rg_c FF1 MM1 [(1, f_ (.bool false))] 3 [4] [] (⟨(ptrSome_ok (t := 27) (t' := 27) (x := (.tmp 3)) (y := (.const (.pointer none))) (by kernel_rfl) rfl rfl Try.underlying27), fun _ _ FF2 MM2 => then_n ?_⟩))
  refine wp_cond_false (FF2.ev 0 rfl) ?_
  refine wp_skip ?_
  refine then_n ?_
  refine wp_seq (rg_c FF2 MM2 [(3, l_ 0 (iN r))] 3 [] [] (⟨rfl, rfl, by omega, by omega, fun _ _ FF3 MM3 => then_n ?_⟩))
  refine wp_ret ?_
  repeat first | refine then_ret ?_ | refine inb_ret ?_
  exact (ret_fr FF3 0 Try.results45 rfl ⟨rfl, MM3.turn (O := []) (fun i x hx => by simp at hx) 0 rfl (fun x hx => (nomatch hx))⟩)
theorem kcount_any (g : Nat) (a b r m : Nat) (hk : TOk a b r m) (w : World) (hg : w.heap[g]? = some (KB a b r m)) : Calls Try.prog 45 #[pT g] w fun e w' => e = .returned (iN (2 * r + 1)) ∧ Below w.heap.size w w' := (kcount_T g a b r m hk w hg).mono fun _ _ ⟨h1, h2⟩ => ⟨h1, turn_below hg h2⟩
end Go.Proofs.Ythgfjeljfiadmaa
namespace Go.Proofs.Ythgfjeljfiadmaa
open Go.RowKit
theorem bsz5 {a : Nat} (h : a ≤ 16) : bsz a ≤ 5 := bsz_le (by omega)
theorem pow_tab {a n : Nat} (ha : a ≤ 16) (hn : n ≤ 8) : PowOk a n := by
  have h := bsz5 ha
  rcases Nat.eq_zero_or_pos (bsz a) with e | e
  · exact .inl e
  · refine .inr (Nat.le_trans (Nat.le_trans hn (by decide : 8 ≤ 65536 / 5)) ?_)
    exact Nat.div_le_div_left h e
theorem b100 {N : Nat} (h : N < 18446744073709551616) : N < 18446744073709551616 ^ 100 := Nat.lt_of_lt_of_le h (Nat.le_self_pow (by decide) _)
theorem pow_lt16 {a n : Nat} (ha : a ≤ 16) (hn : n ≤ 8) : a ^ n < 18446744073709551616 := Nat.lt_of_le_of_lt (Nat.le_trans (pow16 ha) (Nat.pow_le_pow_right (by decide) hn)) (by decide)
set_option maxRecDepth 100000 in
theorem kpower_O (O : Blks) (hD : Distinct O) (a n : Nat) (ha : a ≤ 16) (hn : n ≤ 8) (w0 : World) (H : Has w0 O) :
    Calls Try.prog 64 #[iN a, iN n] w0 fun e w' => ∃ v, e = .returned (.agg #[nv (a ^ n) v]) ∧ Below w0.heap.size w0 w' ∧ NatNew w0.heap.size w' (nv (a ^ n) v) (a ^ n) := by
  refine enter_fr Try.func64 rfl Try.ntmps64 (by simp) fun ac (FF : Fr 16 ac [(0, iN a), (1, iN n)]) => ?_
  have MM : MemS (fun k => k < w0.heap.size ∧ ∀ x ∈ O, x.1 ≠ k) w0 w0 O [] := MemS.startN H hD
  refine wp_seq (rg_c FF MM [] 5 [] [] (fun br => fun _ _ FF1 MM1 => then_n ?_))
  refine wp_seq (wp_region_list ?_)
  refine rp_c 2 FF1 MM1 [(1, w_ 1)] 5 [9] [0] (⟨by omega, fun _ _ FF2 MM2 => ?_⟩)
  refine st_callE [4, 1, 10] FF2 (d := 10) (mk := fun v => .agg #[nv (a) v]) en_nof rfl rfl (nof_any a (by omega) _) rfl (by kernel_rfl) (by decide) fun ac4 wd4 lv3 FF4 hr5 => ?_
  obtain ⟨O6, MM70, hN8, hs9⟩ := MemS.addNats (K := [(br, oC #[.slice none 0 0] 76)]) (O := O) MM2 hr5.1 hr5.2 (Nats.nil O)
  have MM7 : MemS (fun k => k < w0.heap.size ∧ ∀ x ∈ O, x.1 ≠ k) w0 wd4 ((br, oC #[.slice none 0 0] 76) :: O6) [] := MM70
  refine rp_c 1 FF4 MM7 [] 12 [] [1] (fun _ _ FF10 MM10 => ?_)
  refine st_callE [4, 12] FF10 (d := 12) (mk := fun v => .tuple #[.agg #[nv (a ^ n) v], iN 0]) en_npow rfl rfl (npow_ok a lv3 (qok4 (b100 (by omega))) n (pow_tab ha hn) (by omega) _ ((hN8.get 0 rfl).at (Has.tl MM10.hasL))) rfl (by kernel_rfl) (by decide) fun ac12 wd12 lv11 FF12 hr13 => ?_
  have hfr14 : ∀ g, (nv (a ^ n) lv11).ownBlock = some g → w0.heap.size ≤ g := fun g hg => Nat.le_trans MM10.size (hr13.2.2 g hg)
  obtain ⟨O15, MM160, hN17, hs18⟩ := MemS.addNats (K := [(br, oC #[.slice none 0 0] 76)]) (O := O6) MM10 hr13.1 hr13.2 hN8
  have MM16 : MemS (fun k => k < w0.heap.size ∧ ∀ x ∈ O, x.1 ≠ k) w0 wd12 ((br, oC #[.slice none 0 0] 76) :: O15) [] := MM160
  have hz19 : ∀ x ∈ O, x ∈ O15 := fun x hx => hs18 x (hs9 x hx)
  refine rp_c 6 FF12 MM16 [(4, b_ 0)] 6 [] [] (fun bp => ⟨rfl, rfl, rfl, (by kernel_rfl), rfl, fun _ _ FF20 MM20 => ?_⟩)
  refine wpl_nil (then_n ?_)
  refine wp_seq (rg_c FF20 MM20 [(0, b_ 0), (0, b_ 1)] 6 [] [] (⟨rfl, rfl, rfl, rfl, rfl, (by kernel_rfl), rfl, fun _ _ FF21 MM21 => then_n ?_⟩))
  refine wp_ret ?_
  repeat first | refine then_ret ?_ | refine inb_ret ?_
  exact (retc FF21 MM21 (k := 1) (i := 1) (j := 1) Try.results64 rfl rfl Try.underlying76 rfl (by kernel_rfl) rfl ⟨lv11, rfl, MM21.belowN H (fun _ hx => List.mem_cons_of_mem _ (List.mem_cons_of_mem _ (hz19 _ hx))), ⟨(hN17.get 0 rfl).at (Has.tl (Has.tl MM21.hasL)), hfr14⟩⟩)
theorem kpower_any (a n : Nat) (ha : a ≤ 16) (hn : n ≤ 8) (w0 : World) : Calls Try.prog 64 #[iN a, iN n] w0 fun e w' => ∃ v, e = .returned (.agg #[nv (a ^ n) v]) ∧ Below w0.heap.size w0 w' ∧ NatNew w0.heap.size w' (nv (a ^ n) v) (a ^ n) := kpower_O [] trivial a n ha hn w0 (fun i x hx => by simp at hx)
theorem max_ok {P : Program} {l : Slots} {L : Blks} {o : Oper} {t u : TypeId} {x y : Operand} {p q z : Int} (ho : o.op = .call ⟨.builtin .max, #[x, y], #[t, u]⟩) (hx : evO l x = some (.int .i64 p)) (hy : evO l y = some (.int .i64 q)) (hz : max p q = z) : RunV P l L o (.int .i64 z) := fun ρ w Ag _ => by
  have h1 := Ag x _ hx
  have h2 := Ag y _ hy
  simp [execOp, ho, resolve, invoke, builtin, h1, h2, Lib.run_max_ints, hz]
/-- A row of numbers. -/
def RowNs (w : World) (p : Option Addr) (ns : List Nat) : Prop := ∃ xs, NatsIn w p ns xs
theorem rowNs_st (ns : List Nat) : ∀ (v : Value) (w w' : World), RowNs w (pOf v) ns → Below w.heap.size w w' → RowNs w' (pOf v) ns := fun _ _ _ ⟨xs, h⟩ hb => ⟨xs, h.keep hb⟩
theorem nadd2r {p : Option Addr} (M N : Nat) (hs : M + N < 18446744073709551616 ^ 100) (w0 : World) (h : RowNs w0 p [M, N]) : Calls Try.prog 46 #[.slice p 2 2] w0 fun e w' => ∃ v, e = .returned (.agg #[nv (M + N) v]) ∧ Below w0.heap.size w0 w' ∧ NatNew w0.heap.size w' (nv (M + N) v) (M + N) := by
  obtain ⟨xs, h⟩ := h
  exact nadd_any p 2 [M, N] xs (qok (by simpa using hs)) (show 2 < 1000 by decide) w0 h
theorem nmul2r {p : Option Addr} (M N : Nat) (hM : M < 18446744073709551616 ^ 100) (hN : N < 18446744073709551616 ^ 100) (w0 : World) (h : RowNs w0 p [M, N]) : Calls Try.prog 63 #[.slice p 2 2] w0 fun e w' => ∃ v, e = .returned (.agg #[nv (M * N) v]) ∧ Below w0.heap.size w0 w' ∧ NatNew w0.heap.size w' (nv (M * N) v) (M * N) := by
  obtain ⟨xs, h⟩ := h
  have h := nmul_any p 2 [M, N] xs (fun j hj => by
    have : j = 0 ∨ j = 1 := by simp at hj; omega
    rcases this with rfl | rfl
    · exact qok3 hM
    · exact qok3 hN) (show 2 ≤ 100 by decide) w0 h
  rw [prN2] at h
  exact h
set_option maxRecDepth 100000 in
theorem kweight_lo (g : Nat) (a b r m : Nat) (hk : TOk a b r m) (n : Int) (hn : n < (m : Int) - r) (_h1 : -9223372036854775808 ≤ n) (w0 : World) (hg : w0.heap[g]? = some (KB a b r m)) :
    Calls Try.prog 47 #[pT g, .int .i64 (n : Int)] w0 fun e w' => ∃ v, e = .returned (.agg #[nv (0) v]) ∧ Turn g (KB a b r m) w0 w' ∧ NatNew w0.heap.size w' (nv (0) v) (0) := by
  have ⟨k1, k2, k3, k4, k5⟩ := hk
  refine enter_fr Try.func47 rfl Try.ntmps47 (by simp) fun ac (FF : Fr 53 ac [(0, pT g), (1, .int .i64 (n : Int))]) => ?_
  have MM : MemS (fun k => k < w0.heap.size ∧ ∀ x ∈ (g, oC #[iN a, iN b, iN r, iN m] 65) :: ([] : Blks), x.1 ≠ k) w0 w0 ((g, oC #[iN a, iN b, iN r, iN m] 65) :: ([] : Blks)) [] := MemS.startN (one_has hg) ⟨fun y hy => (nomatch hy), trivial⟩
  refine wp_seq (rg_c FF MM [] 5 [] [] (fun br => fun _ _ FF1 MM1 => then_n ?_))
  refine wp_seq ?_
  refine wp_seq (rg_c FF1 MM1 [(1, f_ (.bool false)), (3, u_ 1 (iN (m - r))), (0, w_ 6)] 5 [19] [] (⟨(ptrSome_ok (t := 27) (t' := 27) (x := (.tmp 6)) (y := (.const (.pointer none))) (by kernel_rfl) rfl rfl Try.underlying27), ⟨en_kleast, fun w Hw => kleast_any g a b r m hk w (Hw 1 _ rfl)⟩, by omega, fun _ _ FF2 MM2 => then_n ?_⟩))
  refine wp_cond_true (FF2.ev 0 rfl) ?_
  refine wp_seq (rg_c FF2 MM2 [(0, t_ (aG #[.slice none 0 0])), (0, b_ 0)] 5 [] [] (⟨(by kernel_rfl), rfl, rfl, rfl, (by kernel_rfl), rfl, fun _ _ FF3 MM3 => then_n ?_⟩))
  refine wp_ret ?_
  repeat first | refine then_ret ?_ | refine inb_ret ?_
  exact (retc FF3 MM3 (k := 1) (i := 0) (j := 0) Try.results47 rfl rfl Try.underlying76 rfl (by kernel_rfl) rfl ⟨.slice none 0 0, rfl, MM3.turn (O := []) (fun i x hx => by simp at hx) 1 rfl (fun x hx => (nomatch hx)), natNew_nil _ _⟩)
set_option maxRecDepth 100000 in
theorem kweight_hi (g : Nat) (a b r m : Nat) (hk : TOk a b r m) (n : Int) (hn : n > (m : Int) + r) (_h2 : n < 9223372036854775808) (w0 : World) (hg : w0.heap[g]? = some (KB a b r m)) :
    Calls Try.prog 47 #[pT g, .int .i64 (n : Int)] w0 fun e w' => ∃ v, e = .returned (.agg #[nv (0) v]) ∧ Turn g (KB a b r m) w0 w' ∧ NatNew w0.heap.size w' (nv (0) v) (0) := by
  have ⟨k1, k2, k3, k4, k5⟩ := hk
  refine enter_fr Try.func47 rfl Try.ntmps47 (by simp) fun ac (FF : Fr 53 ac [(0, pT g), (1, .int .i64 (n : Int))]) => ?_
  have MM : MemS (fun k => k < w0.heap.size ∧ ∀ x ∈ (g, oC #[iN a, iN b, iN r, iN m] 65) :: ([] : Blks), x.1 ≠ k) w0 w0 ((g, oC #[iN a, iN b, iN r, iN m] 65) :: ([] : Blks)) [] := MemS.startN (one_has hg) ⟨fun y hy => (nomatch hy), trivial⟩
  refine wp_seq (rg_c FF MM [] 5 [] [] (fun br => fun _ _ FF1 MM1 => then_n ?_))
  refine wp_seq ?_
  refine wp_seq (rg_c FF1 MM1 [(1, f_ (.bool false)), (3, u_ 1 (iN (m - r))), (0, u_ 4 (.bool false)), (4, u_ 1 (iN (m + r))), (0, w_ 6)] 5 [19] [] (⟨(ptrSome_ok (t := 27) (t' := 27) (x := (.tmp 6)) (y := (.const (.pointer none))) (by kernel_rfl) rfl rfl Try.underlying27), ⟨en_kleast, fun w Hw => kleast_any g a b r m hk w (Hw 1 _ rfl)⟩, (dec_f (by omega)), ⟨en_kmost, fun w Hw => kmost_any g a b r m hk w (Hw 1 _ rfl)⟩, by omega, fun _ _ FF2 MM2 => then_n ?_⟩))
  refine wp_cond_true (FF2.ev 0 rfl) ?_
  refine wp_seq (rg_c FF2 MM2 [(0, t_ (aG #[.slice none 0 0])), (0, b_ 0)] 5 [] [] (⟨(by kernel_rfl), rfl, rfl, rfl, (by kernel_rfl), rfl, fun _ _ FF3 MM3 => then_n ?_⟩))
  refine wp_ret ?_
  repeat first | refine then_ret ?_ | refine inb_ret ?_
  exact (retc FF3 MM3 (k := 1) (i := 0) (j := 0) Try.results47 rfl rfl Try.underlying76 rfl (by kernel_rfl) rfl ⟨.slice none 0 0, rfl, MM3.turn (O := []) (fun i x hx => by simp at hx) 1 rfl (fun x hx => (nomatch hx)), natNew_nil _ _⟩)
set_option maxRecDepth 100000 in
theorem kweight_up (g : Nat) (a b r m : Nat) (hk : TOk a b r m) (d : Nat) (hd : d ≤ r) (w0 : World) (hg : w0.heap[g]? = some (KB a b r m)) :
    Calls Try.prog 47 #[pT g, iN (m + d)] w0 fun e w' => ∃ v, e = .returned (.agg #[nv (b ^ d * a ^ (r - d)) v]) ∧ Turn g (KB a b r m) w0 w' ∧ NatNew w0.heap.size w' (nv (b ^ d * a ^ (r - d)) v) (b ^ d * a ^ (r - d)) := by
  have ⟨k1, k2, k3, k4, k5⟩ := hk
  refine enter_fr Try.func47 rfl Try.ntmps47 (by simp) fun ac (FF : Fr 53 ac [(0, pT g), (1, iN (m + d))]) => ?_
  have MM : MemS (fun k => k < w0.heap.size ∧ ∀ x ∈ (g, oC #[iN a, iN b, iN r, iN m] 65) :: ([] : Blks), x.1 ≠ k) w0 w0 ((g, oC #[iN a, iN b, iN r, iN m] 65) :: ([] : Blks)) [] := MemS.startN (one_has hg) ⟨fun y hy => (nomatch hy), trivial⟩
  refine wp_seq (rg_c FF MM [] 5 [] [] (fun br => fun _ _ FF1 MM1 => then_n ?_))
  refine wp_seq ?_
  refine wp_seq (rg_c FF1 MM1 [(1, f_ (.bool false)), (3, u_ 1 (iN (m - r))), (0, w_ 3), (4, u_ 1 (iN (m + r))), (0, w_ 3)] 5 [19] [] (⟨(ptrSome_ok (t := 27) (t' := 27) (x := (.tmp 6)) (y := (.const (.pointer none))) (by kernel_rfl) rfl rfl Try.underlying27), ⟨en_kleast, fun w Hw => kleast_any g a b r m hk w (Hw 1 _ rfl)⟩, by omega, ⟨en_kmost, fun w Hw => kmost_any g a b r m hk w (Hw 1 _ rfl)⟩, by omega, fun _ _ FF2 MM2 => then_n ?_⟩))
  refine wp_cond_false (FF2.ev 0 rfl) ?_
  refine wp_skip ?_
  refine then_n ?_
  refine wp_seq (rg_pred FF2 MM2 [.inl (iN (m + d)), .inl (pT g), .inl (pT g), .inl (.pointer (some ⟨g, 3, none⟩)), .inl (iN m), .inl (iN d), .inl (pT g), .inl (pT g), .inl (.pointer (some ⟨g, 3, none⟩)), .inl (iN m), .inl (iN (m + d)), .inl (.int .i64 (-((d : Nat) : Int) : Int)), .inl (iN d)] [some (o_), some (o_), some (o_), some (o_), some (l_ 1 (iN m)), some (t_ (iN d)), some (o_), some (o_), some (o_), some (l_ 1 (iN m)), some (o_), some (u_ 4 (.int .i64 (-((d : Nat) : Int) : Int))), some (f_ (iN d))] [33, 4, 0, 1] (fun lx wq => [(iN (m + d) = iN (m + d)), (pT g = pT g), (pT g = pT g), (Value.pointer (some ⟨g, 3, none⟩) = .pointer (some ⟨g, 3, none⟩)), (g = g ∧ (#[iN a, iN b, iN r, iN m] : Array Value)[3]? = some (iN m) ∧ iN m = iN m), (m ≤ (m + d) ∧ (m + d) - m < 9223372036854775808 ∧ iN ((m + d) - m) = iN d ∧ iN d = iN d), (pT g = pT g), (pT g = pT g), (Value.pointer (some ⟨g, 3, none⟩) = .pointer (some ⟨g, 3, none⟩)), (g = g ∧ (#[iN a, iN b, iN r, iN m] : Array Value)[3]? = some (iN m) ∧ iN m = iN m), (iN (m + d) = iN (m + d)), (-(9223372036854775808 : Int) ≤ ((m : Nat) : Int) - ((m + d : Nat) : Int) ∧ ((m : Nat) : Int) - ((m + d : Nat) : Int) < (9223372036854775808 : Nat) ∧ Value.int .i64 (((m : Nat) : Int) - ((m + d : Nat) : Int) : Int) = .int .i64 (-((d : Nat) : Int) : Int) ∧ Value.int .i64 (-((d : Nat) : Int) : Int) = .int .i64 (-((d : Nat) : Int) : Int)), (RunV Try.prog [(26, iN d), (32, .int .i64 (-((d : Nat) : Int) : Int)), (19, .bool false), (4, pT br), (0, pT g), (1, iN (m + d))] ((br, oC #[.slice none 0 0] 76) :: (g, oC #[iN a, iN b, iN r, iN m] 65) :: ([] : Blks)) (opAt Try.f47 3 12) (iN d) ∧ iN d = iN d)]) (fun lx => [(33, iN d), (4, pT br), (0, pT g), (1, iN (m + d))]) (by kernel_rfl) (by kernel_rfl) (by kernel_rfl) trivial (fun _ _ => by kernel_rfl) (fun _ => by kernel_rfl) (fun lx wq hB9 hH9 => ⟨(rfl), (rfl), (rfl), (rfl), (⟨rfl, rfl, rfl⟩), (⟨by omega, by omega, (vI (by omega)), rfl⟩), (rfl), (rfl), (rfl), (⟨rfl, rfl, rfl⟩), (rfl), (⟨by omega, by omega, (vZ (by omega)), rfl⟩), (⟨(max_ok (t := 3) (u := 3) (x := .tmp 26) (y := .tmp 32) (by kernel_rfl) rfl rfl (by omega)), rfl⟩), trivial⟩) (fun lx ac3 wd3 hx4 hB5 FF3 MM3 => ?_))
  clear hx4
  refine rp_c 1 FF3 MM3 [] 6 [] [] (fun _ wd7 FF7 MM7 => ?_)
  refine wpl_nil (then_n ?_)
  have h0w := MM7.size
  refine wp_seq (rg_pred FF7 MM7 [.inl (pT g), .inl (pT g), .inl (.pointer (some ⟨g, 1, none⟩)), .inl (iN b), .inl (iN d), (.inr (fun v => .agg #[nv (b ^ d) v], fun v w => NatNew wd7.heap.size w (nv (b ^ d) v) (b ^ d)) : Spec), .inl (pT g), .inl (pT g), .inl (pT g), .inl (iN a), .inl (pT g), .inl (pT g), .inl (.pointer (some ⟨g, 2, none⟩)), .inl (iN r), .inl (iN d), .inl (iN (r - d)), (.inr (fun v => .agg #[nv (a ^ (r - d)) v], fun v w => NatNew wd7.heap.size w (nv (a ^ (r - d)) v) (a ^ (r - d))) : Spec), (.inr (fun v => .slice (pOf v) 2 2, fun v w => RowNs w (pOf v) [b ^ d, a ^ (r - d)]) : Spec), (.inr (fun v => .agg #[nv ((b ^ d) * (a ^ (r - d))) v], fun v w => NatNew wd7.heap.size w (nv ((b ^ d) * (a ^ (r - d))) v) ((b ^ d) * (a ^ (r - d)))) : Spec)] [some (o_), some (o_), some (o_), some (l_ 1 (iN b)), some (o_), none, some (o_), some (o_), some (o_), some (l_ 1 (iN a)), some (o_), some (o_), some (o_), some (l_ 1 (iN r)), some (o_), some (o_), none, some (o_), none] [52, 4, 0, 1] (fun lx wq => [(pT g = pT g), (pT g = pT g), (Value.pointer (some ⟨g, 1, none⟩) = .pointer (some ⟨g, 1, none⟩)), (g = g ∧ (#[iN a, iN b, iN r, iN m] : Array Value)[1]? = some (iN b) ∧ iN b = iN b), (iN d = iN d), (CallQ Try.prog 64 [iN b, iN d] wq (.inr (fun v => .agg #[nv (b ^ d) v], fun v w => NatNew wd7.heap.size w (nv (b ^ d) v) (b ^ d)) : Spec)), (pT g = pT g), (pT g = pT g), (pT g = pT g), (g = g ∧ (#[iN a, iN b, iN r, iN m] : Array Value)[0]? = some (iN a) ∧ iN a = iN a), (pT g = pT g), (pT g = pT g), (Value.pointer (some ⟨g, 2, none⟩) = .pointer (some ⟨g, 2, none⟩)), (g = g ∧ (#[iN a, iN b, iN r, iN m] : Array Value)[2]? = some (iN r) ∧ iN r = iN r), (iN d = iN d), (d ≤ r ∧ r - d < 9223372036854775808 ∧ iN (r - d) = iN (r - d)), (NatNew wd7.heap.size wq (nv (b ^ d) (lx 5)) (b ^ d) → CallQ Try.prog 64 [iN a, iN (r - d)] wq (.inr (fun v => .agg #[nv (a ^ (r - d)) v], fun v w => NatNew wd7.heap.size w (nv (a ^ (r - d)) v) (a ^ (r - d))) : Spec)), (NatNew wd7.heap.size wq (nv (b ^ d) (lx 5)) (b ^ d) → NatNew wd7.heap.size wq (nv (a ^ (r - d)) (lx 16)) (a ^ (r - d)) → (∀ w', Below wq.heap.size wq w' → w'.heap[wq.heap.size]? = some (oC #[nv (b ^ d) (lx 5), nv (a ^ (r - d)) (lx 16)] 76) → ∃ y, Value.slice (some ⟨wq.heap.size, 0, none⟩) 2 2 = (fun v => .slice (pOf v) 2 2) y ∧ RowNs w' (pOf y) [b ^ d, a ^ (r - d)])), (RowNs wq (pOf (lx 17)) [b ^ d, a ^ (r - d)] → NatNew wd7.heap.size wq (nv (a ^ (r - d)) (lx 16)) (a ^ (r - d)) → CallQ Try.prog 63 [.slice (pOf (lx 17)) 2 2] wq (.inr (fun v => .agg #[nv ((b ^ d) * (a ^ (r - d))) v], fun v w => NatNew wd7.heap.size w (nv ((b ^ d) * (a ^ (r - d))) v) ((b ^ d) * (a ^ (r - d)))) : Spec))]) (fun lx => [(52, aG #[nv ((b ^ d) * (a ^ (r - d))) (lx 18)]), (4, pT br), (0, pT g), (1, iN (m + d))]) (by kernel_rfl) (by kernel_rfl) (by kernel_rfl) ⟨(fun v w w1 => natNew_st _ _ (nv _ v) w w1), (fun v w w1 => natNew_st _ _ (nv _ v) w w1), (rowNs_st [b ^ d, a ^ (r - d)]), (fun v w w1 => natNew_st _ _ (nv _ v) w w1), trivial⟩ (fun _ _ => by kernel_rfl) (fun _ => by kernel_rfl) (fun lx wq hB9 hH9 => ⟨(rfl), (rfl), (rfl), (⟨rfl, rfl, rfl⟩), (rfl), (⟨en_kpower, (kpower_any b d (by omega) (by omega) wq).mono fun _ _ ⟨v, h1, h2, h3⟩ => ⟨v, h1, h2, h3.mono hB9.size⟩⟩), (rfl), (rfl), (rfl), (⟨rfl, rfl, rfl⟩), (rfl), (rfl), (rfl), (⟨rfl, rfl, rfl⟩), (rfl), (⟨by omega, by omega, rfl⟩), (fun h5_0 => ⟨en_kpower, (kpower_any a (r - d) (by omega) (by omega) wq).mono fun _ _ ⟨v, h1, h2, h3⟩ => ⟨v, h1, h2, h3.mono hB9.size⟩⟩), (fun h5_0 h16_1 => fun w' hb hh => ⟨.slice (some ⟨wq.heap.size, 0, none⟩) 2 2, rfl, _, nats2 hh (h5_0.1.keep hb) (h16_1.1.keep hb)⟩), (fun h17_0 h16_1 => ⟨en_nmul, (nmul2r (b ^ d) (a ^ (r - d)) (b100 (pow_lt16 (by omega) (by omega)) : b ^ d < 18446744073709551616 ^ 100) (b100 (pow_lt16 (by omega) (by omega)) : a ^ (r - d) < 18446744073709551616 ^ 100) wq h17_0).mono fun _ _ ⟨v, h1, h2, h3⟩ => ⟨v, h1, h2, h3.mono hB9.size⟩⟩), trivial⟩) (fun lx ac8 wd8 hx9 hB10 FF8 MM8 => ?_))
  obtain ⟨hl5, hl16, hl17, hl18, -⟩ := hx9
  generalize lx 5 = lv12 at *
  generalize lx 16 = lv13 at *
  generalize lx 17 = lv14 at *
  generalize lx 18 = lv15 at *
  have hfrw : ∀ g, (nv (b ^ d * a ^ (r - d)) lv15).ownBlock = some g → w0.heap.size ≤ g := fun g hg => Nat.le_trans h0w (hl18.2 g hg)
  obtain ⟨O16, MM170, hN18, hs19⟩ := MemS.addNatsT (K := [(br, oC #[.slice none 0 0] 76), (g, oC #[iN a, iN b, iN r, iN m] 65)]) (O := ([] : Blks)) MM7 MM8 rfl hl18 (Nats.nil ([] : Blks))
  have MM17 : MemS (fun k => k < w0.heap.size ∧ ∀ x ∈ (g, oC #[iN a, iN b, iN r, iN m] 65) :: ([] : Blks), x.1 ≠ k) w0 wd8 ((br, oC #[.slice none 0 0] 76) :: (g, oC #[iN a, iN b, iN r, iN m] 65) :: O16) [] := MM170
  refine rp_c 1 FF8 MM17 [(0, b_ 0)] 5 [] [] (⟨rfl, rfl, rfl, (by kernel_rfl), rfl, fun _ _ FF20 MM20 => ?_⟩)
  refine wpl_nil (then_n ?_)
  refine wp_ret ?_
  repeat first | refine then_ret ?_ | refine inb_ret ?_
  exact (retc FF20 MM20 (k := 1) (i := 0) (j := 0) Try.results47 rfl rfl Try.underlying76 rfl (by kernel_rfl) rfl ⟨lv15, rfl, MM20.turn (O := []) (fun i x hx => by simp at hx) 1 rfl (fun x hx => (nomatch hx)), ⟨(hN18.get 0 rfl).at (Has.tl (Has.tl MM20.hasL)), hfrw⟩⟩)
set_option maxRecDepth 100000 in
theorem kweight_dn (g : Nat) (a b r m : Nat) (hk : TOk a b r m) (d : Nat) (hd : d ≤ r) (w0 : World) (hg : w0.heap[g]? = some (KB a b r m)) :
    Calls Try.prog 47 #[pT g, iN (m - d)] w0 fun e w' => ∃ v, e = .returned (.agg #[nv (b ^ d * a ^ (r - d)) v]) ∧ Turn g (KB a b r m) w0 w' ∧ NatNew w0.heap.size w' (nv (b ^ d * a ^ (r - d)) v) (b ^ d * a ^ (r - d)) := by
  have ⟨k1, k2, k3, k4, k5⟩ := hk
  refine enter_fr Try.func47 rfl Try.ntmps47 (by simp) fun ac (FF : Fr 53 ac [(0, pT g), (1, iN (m - d))]) => ?_
  have MM : MemS (fun k => k < w0.heap.size ∧ ∀ x ∈ (g, oC #[iN a, iN b, iN r, iN m] 65) :: ([] : Blks), x.1 ≠ k) w0 w0 ((g, oC #[iN a, iN b, iN r, iN m] 65) :: ([] : Blks)) [] := MemS.startN (one_has hg) ⟨fun y hy => (nomatch hy), trivial⟩
  refine wp_seq (rg_c FF MM [] 5 [] [] (fun br => fun _ _ FF1 MM1 => then_n ?_))
  refine wp_seq ?_
  refine wp_seq (rg_c FF1 MM1 [(1, f_ (.bool false)), (3, u_ 1 (iN (m - r))), (0, w_ 3), (4, u_ 1 (iN (m + r))), (0, w_ 3)] 5 [19] [] (⟨(ptrSome_ok (t := 27) (t' := 27) (x := (.tmp 6)) (y := (.const (.pointer none))) (by kernel_rfl) rfl rfl Try.underlying27), ⟨en_kleast, fun w Hw => kleast_any g a b r m hk w (Hw 1 _ rfl)⟩, by omega, ⟨en_kmost, fun w Hw => kmost_any g a b r m hk w (Hw 1 _ rfl)⟩, by omega, fun _ _ FF2 MM2 => then_n ?_⟩))
  refine wp_cond_false (FF2.ev 0 rfl) ?_
  refine wp_skip ?_
  refine then_n ?_
  refine wp_seq (rg_pred FF2 MM2 [.inl (iN (m - d)), .inl (pT g), .inl (pT g), .inl (.pointer (some ⟨g, 3, none⟩)), .inl (iN m), .inl (.int .i64 (-((d : Nat) : Int) : Int)), .inl (pT g), .inl (pT g), .inl (.pointer (some ⟨g, 3, none⟩)), .inl (iN m), .inl (iN (m - d)), .inl (iN d), .inl (iN d)] [some (o_), some (o_), some (o_), some (o_), some (l_ 1 (iN m)), some (u_ 4 (.int .i64 (-((d : Nat) : Int) : Int))), some (o_), some (o_), some (o_), some (l_ 1 (iN m)), some (o_), some (t_ (iN d)), some (f_ (iN d))] [33, 4, 0, 1] (fun lx wq => [(iN (m - d) = iN (m - d)), (pT g = pT g), (pT g = pT g), (Value.pointer (some ⟨g, 3, none⟩) = .pointer (some ⟨g, 3, none⟩)), (g = g ∧ (#[iN a, iN b, iN r, iN m] : Array Value)[3]? = some (iN m) ∧ iN m = iN m), (-(9223372036854775808 : Int) ≤ ((m - d : Nat) : Int) - ((m : Nat) : Int) ∧ ((m - d : Nat) : Int) - ((m : Nat) : Int) < (9223372036854775808 : Nat) ∧ Value.int .i64 (((m - d : Nat) : Int) - ((m : Nat) : Int) : Int) = .int .i64 (-((d : Nat) : Int) : Int) ∧ Value.int .i64 (-((d : Nat) : Int) : Int) = .int .i64 (-((d : Nat) : Int) : Int)), (pT g = pT g), (pT g = pT g), (Value.pointer (some ⟨g, 3, none⟩) = .pointer (some ⟨g, 3, none⟩)), (g = g ∧ (#[iN a, iN b, iN r, iN m] : Array Value)[3]? = some (iN m) ∧ iN m = iN m), (iN (m - d) = iN (m - d)), ((m - d) ≤ m ∧ m - (m - d) < 9223372036854775808 ∧ iN (m - (m - d)) = iN d ∧ iN d = iN d), (RunV Try.prog [(26, .int .i64 (-((d : Nat) : Int) : Int)), (32, iN d), (19, .bool false), (4, pT br), (0, pT g), (1, iN (m - d))] ((br, oC #[.slice none 0 0] 76) :: (g, oC #[iN a, iN b, iN r, iN m] 65) :: ([] : Blks)) (opAt Try.f47 3 12) (iN d) ∧ iN d = iN d)]) (fun lx => [(33, iN d), (4, pT br), (0, pT g), (1, iN (m - d))]) (by kernel_rfl) (by kernel_rfl) (by kernel_rfl) trivial (fun _ _ => by kernel_rfl) (fun _ => by kernel_rfl) (fun lx wq hB9 hH9 => ⟨(rfl), (rfl), (rfl), (rfl), (⟨rfl, rfl, rfl⟩), (⟨by omega, by omega, (vZ (by omega)), rfl⟩), (rfl), (rfl), (rfl), (⟨rfl, rfl, rfl⟩), (rfl), (⟨by omega, by omega, (vI (by omega)), rfl⟩), (⟨(max_ok (t := 3) (u := 3) (x := .tmp 26) (y := .tmp 32) (by kernel_rfl) rfl rfl (by omega)), rfl⟩), trivial⟩) (fun lx ac3 wd3 hx4 hB5 FF3 MM3 => ?_))
  clear hx4
  refine rp_c 1 FF3 MM3 [] 6 [] [] (fun _ wd7 FF7 MM7 => ?_)
  refine wpl_nil (then_n ?_)
  have h0w := MM7.size
  refine wp_seq (rg_pred FF7 MM7 [.inl (pT g), .inl (pT g), .inl (.pointer (some ⟨g, 1, none⟩)), .inl (iN b), .inl (iN d), (.inr (fun v => .agg #[nv (b ^ d) v], fun v w => NatNew wd7.heap.size w (nv (b ^ d) v) (b ^ d)) : Spec), .inl (pT g), .inl (pT g), .inl (pT g), .inl (iN a), .inl (pT g), .inl (pT g), .inl (.pointer (some ⟨g, 2, none⟩)), .inl (iN r), .inl (iN d), .inl (iN (r - d)), (.inr (fun v => .agg #[nv (a ^ (r - d)) v], fun v w => NatNew wd7.heap.size w (nv (a ^ (r - d)) v) (a ^ (r - d))) : Spec), (.inr (fun v => .slice (pOf v) 2 2, fun v w => RowNs w (pOf v) [b ^ d, a ^ (r - d)]) : Spec), (.inr (fun v => .agg #[nv ((b ^ d) * (a ^ (r - d))) v], fun v w => NatNew wd7.heap.size w (nv ((b ^ d) * (a ^ (r - d))) v) ((b ^ d) * (a ^ (r - d)))) : Spec)] [some (o_), some (o_), some (o_), some (l_ 1 (iN b)), some (o_), none, some (o_), some (o_), some (o_), some (l_ 1 (iN a)), some (o_), some (o_), some (o_), some (l_ 1 (iN r)), some (o_), some (o_), none, some (o_), none] [52, 4, 0, 1] (fun lx wq => [(pT g = pT g), (pT g = pT g), (Value.pointer (some ⟨g, 1, none⟩) = .pointer (some ⟨g, 1, none⟩)), (g = g ∧ (#[iN a, iN b, iN r, iN m] : Array Value)[1]? = some (iN b) ∧ iN b = iN b), (iN d = iN d), (CallQ Try.prog 64 [iN b, iN d] wq (.inr (fun v => .agg #[nv (b ^ d) v], fun v w => NatNew wd7.heap.size w (nv (b ^ d) v) (b ^ d)) : Spec)), (pT g = pT g), (pT g = pT g), (pT g = pT g), (g = g ∧ (#[iN a, iN b, iN r, iN m] : Array Value)[0]? = some (iN a) ∧ iN a = iN a), (pT g = pT g), (pT g = pT g), (Value.pointer (some ⟨g, 2, none⟩) = .pointer (some ⟨g, 2, none⟩)), (g = g ∧ (#[iN a, iN b, iN r, iN m] : Array Value)[2]? = some (iN r) ∧ iN r = iN r), (iN d = iN d), (d ≤ r ∧ r - d < 9223372036854775808 ∧ iN (r - d) = iN (r - d)), (NatNew wd7.heap.size wq (nv (b ^ d) (lx 5)) (b ^ d) → CallQ Try.prog 64 [iN a, iN (r - d)] wq (.inr (fun v => .agg #[nv (a ^ (r - d)) v], fun v w => NatNew wd7.heap.size w (nv (a ^ (r - d)) v) (a ^ (r - d))) : Spec)), (NatNew wd7.heap.size wq (nv (b ^ d) (lx 5)) (b ^ d) → NatNew wd7.heap.size wq (nv (a ^ (r - d)) (lx 16)) (a ^ (r - d)) → (∀ w', Below wq.heap.size wq w' → w'.heap[wq.heap.size]? = some (oC #[nv (b ^ d) (lx 5), nv (a ^ (r - d)) (lx 16)] 76) → ∃ y, Value.slice (some ⟨wq.heap.size, 0, none⟩) 2 2 = (fun v => .slice (pOf v) 2 2) y ∧ RowNs w' (pOf y) [b ^ d, a ^ (r - d)])), (RowNs wq (pOf (lx 17)) [b ^ d, a ^ (r - d)] → NatNew wd7.heap.size wq (nv (a ^ (r - d)) (lx 16)) (a ^ (r - d)) → CallQ Try.prog 63 [.slice (pOf (lx 17)) 2 2] wq (.inr (fun v => .agg #[nv ((b ^ d) * (a ^ (r - d))) v], fun v w => NatNew wd7.heap.size w (nv ((b ^ d) * (a ^ (r - d))) v) ((b ^ d) * (a ^ (r - d)))) : Spec))]) (fun lx => [(52, aG #[nv ((b ^ d) * (a ^ (r - d))) (lx 18)]), (4, pT br), (0, pT g), (1, iN (m - d))]) (by kernel_rfl) (by kernel_rfl) (by kernel_rfl) ⟨(fun v w w1 => natNew_st _ _ (nv _ v) w w1), (fun v w w1 => natNew_st _ _ (nv _ v) w w1), (rowNs_st [b ^ d, a ^ (r - d)]), (fun v w w1 => natNew_st _ _ (nv _ v) w w1), trivial⟩ (fun _ _ => by kernel_rfl) (fun _ => by kernel_rfl) (fun lx wq hB9 hH9 => ⟨(rfl), (rfl), (rfl), (⟨rfl, rfl, rfl⟩), (rfl), (⟨en_kpower, (kpower_any b d (by omega) (by omega) wq).mono fun _ _ ⟨v, h1, h2, h3⟩ => ⟨v, h1, h2, h3.mono hB9.size⟩⟩), (rfl), (rfl), (rfl), (⟨rfl, rfl, rfl⟩), (rfl), (rfl), (rfl), (⟨rfl, rfl, rfl⟩), (rfl), (⟨by omega, by omega, rfl⟩), (fun h5_0 => ⟨en_kpower, (kpower_any a (r - d) (by omega) (by omega) wq).mono fun _ _ ⟨v, h1, h2, h3⟩ => ⟨v, h1, h2, h3.mono hB9.size⟩⟩), (fun h5_0 h16_1 => fun w' hb hh => ⟨.slice (some ⟨wq.heap.size, 0, none⟩) 2 2, rfl, _, nats2 hh (h5_0.1.keep hb) (h16_1.1.keep hb)⟩), (fun h17_0 h16_1 => ⟨en_nmul, (nmul2r (b ^ d) (a ^ (r - d)) (b100 (pow_lt16 (by omega) (by omega)) : b ^ d < 18446744073709551616 ^ 100) (b100 (pow_lt16 (by omega) (by omega)) : a ^ (r - d) < 18446744073709551616 ^ 100) wq h17_0).mono fun _ _ ⟨v, h1, h2, h3⟩ => ⟨v, h1, h2, h3.mono hB9.size⟩⟩), trivial⟩) (fun lx ac8 wd8 hx9 hB10 FF8 MM8 => ?_))
  obtain ⟨hl5, hl16, hl17, hl18, -⟩ := hx9
  generalize lx 5 = lv12 at *
  generalize lx 16 = lv13 at *
  generalize lx 17 = lv14 at *
  generalize lx 18 = lv15 at *
  have hfrw : ∀ g, (nv (b ^ d * a ^ (r - d)) lv15).ownBlock = some g → w0.heap.size ≤ g := fun g hg => Nat.le_trans h0w (hl18.2 g hg)
  obtain ⟨O16, MM170, hN18, hs19⟩ := MemS.addNatsT (K := [(br, oC #[.slice none 0 0] 76), (g, oC #[iN a, iN b, iN r, iN m] 65)]) (O := ([] : Blks)) MM7 MM8 rfl hl18 (Nats.nil ([] : Blks))
  have MM17 : MemS (fun k => k < w0.heap.size ∧ ∀ x ∈ (g, oC #[iN a, iN b, iN r, iN m] 65) :: ([] : Blks), x.1 ≠ k) w0 wd8 ((br, oC #[.slice none 0 0] 76) :: (g, oC #[iN a, iN b, iN r, iN m] 65) :: O16) [] := MM170
  refine rp_c 1 FF8 MM17 [(0, b_ 0)] 5 [] [] (⟨rfl, rfl, rfl, (by kernel_rfl), rfl, fun _ _ FF20 MM20 => ?_⟩)
  refine wpl_nil (then_n ?_)
  refine wp_ret ?_
  repeat first | refine then_ret ?_ | refine inb_ret ?_
  exact (retc FF20 MM20 (k := 1) (i := 0) (j := 0) Try.results47 rfl rfl Try.underlying76 rfl (by kernel_rfl) rfl ⟨lv15, rfl, MM20.turn (O := []) (fun i x hx => by simp at hx) 1 rfl (fun x hx => (nomatch hx)), ⟨(hN18.get 0 rfl).at (Has.tl (Has.tl MM20.hasL)), hfrw⟩⟩)
end Go.Proofs.Ythgfjeljfiadmaa
namespace Go.Proofs.Ythgfjeljfiadmaa
open Go.RowKit
theorem kweight_any (g : Nat) (a b r m : Nat) (hk : TOk a b r m) (n : Int) (h1 : -9223372036854775808 ≤ n) (h2 : n < 9223372036854775808) (w0 : World) (hg : w0.heap[g]? = some (KB a b r m)) :
    Calls Try.prog 47 #[pT g, .int .i64 n] w0 fun e w' => ∃ v, e = .returned (.agg #[nv (wgZ a b r m n) v]) ∧ Below w0.heap.size w0 w' ∧ NatNew w0.heap.size w' (nv (wgZ a b r m n) v) (wgZ a b r m n) := by
  have k4 := hk.2.2.2.1
  rcases Int.lt_or_le n ((m : Int) - r) with h | h
  · rw [wg_lo h]; exact (kweight_lo g a b r m hk n h h1 w0 hg).mono fun _ _ ⟨v, e, t, q⟩ => ⟨v, e, turn_below hg t, q⟩
  · rcases Int.lt_or_le ((m : Int) + r) n with h' | h'
    · rw [wg_hi h']; exact (kweight_hi g a b r m hk n h' h2 w0 hg).mono fun _ _ ⟨v, e, t, q⟩ => ⟨v, e, turn_below hg t, q⟩
    · rcases Int.lt_or_le n m with h3 | h3
      · obtain ⟨d, rfl, hd⟩ : ∃ d : Nat, n = ((m - d : Nat) : Int) ∧ d ≤ r := ⟨(m - n).toNat, by omega, by omega⟩
        rw [wg_in h h', show (((m - d : Nat) : Int) - m).natAbs = d by omega]
        exact (kweight_dn g a b r m hk d hd w0 hg).mono fun _ _ ⟨v, e, t, q⟩ => ⟨v, e, turn_below hg t, q⟩
      · obtain ⟨d, rfl, hd⟩ : ∃ d : Nat, n = ((m + d : Nat) : Int) ∧ d ≤ r := ⟨(n - m).toNat, by omega, by omega⟩
        rw [wg_in h h', show (((m + d : Nat) : Int) - m).natAbs = d by omega]
        exact (kweight_up g a b r m hk d hd w0 hg).mono fun _ _ ⟨v, e, t, q⟩ => ⟨v, e, turn_below hg t, q⟩
theorem kone_O {w : World} {g a b r m : Nat} (hg : w.heap[g]? = some (KB a b r m)) : ∃ O : Blks, Has w O ∧ Distinct O ∧ KO O g a b r m := ⟨[(g, KB a b r m)], one_has hg, ⟨fun y hy => (nomatch hy), trivial⟩, by simp [KO]⟩
set_option maxRecDepth 100000 in
theorem ktotal_O (O : Blks) (hD : Distinct O) (g : Nat) (a b r m : Nat) (hk : TOk a b r m) (hK : KO O g a b r m) (w0 : World) (H : Has w0 O) :
    Calls Try.prog 31 #[pT g] w0 fun e w' => ∃ v, e = .returned (.agg #[nv (toN a b r m (2 * r + 1)) v]) ∧ Below w0.heap.size w0 w' ∧ NatNew w0.heap.size w' (nv (toN a b r m (2 * r + 1)) v) (toN a b r m (2 * r + 1)) := by
  refine enter_fr Try.func31 rfl Try.ntmps31 (by simp) fun ac (FF : Fr 21 ac [(0, pT g)]) => ?_
  have MM : MemS (fun k => k < w0.heap.size ∧ ∀ x ∈ O, x.1 ≠ k) w0 w0 O [] := MemS.startN H hD
  have ⟨k1, k2, k3, k4, k5⟩ := hk
  refine wp_seq (rg_c FF MM [] 3 [] [] (fun br => fun _ _ FF1 MM1 => then_n ?_))
  refine wp_seq (rg_c FF1 MM1 [] 4 [] [] (fun bs => fun _ _ FF2 MM2 => then_n ?_))
  refine wp_seq ?_
  refine wp_seq (rg_c FF2 MM2 [(1, u_ 1 (iN (2 * r + 1)))] 8 [] [5] (⟨⟨en_kcount, fun w Hw => kcount_any g a b r m hk w (hK.at (Has.tl (Has.tl Hw)))⟩, fun _ _ FF3 MM3 => then_n ?_⟩))
  refine wp_for (fun a' w' => ∃ O1 : Blks, ∃ i : Nat, ∃ v : Value, i ≤ 2 * r + 1 ∧ (∀ x ∈ O, x ∈ O1) ∧ Nats O1 [((nv (toN a b r m i) v), toN a b r m i)] ∧ (∀ g, (nv (toN a b r m i) v).ownBlock = some g → w0.heap.size ≤ g) ∧ Fr 21 a' [(7, iN i), (6, iN (2 * r + 1)), (3, pT bs), (2, pT br), (0, pT g)] ∧ MemS (fun k => k < w0.heap.size ∧ ∀ x ∈ O, x.1 ≠ k) w0 w' ((bs, oC #[nv (toN a b r m i) v] 76) :: (br, oC #[.slice none 0 0] 76) :: O1) []) (fun a' _ => (2 * r + 1 - cnt 7 a').toNat) ⟨O, 0, (.slice none 0 0), Nat.zero_le _, fun _ h => h, .cons (natO_nil O) (.nil _), (fun g hg => by cases hg), FF3.pick [0, 1, 2, 3, 4], MM3⟩ ?_
  rintro ac4 wd4 ⟨O1, i, v, hi, hsb, hN1, hfr, FF4, MM4⟩
  have hK1 := hK.mono hsb
  have hc := cnt_of (FF4.get 0 rfl)
  refine rg_c FF4 MM4 [] 9 [] [] (fun _ _ FF5 MM5 => ?_)
  by_cases hlt : i < (2 * r + 1)
  · skip
    refine then_n (.inl ⟨(FF5.ev 0 rfl).trans (dec_t hlt), ?_⟩)
    have hi9 : i ≤ 8 := by omega
    refine wp_seq (rg_c FF5 MM5 [] 8 [] [] (fun _ wd6 FF6 MM6 => then_n ?_))
    have h0w := MM6.size
    refine rg_pred FF6 MM6 [.inl (aG #[nv (toN a b r m i) v]), .inl (pT g), .inl (pT g), .inl (iN (m - r)), .inl (iN i), .inl (iN ((m - r) + i)), (.inr (fun v => .agg #[nv (wgZ a b r m ((m - r + i : Nat) : Int)) v], fun v w => NatNew wd6.heap.size w (nv (wgZ a b r m ((m - r + i : Nat) : Int)) v) (wgZ a b r m ((m - r + i : Nat) : Int))) : Spec), (.inr (fun v => .slice (pOf v) 2 2, fun v w => RowNs w (pOf v) [toN a b r m i, wgZ a b r m ((m - r + i : Nat) : Int)]) : Spec), (.inr (fun v => .agg #[nv (toN a b r m (i + 1)) v], fun v w => NatNew wd6.heap.size w (nv (toN a b r m (i + 1)) v) (toN a b r m (i + 1))) : Spec)] [some (b_ 0), some (o_), some (o_), some (u_ 1 (iN (m - r))), some (o_), some (o_), none, some (o_), none] [18, 4, 7, 6, 3, 2, 0] (fun lx wq => [(bs = bs ∧ (#[nv (toN a b r m i) v] : Array Value).size = 1 ∧ aG #[nv (toN a b r m i) v] = aG #[nv (toN a b r m i) v]), (pT g = pT g), (pT g = pT g), (CallP Try.prog 15 [pT g] ((bs, oC #[nv (toN a b r m i) v] 76) :: (br, oC #[.slice none 0 0] 76) :: O1) (iN (m - r)) ∧ iN (m - r) = iN (m - r)), (iN i = iN i), ((m - r) + i < 9223372036854775808 ∧ iN ((m - r) + i) = iN ((m - r) + i)), (CallQ Try.prog 47 [pT g, iN ((m - r) + i)] wq (.inr (fun v => .agg #[nv (wgZ a b r m ((m - r + i : Nat) : Int)) v], fun v w => NatNew wd6.heap.size w (nv (wgZ a b r m ((m - r + i : Nat) : Int)) v) (wgZ a b r m ((m - r + i : Nat) : Int))) : Spec)), (NatNew wd6.heap.size wq (nv (wgZ a b r m ((m - r + i : Nat) : Int)) (lx 6)) (wgZ a b r m ((m - r + i : Nat) : Int)) → (∀ w', Below wq.heap.size wq w' → w'.heap[wq.heap.size]? = some (oC #[nv (toN a b r m i) v, nv (wgZ a b r m ((m - r + i : Nat) : Int)) (lx 6)] 76) → ∃ y, Value.slice (some ⟨wq.heap.size, 0, none⟩) 2 2 = (fun v => .slice (pOf v) 2 2) y ∧ RowNs w' (pOf y) [toN a b r m i, wgZ a b r m ((m - r + i : Nat) : Int)])), (RowNs wq (pOf (lx 7)) [toN a b r m i, wgZ a b r m ((m - r + i : Nat) : Int)] → NatNew wd6.heap.size wq (nv (wgZ a b r m ((m - r + i : Nat) : Int)) (lx 6)) (wgZ a b r m ((m - r + i : Nat) : Int)) → CallQ Try.prog 46 [.slice (pOf (lx 7)) 2 2] wq (.inr (fun v => .agg #[nv (toN a b r m (i + 1)) v], fun v w => NatNew wd6.heap.size w (nv (toN a b r m (i + 1)) v) (toN a b r m (i + 1))) : Spec))]) (fun lx => [(18, aG #[nv (toN a b r m (i + 1)) (lx 8)]), (4, iN i), (7, iN i), (6, iN (2 * r + 1)), (3, pT bs), (2, pT br), (0, pT g)]) (by kernel_rfl) (by kernel_rfl) (by kernel_rfl) ⟨(fun v w w1 => natNew_st _ _ (nv _ v) w w1), (rowNs_st [toN a b r m i, wgZ a b r m ((m - r + i : Nat) : Int)]), (fun v w w1 => natNew_st _ _ (nv _ v) w w1), trivial⟩ (fun _ _ => by kernel_rfl) (fun _ => by kernel_rfl) (fun lx wq hB9 hH9 => ⟨(⟨rfl, rfl, rfl⟩), (rfl), (rfl), (⟨⟨en_kleast, fun w Hw => kleast_any g a b r m hk w (hK1.at (Has.tl (Has.tl Hw)))⟩, rfl⟩), (rfl), (⟨by omega, rfl⟩), (⟨en_kweight, (kweight_any g a b r m hk ((m - r + i : Nat) : Int) (by omega) (by omega) wq (hK1.at (Has.tl (Has.tl hH9)))).mono fun _ _ ⟨v, h1, h2, h3⟩ => ⟨v, h1, h2, h3.mono hB9.size⟩⟩), (fun h6_0 => fun w' hb hh => ⟨.slice (some ⟨wq.heap.size, 0, none⟩) 2 2, rfl, _, nats2 hh (((hN1.get 0 rfl).at (Has.tl (Has.tl hH9))).keep hb) (h6_0.1.keep hb)⟩), (fun h7_0 h6_1 => ⟨en_nadd, (nadd2r (toN a b r m i) (wgZ a b r m ((m - r + i : Nat) : Int)) (b100 (by have := to_le hk i; have := wg_le hk ((m - r + i : Nat) : Int); omega) : (toN a b r m i) + (wgZ a b r m ((m - r + i : Nat) : Int)) < 18446744073709551616 ^ 100) wq h7_0).mono fun _ _ ⟨v, h1, h2, h3⟩ => ⟨v, h1, h2, h3.mono hB9.size⟩⟩), trivial⟩) (fun lx ac7 wd7 hx8 hB9 FF7 MM7 => ?_)
    obtain ⟨hl6, hl7, hl8, -⟩ := hx8
    generalize lx 6 = lv11 at *
    generalize lx 7 = lv12 at *
    generalize lx 8 = lv13 at *
    have hfrw : ∀ g, (nv (toN a b r m (i + 1)) lv13).ownBlock = some g → w0.heap.size ≤ g := fun g hg => Nat.le_trans h0w (hl8.2 g hg)
    obtain ⟨O14, MM150, hN16, hs17⟩ := MemS.addNatsT (K := [(bs, oC #[nv (toN a b r m i) v] 76), (br, oC #[.slice none 0 0] 76)]) (O := O1) MM6 MM7 rfl hl8 hN1
    have MM15 : MemS (fun k => k < w0.heap.size ∧ ∀ x ∈ O, x.1 ≠ k) w0 wd7 ((bs, oC #[nv (toN a b r m i) v] 76) :: (br, oC #[.slice none 0 0] 76) :: O14) [] := MM150
    have hK_18 := hK1.mono hs17
    have hz19 : ∀ x ∈ O, x ∈ O14 := fun x hx => hs17 x (hsb x hx)
    have hN9 : Nats O14 [((nv (toN a b r m (i + 1)) lv13), toN a b r m (i + 1))] := .cons (hN16.get 0 rfl) (.nil _)
    refine rp_c 1 FF7 MM15 [(0, b_ 0)] 8 [] [] (⟨rfl, rfl, rfl, (by kernel_rfl), rfl, fun _ _ FF20 MM20 => ?_⟩)
    refine wpl_nil ?_
    refine inb_n (then_n ?_)
    refine rg_c FF20 MM20 [] 8 [] [] (⟨by omega, fun _ _ FF21 MM21 => ?_⟩)
    have hd := cnt_of (FF21.get 0 rfl)
    refine then_n ⟨⟨O14, i + 1, lv13, by omega, hz19, hN9, hfrw, FF21.pick [0, 2, 3, 4, 5], MM21⟩, ?_⟩
    rw [hc, hd]; omega
  · skip
    refine then_n (.inr ⟨(FF5.ev 0 rfl).trans (dec_f hlt), ?_⟩)
    obtain rfl : i = 2 * r + 1 := by omega
    refine then_n ?_
    refine wp_seq (rg_c FF5 MM5 [(0, b_ 0), (0, b_ 1)] 8 [] [] (⟨rfl, rfl, rfl, rfl, rfl, (by kernel_rfl), rfl, fun _ _ FF22 MM22 => then_n ?_⟩))
    refine wp_ret ?_
    repeat first | refine then_ret ?_ | refine inb_ret ?_
    exact (retc FF22 MM22 (k := 1) (i := 1) (j := 3) Try.results31 rfl rfl Try.underlying76 rfl (by kernel_rfl) rfl ⟨v, rfl, MM22.belowN H (fun _ hx => List.mem_cons_of_mem _ (List.mem_cons_of_mem _ (hsb _ hx))), ⟨(hN1.get 0 rfl).at (Has.tl (Has.tl MM22.hasL)), hfr⟩⟩)
theorem ktotal_any (g : Nat) (a b r m : Nat) (hk : TOk a b r m) (w0 : World) (hg : w0.heap[g]? = some (KB a b r m)) : Calls Try.prog 31 #[pT g] w0 fun e w' => ∃ v, e = .returned (.agg #[nv (toN a b r m (2 * r + 1)) v]) ∧ Below w0.heap.size w0 w' ∧ NatNew w0.heap.size w' (nv (toN a b r m (2 * r + 1)) v) (toN a b r m (2 * r + 1)) := by
  obtain ⟨O, h1, h2, h3⟩ := kone_O hg
  exact ktotal_O O h2 g a b r m hk h3 w0 h1
set_option maxRecDepth 100000 in
theorem kat_O (O : Blks) (hD : Distinct O) (g : Nat) (a b r m : Nat) (hk : TOk a b r m) (hK : KO O g a b r m) (N : Nat) (y : Value) (hW : NatO O (nv N y) N) (hs : qsz N < 1000000) (w0 : World) (H : Has w0 O) :
    Calls Try.prog 32 #[pT g, .agg #[nv N y]] w0 fun e w' => e = .returned (.tuple #[iN (aN a b r m N), .bool (decide (N < toN a b r m (2 * r + 1)))]) ∧ Below w0.heap.size w0 w' := by
  refine enter_fr Try.func32 rfl Try.ntmps32 (by simp) fun ac (FF : Fr 30 ac [(0, pT g), (1, aG #[nv N y])]) => ?_
  have MM : MemS (fun k => k < w0.heap.size ∧ ∀ x ∈ O, x.1 ≠ k) w0 w0 O [] := MemS.startN H hD
  have ⟨k1, k2, k3, k4, k5⟩ := hk
  refine wp_seq (rg_c FF MM [] 6 [] [1] (fun bx => fun _ _ FF1 MM1 => then_n ?_))
  refine wp_seq (rg_c FF1 MM1 [] 7 [] [] (fun bs => fun _ _ FF2 MM2 => then_n ?_))
  refine wp_seq ?_
  refine wp_seq (rg_c FF2 MM2 [(1, u_ 1 (iN (2 * r + 1)))] 12 [] [9] (⟨⟨en_kcount, fun w Hw => kcount_any g a b r m hk w (hK.at (Has.tl (Has.tl Hw)))⟩, fun _ _ FF3 MM3 => then_n ?_⟩))
  refine wp_for (fun a' w' => ∃ O1 : Blks, ∃ i : Nat, ∃ v : Value, i ≤ 2 * r + 1 ∧ (∀ x ∈ O, x ∈ O1) ∧ Nats O1 [((nv (toN a b r m i) v), toN a b r m i)] ∧ (∀ g, (nv (toN a b r m i) v).ownBlock = some g → w0.heap.size ≤ g) ∧ toN a b r m i ≤ N ∧ Fr 30 a' [(11, iN i), (10, iN (2 * r + 1)), (6, pT bs), (3, pT bx), (0, pT g)] ∧ MemS (fun k => k < w0.heap.size ∧ ∀ x ∈ O, x.1 ≠ k) w0 w' ((bs, oC #[nv (toN a b r m i) v] 76) :: (bx, oC #[nv N y] 76) :: O1) []) (fun a' _ => (2 * r + 1 - cnt 11 a').toNat) ⟨O, 0, (.slice none 0 0), Nat.zero_le _, fun _ h => h, .cons (natO_nil O) (.nil _), (fun g hg => by cases hg), Nat.zero_le _, FF3.pick [0, 1, 2, 5, 6], MM3⟩ ?_
  rintro ac4 wd4 ⟨O1, i, v, hi, hsb, hN1, hfr, hle, FF4, MM4⟩
  have hK1 := hK.mono hsb
  have hN2 : Nats O1 [((nv (toN a b r m i) v), toN a b r m i), ((nv N y), N)] := .cons (hN1.get 0 rfl) (.cons (hW.mono hsb) (.nil _))
  have hc := cnt_of (FF4.get 0 rfl)
  refine rg_c FF4 MM4 [] 13 [] [] (fun _ _ FF5 MM5 => ?_)
  by_cases hlt : i < (2 * r + 1)
  · skip
    refine then_n (.inl ⟨(FF5.ev 0 rfl).trans (dec_t hlt), ?_⟩)
    have hi9 : i ≤ 8 := by omega
    refine wp_seq (rg_c FF5 MM5 [] 12 [] [] (fun _ _ FF6 MM6 => then_n ?_))
    refine wp_seq (rg_c FF6 MM6 [(1, u_ 1 (iN (m - r)))] 12 [] [] (⟨⟨en_kleast, fun w Hw => kleast_any g a b r m hk w (hK1.at (Has.tl (Has.tl Hw)))⟩, by omega, fun _ wd7 FF7 MM7 => then_n ?_⟩))
    have h0w := MM7.size
    refine wp_seq (rg_pred FF7 MM7 [.inl (aG #[nv (toN a b r m i) v]), .inl (pT g), .inl (iN ((m - r) + i)), (.inr (fun v => .agg #[nv (wgZ a b r m ((m - r + i : Nat) : Int)) v], fun v w => NatNew wd7.heap.size w (nv (wgZ a b r m ((m - r + i : Nat) : Int)) v) (wgZ a b r m ((m - r + i : Nat) : Int))) : Spec), (.inr (fun v => .slice (pOf v) 2 2, fun v w => RowNs w (pOf v) [toN a b r m i, wgZ a b r m ((m - r + i : Nat) : Int)]) : Spec), (.inr (fun v => .agg #[nv (toN a b r m (i + 1)) v], fun v w => NatNew wd7.heap.size w (nv (toN a b r m (i + 1)) v) (toN a b r m (i + 1))) : Spec)] [some (b_ 0), some (o_), some (o_), none, some (o_), none] [23, 8, 7, 11, 10, 6, 3, 0] (fun lx wq => [(bs = bs ∧ (#[nv (toN a b r m i) v] : Array Value).size = 1 ∧ aG #[nv (toN a b r m i) v] = aG #[nv (toN a b r m i) v]), (pT g = pT g), (iN ((m - r) + i) = iN ((m - r) + i)), (CallQ Try.prog 47 [pT g, iN ((m - r) + i)] wq (.inr (fun v => .agg #[nv (wgZ a b r m ((m - r + i : Nat) : Int)) v], fun v w => NatNew wd7.heap.size w (nv (wgZ a b r m ((m - r + i : Nat) : Int)) v) (wgZ a b r m ((m - r + i : Nat) : Int))) : Spec)), (NatNew wd7.heap.size wq (nv (wgZ a b r m ((m - r + i : Nat) : Int)) (lx 3)) (wgZ a b r m ((m - r + i : Nat) : Int)) → (∀ w', Below wq.heap.size wq w' → w'.heap[wq.heap.size]? = some (oC #[nv (toN a b r m i) v, nv (wgZ a b r m ((m - r + i : Nat) : Int)) (lx 3)] 76) → ∃ y, Value.slice (some ⟨wq.heap.size, 0, none⟩) 2 2 = (fun v => .slice (pOf v) 2 2) y ∧ RowNs w' (pOf y) [toN a b r m i, wgZ a b r m ((m - r + i : Nat) : Int)])), (RowNs wq (pOf (lx 4)) [toN a b r m i, wgZ a b r m ((m - r + i : Nat) : Int)] → NatNew wd7.heap.size wq (nv (wgZ a b r m ((m - r + i : Nat) : Int)) (lx 3)) (wgZ a b r m ((m - r + i : Nat) : Int)) → CallQ Try.prog 46 [.slice (pOf (lx 4)) 2 2] wq (.inr (fun v => .agg #[nv (toN a b r m (i + 1)) v], fun v w => NatNew wd7.heap.size w (nv (toN a b r m (i + 1)) v) (toN a b r m (i + 1))) : Spec))]) (fun lx => [(23, aG #[nv (toN a b r m (i + 1)) (lx 5)]), (8, iN ((m - r) + i)), (7, iN i), (11, iN i), (10, iN (2 * r + 1)), (6, pT bs), (3, pT bx), (0, pT g)]) (by kernel_rfl) (by kernel_rfl) (by kernel_rfl) ⟨(fun v w w1 => natNew_st _ _ (nv _ v) w w1), (rowNs_st [toN a b r m i, wgZ a b r m ((m - r + i : Nat) : Int)]), (fun v w w1 => natNew_st _ _ (nv _ v) w w1), trivial⟩ (fun _ _ => by kernel_rfl) (fun _ => by kernel_rfl) (fun lx wq hB9 hH9 => ⟨(⟨rfl, rfl, rfl⟩), (rfl), (rfl), (⟨en_kweight, (kweight_any g a b r m hk ((m - r + i : Nat) : Int) (by omega) (by omega) wq (hK1.at (Has.tl (Has.tl hH9)))).mono fun _ _ ⟨v, h1, h2, h3⟩ => ⟨v, h1, h2, h3.mono hB9.size⟩⟩), (fun h3_0 => fun w' hb hh => ⟨.slice (some ⟨wq.heap.size, 0, none⟩) 2 2, rfl, _, nats2 hh (((hN2.get 0 rfl).at (Has.tl (Has.tl hH9))).keep hb) (h3_0.1.keep hb)⟩), (fun h4_0 h3_1 => ⟨en_nadd, (nadd2r (toN a b r m i) (wgZ a b r m ((m - r + i : Nat) : Int)) (b100 (by have := to_le hk i; have := wg_le hk ((m - r + i : Nat) : Int); omega) : (toN a b r m i) + (wgZ a b r m ((m - r + i : Nat) : Int)) < 18446744073709551616 ^ 100) wq h4_0).mono fun _ _ ⟨v, h1, h2, h3⟩ => ⟨v, h1, h2, h3.mono hB9.size⟩⟩), trivial⟩) (fun lx ac8 wd8 hx9 hB10 FF8 MM8 => ?_))
    obtain ⟨hl3, hl4, hl5, -⟩ := hx9
    generalize lx 3 = lv12 at *
    generalize lx 4 = lv13 at *
    generalize lx 5 = lv14 at *
    have hfrw : ∀ g, (nv (toN a b r m (i + 1)) lv14).ownBlock = some g → w0.heap.size ≤ g := fun g hg => Nat.le_trans h0w (hl5.2 g hg)
    obtain ⟨O15, MM160, hN17, hs18⟩ := MemS.addNatsT (K := [(bs, oC #[nv (toN a b r m i) v] 76), (bx, oC #[nv N y] 76)]) (O := O1) MM7 MM8 rfl hl5 hN2
    have MM16 : MemS (fun k => k < w0.heap.size ∧ ∀ x ∈ O, x.1 ≠ k) w0 wd8 ((bs, oC #[nv (toN a b r m i) v] 76) :: (bx, oC #[nv N y] 76) :: O15) [] := MM160
    have hK_19 := hK1.mono hs18
    have hz20 : ∀ x ∈ O, x ∈ O15 := fun x hx => hs18 x (hsb x hx)
    have hN9 : Nats O15 [((nv (toN a b r m (i + 1)) lv14), toN a b r m (i + 1))] := .cons (hN17.get 0 rfl) (.nil _)
    refine rp_c 1 FF8 MM16 [(0, b_ 0)] 12 [] [] (⟨rfl, rfl, rfl, (by kernel_rfl), rfl, fun _ _ FF21 MM21 => ?_⟩)
    refine wpl_nil (then_n ?_)
    by_cases h4 : N < toN a b r m (i + 1)
    · skip
      refine wp_seq (rg_c FF21 MM21 [(0, b_ 1), (0, b_ 0), (0, u_ 1 (.int .i64 (cmpN N (toN a b r m (i + 1)) : Int))), (0, u_ 4 (.bool true))] 12 [27] [] (⟨rfl, rfl, rfl, rfl, ⟨en_ncmp, fun w Hw => ncmp_any N y hs (toN a b r m (i + 1)) lv14 w ((hN17.get 2 rfl).at (Has.tl (Has.tl Hw))) ((hN17.get 0 rfl).at (Has.tl (Has.tl Hw)))⟩, (dec_t ((cmp_neg _ _).2 h4)), fun _ _ FF22 MM22 => then_n ?_⟩))
      refine wp_cond_true (FF22.ev 0 rfl) ?_
      refine wp_seq (rg_c FF22 MM22 [] 12 [] [] (fun _ _ FF23 MM23 => then_n ?_))
      refine wp_ret ?_
      repeat first | refine then_ret ?_ | refine inb_ret ?_
      exact (ret_tup2 FF23 1 0 Try.results32 rfl rfl (by rw [a_yes (by omega) hle h4, decide_eq_true (atw_lt (by omega) h4)]; exact ⟨rfl, MM23.belowN H (fun _ hx => List.mem_cons_of_mem _ (List.mem_cons_of_mem _ (hz20 _ hx)))⟩))
    · skip
      refine wp_seq (rg_c FF21 MM21 [(0, b_ 1), (0, b_ 0), (0, u_ 1 (.int .i64 (cmpN N (toN a b r m (i + 1)) : Int))), (0, u_ 4 (.bool false))] 12 [27] [] (⟨rfl, rfl, rfl, rfl, ⟨en_ncmp, fun w Hw => ncmp_any N y hs (toN a b r m (i + 1)) lv14 w ((hN17.get 2 rfl).at (Has.tl (Has.tl Hw))) ((hN17.get 0 rfl).at (Has.tl (Has.tl Hw)))⟩, (dec_f (fun h => h4 ((cmp_neg _ _).1 h))), fun _ _ FF24 MM24 => then_n ?_⟩))
      refine wp_cond_false (FF24.ev 0 rfl) ?_
      refine wp_skip ?_
      refine inb_n (then_n ?_)
      refine rg_c FF24 MM24 [] 12 [] [] (⟨by omega, fun _ _ FF25 MM25 => ?_⟩)
      have hd := cnt_of (FF25.get 0 rfl)
      refine then_n ⟨⟨O15, i + 1, lv14, by omega, hz20, hN9, hfrw, Nat.le_of_not_lt h4, FF25.pick [0, 3, 4, 5, 6], MM25⟩, ?_⟩
      rw [hc, hd]; omega
  · skip
    refine then_n (.inr ⟨(FF5.ev 0 rfl).trans (dec_f hlt), ?_⟩)
    obtain rfl : i = 2 * r + 1 := by omega
    refine then_n ?_
    refine wp_seq (rg_c FF5 MM5 [] 12 [] [] (fun _ _ FF26 MM26 => then_n ?_))
    refine wp_ret ?_
    repeat first | refine then_ret ?_ | refine inb_ret ?_
    exact (ret_tup2 FF26 1 0 Try.results32 rfl rfl (by rw [a_no hle, decide_eq_false (Nat.not_lt.2 hle)]; exact ⟨rfl, MM26.belowN H (fun _ hx => List.mem_cons_of_mem _ (List.mem_cons_of_mem _ (hsb _ hx)))⟩))
theorem katone_O {w : World} {g a b r m N : Nat} {y : Value} (hg : w.heap[g]? = some (KB a b r m)) (hN : NatIn w (nv N y) N) : ∃ O : Blks, Has w O ∧ Distinct O ∧ KO O g a b r m ∧ NatO O (nv N y) N := by
  obtain ⟨O, h1, h2, h3, h4⟩ := nats_O [(nv N y, N)] (fun x hx => by simp at hx; subst hx; exact hN) [(g, KB a b r m)] (one_has hg) (by simp)
  exact ⟨O, h1, distinct_of h2, h4 _ (by simp), h3.get 0 rfl⟩
theorem kat_any (g : Nat) (a b r m : Nat) (hk : TOk a b r m) (N : Nat) (y : Value) (hs : qsz N < 1000000) (w0 : World) (hg : w0.heap[g]? = some (KB a b r m)) (hN : NatIn w0 (nv N y) N) : Calls Try.prog 32 #[pT g, .agg #[nv N y]] w0 fun e w' => e = .returned (.tuple #[iN (aN a b r m N), .bool (decide (N < toN a b r m (2 * r + 1)))]) ∧ Below w0.heap.size w0 w' := by
  obtain ⟨O, h1, h2, h3, h4⟩ := katone_O hg hN
  exact kat_O O h2 g a b r m hk h3 N y h4 hs w0 h1
end Go.Proofs.Ythgfjeljfiadmaa
namespace Go.Proofs.Ythgfjeljfiadmaa
open Go.RowKit
set_option maxRecDepth 100000 in
theorem kratio_yes (p q : Int) (h : 1 ≤ q ∧ q < p ∧ p ≤ 16) (_p1 : -9223372036854775808 ≤ p) (_p2 : p < 9223372036854775808) (_q1 : -9223372036854775808 ≤ q) (_q2 : q < 9223372036854775808) (w0 : World) :
    Calls Try.prog 33 #[.int .i64 p, .int .i64 q] w0 fun e w' => e = .returned (.bool true) ∧ Below w0.heap.size w0 w' := by
  refine enter_fr Try.func33 rfl Try.ntmps33 (by simp) fun ac (FF : Fr 16 ac [(0, .int .i64 (p : Int)), (1, .int .i64 (q : Int))]) => ?_
  have MM := MemS.start w0
  obtain ⟨h1, h2, h3⟩ := h
  refine wp_seq (rg_c FF MM [] 5 [] [] (fun _ _ FF1 MM1 => then_n ?_))
  refine wp_seq (rg_c FF1 MM1 [(1, w_ 6), (3, w_ 6), (3, w_ 6)] 0 [4] [] (⟨by omega, by omega, by omega, fun _ _ FF2 MM2 => then_n ?_⟩))
  refine wp_ret ?_
  repeat first | refine then_ret ?_ | refine inb_ret ?_
  exact (ret_fr FF2 0 Try.results33 rfl ⟨rfl, MM2.below⟩)
set_option maxRecDepth 100000 in
theorem kspan_yes (p q : Int) (h : 0 ≤ p ∧ p ≤ q ∧ q + p ≤ 8) (_p1 : -9223372036854775808 ≤ p) (_p2 : p < 9223372036854775808) (_q1 : -9223372036854775808 ≤ q) (_q2 : q < 9223372036854775808) (w0 : World) :
    Calls Try.prog 34 #[.int .i64 p, .int .i64 q] w0 fun e w' => e = .returned (.bool true) ∧ Below w0.heap.size w0 w' := by
  refine enter_fr Try.func34 rfl Try.ntmps34 (by simp) fun ac (FF : Fr 18 ac [(0, .int .i64 (p : Int)), (1, .int .i64 (q : Int))]) => ?_
  have MM := MemS.start w0
  obtain ⟨h1, h2, h3⟩ := h
  refine wp_seq (rg_c FF MM [] 5 [] [] (fun _ _ FF1 MM1 => then_n ?_))
  refine wp_seq (rg_c FF1 MM1 [(1, w_ 6), (3, w_ 6), (4, u_ 4 (.int .i64 (8 - p : Int))), (0, w_ 6)] 0 [4] [] (⟨by omega, by omega, by omega, by omega, (vZ (by omega)), by omega, fun _ _ FF2 MM2 => then_n ?_⟩))
  refine wp_ret ?_
  repeat first | refine then_ret ?_ | refine inb_ret ?_
  exact (ret_fr FF2 0 Try.results34 rfl ⟨rfl, MM2.below⟩)
/-- A table that was made. -/
def NewK (a b r m : Nat) (w w' : World) (v : Value) : Prop := ∃ g, v = pT g ∧ Below w.heap.size w w' ∧ w.heap.size ≤ g ∧ w'.heap[g]? = some (KB a b r m)
set_option maxRecDepth 100000 in
theorem knew_yes (a b r m : Nat) (hk : TOk a b r m) (w0 : World) : Calls Try.prog 21 #[iN a, iN b, iN r, iN m] w0 fun e w' => ∃ v, e = .returned (.tuple #[v, iN 0]) ∧ NewK a b r m w0 w' v := by
  have ⟨k1, k2, k3, k4, k5⟩ := hk
  refine enter_fr Try.func21 rfl Try.ntmps21 (by simp) fun ac (FF : Fr 26 ac [(0, iN a), (1, iN b), (2, iN r), (3, iN m)]) => ?_
  have MM := MemS.start w0
  refine wp_seq (rg_c FF MM [] 9 [9] [] (fun _ _ FF1 MM1 => then_n ?_))
  refine wp_seq ?_
  refine wp_seq (rg_c FF1 MM1 [(2, t_ (.bool true)), (4, t_ (.bool true))] 10 [19] [] (⟨(callP_of en_kratio (kratio_yes ((a : Nat) : Int) ((b : Nat) : Int) ⟨by omega, by omega, by omega⟩ (by omega) (by omega) (by omega) (by omega)) _), (callP_of en_kspan (kspan_yes ((r : Nat) : Int) ((m : Nat) : Int) ⟨by omega, by omega, by omega⟩ (by omega) (by omega) (by omega) (by omega)) _), fun _ _ FF2 MM2 => then_n ?_⟩))
  refine wp_cond_false (FF2.ev 0 rfl) ?_
  refine wp_skip ?_
  refine then_n ?_
  refine wp_seq (rg_c FF2 MM2 [(4, t_ (aG #[iN a, iN b, iN r, iN m]))] 9 [9] [] (⟨(by kernel_rfl), fun bt => fun _ _ FF3 MM3 => then_n ?_⟩))
  refine wp_ret ?_
  repeat first | refine then_ret ?_ | refine inb_ret ?_
  exact (ret_tup2 FF3 1 0 Try.results21 rfl rfl ⟨_, rfl, bt, rfl, MM3.below, MM3.fresh 0 rfl, MM3.get 0 rfl⟩)
theorem en_lawOf : Enters Try.prog 9 := fun args w => by simp [go_sem]
set_option maxRecDepth 100000 in
theorem kof_yes (a b r m : Nat) (hk : TOk a b r m) (w0 : World) : Calls Try.prog 9 #[.agg #[iN a, iN b, iN r, iN m]] w0 fun e w' => ∃ v, e = .returned (.tuple #[v, iN 0]) ∧ NewK a b r m w0 w' v := by
  refine enter_fr Try.func9 rfl Try.ntmps9 (by simp) fun ac (FF : Fr 15 ac [(0, aG #[iN a, iN b, iN r, iN m])]) => ?_
  have MM := MemS.start w0
  refine wp_seq (rg_c FF MM [] 4 [] [0] (fun bq => fun _ _ FF1 MM1 => then_n ?_))
  refine wp_seq (wp_region_list ?_)
  refine rp_c 8 FF1 MM1 [(1, l_ 0 (iN a)), (1, l_ 0 (iN b)), (1, l_ 0 (iN r)), (1, l_ 0 (iN m))] 4 [5, 7, 9, 11] [1] (⟨rfl, rfl, rfl, rfl, rfl, rfl, rfl, rfl, fun _ _ FF2 MM2 => ?_⟩)
  refine st_callE [3, 2, 12] FF2 (d := 12) (mk := fun v => .tuple #[v, iN 0]) en_knew rfl rfl (knew_yes a b r m hk _) rfl (by kernel_rfl) (by decide) fun ac4 wd4 lv3 FF4 hr5 => ?_
  obtain ⟨gk, rfl, hB_gk, hf_gk, hb_gk⟩ := hr5
  have MM6 := MM2.keep hB_gk
  have MM7 : MemS (fun k => k < w0.heap.size) w0 wd4 [(gk, oC #[iN a, iN b, iN r, iN m] 65), (bq, oC #[iN a, iN b, iN r, iN m] 25)] [] := MM2.addFresh MM6 hb_gk hf_gk
  refine rp_c 4 FF4 MM7 [] 4 [] [] (fun _ _ FF8 MM8 => ?_)
  refine wpl_nil (then_n ?_)
  refine wp_ret ?_
  repeat first | refine then_ret ?_ | refine inb_ret ?_
  exact (ret_tup2 FF8 1 0 Try.results9 rfl rfl ⟨_, rfl, gk, rfl, MM8.below, MM8.fresh 0 rfl, MM8.get 0 rfl⟩)
end Go.Proofs.Ythgfjeljfiadmaa
namespace Go.Proofs.Ythgfjeljfiadmaa
open Go.RowKit
theorem MemS.apartO {S : Nat → Prop} {w0 w : World} {K O : Blks} {R : List Row} {g : Nat} {ob : Obj} (M : MemS S w0 w (K ++ O) R) (i : Nat) (hi : K[i]? = some (g, ob)) : ∀ x ∈ O, x.1 ≠ g := fun x hx => by
  obtain ⟨j, hj⟩ := List.mem_iff_getElem?.1 hx
  have hl : i < K.length := by
    rcases Nat.lt_or_ge i K.length with h | h
    · exact h
    · rw [List.getElem?_eq_none h] at hi; cases hi
  exact M.apart (K.length + j) i x (g, ob) (by rw [List.getElem?_append_right (Nat.le_add_right _ _), Nat.add_sub_cancel_left]; exact hj) (by rw [List.getElem?_append_left hl]; exact hi) (by omega)
/-- What is drawn under all weights together. -/
def uN (a b r m k : Nat) (X : List Nat) : Nat × Nat × Nat := undN (toN a b r m (2 * r + 1)) (bsz (toN a b r m (2 * r + 1))) k X
/-- The number that is drawn. -/
def drN (a b r m k : Nat) (X : List Nat) : Nat := if (uN a b r m k X).2.1 = 0 then aN a b r m (uN a b r m k X).1 else 0
theorem tot_small {a b r m : Nat} (hk : TOk a b r m) : toN a b r m (2 * r + 1) < 1048576 := to_small hk (by have := hk.2.2.2.1; have := hk.2.2.2.2; omega)
theorem tot_b1 {a b r m : Nat} (hk : TOk a b r m) : 1 ≤ bsz (toN a b r m (2 * r + 1)) := bsz_pos (by have := to_pos hk; omega)
theorem tot_b2 {a b r m : Nat} (hk : TOk a b r m) : bsz (toN a b r m (2 * r + 1)) ≤ 20 := bsz_le (tot_small hk)
theorem tot_q {a b r m : Nat} (hk : TOk a b r m) : qsz (toN a b r m (2 * r + 1)) < 1000000 := qok (b100 (Nat.lt_trans (tot_small hk) (by decide)))
theorem un_q {a b r m k : Nat} {X : List Nat} (hk : TOk a b r m) : qsz (undN (toN a b r m (2 * r + 1)) (bsz (toN a b r m (2 * r + 1))) k X).1 < 1000000 := qok (Nat.lt_of_lt_of_le (und_lt (bsz_ok _).1 k X) (Nat.le_trans (Nat.pow_le_pow_right (by decide) (tot_b2 hk)) (by decide +kernel)))
set_option maxRecDepth 100000 in
theorem kdraw_O (gk g : Nat) (a b r m : Nat) (hk : TOk a b r m) (X : List Nat) (u : Nat) (hX : ∀ i, X.getD i 0 < 256) (hu : u < 4611686018427000000) (k : Nat) (hk1 : 1 ≤ k) (hk2 : k ≤ 16) (O : Blks) (hK : KO O gk a b r m) (w0 : World) (H : Has w0 ((g, TB X u) :: O)) (hD : Distinct ((g, TB X u) :: O)) :
    Calls Try.prog 19 #[pT gk, pT g, iN k] w0 fun e w' => e = .returned (.tuple #[iN (drN a b r m k X), iN ((uN a b r m k X).2.1)]) ∧ Turn g (TB (X.drop (uN a b r m k X).2.2) (u + (uN a b r m k X).2.2)) w0 w' := by
  have ⟨k1, k2, k3, k4, k5⟩ := hk
  refine enter_fr Try.func19 rfl Try.ntmps19 (by simp) fun ac (FF : Fr 30 ac [(0, pT gk), (1, pT g), (2, iN k)]) => ?_
  have MM : MemS (fun k => k < w0.heap.size ∧ ∀ x ∈ (g, oC #[sB X, iN u] 56) :: O, x.1 ≠ k) w0 w0 ((g, oC #[sB X, iN u] 56) :: O) [] := MemS.startN H hD
  refine wp_seq (rg_c FF MM [] 8 [] [] (fun _ _ FF1 MM1 => then_n ?_))
  refine wp_seq (wp_region_list ?_)
  refine rp_c 2 FF1 MM1 [] 15 [] [1] (fun _ _ FF2 MM2 => ?_)
  refine st_callE [13, 7, 6, 0, 2, 15] FF2 (d := 15) (mk := fun v => .agg #[nv (toN a b r m (2 * r + 1)) v]) en_ktotal rfl rfl (ktotal_any gk a b r m hk _ (hK.at (Has.tl MM2.hasL))) rfl (by kernel_rfl) (by decide) fun ac4 wd4 lv3 FF4 hr5 => ?_
  have hfr6 : ∀ g, (nv (toN a b r m (2 * r + 1)) lv3).ownBlock = some g → w0.heap.size ≤ g := fun g hg => Nat.le_trans MM2.size (hr5.2.2 g hg)
  obtain ⟨O7, MM80, hN9, hs10⟩ := MemS.addNats (K := [(g, oC #[sB X, iN u] 56)]) (O := O) MM2 hr5.1 hr5.2 (Nats.nil O)
  have MM8 : MemS (fun k => k < w0.heap.size ∧ ∀ x ∈ (g, oC #[sB X, iN u] 56) :: O, x.1 ≠ k) w0 wd4 ((g, oC #[sB X, iN u] 56) :: O7) [] := MM80
  have hK_11 := hK.mono hs10
  refine rp_c 1 FF4 MM8 [] 17 [] [2] (fun _ wd12 FF12 MM12 => ?_)
  refine st_callE [7, 6, 0, 17] FF12 (d := 17) (mk := fun v => .tuple #[.agg #[nv ((undN (toN a b r m (2 * r + 1)) (bsz (toN a b r m (2 * r + 1))) k X).1) v], iN ((undN (toN a b r m (2 * r + 1)) (bsz (toN a b r m (2 * r + 1))) k X).2.1)]) en_tunder rfl rfl (by have h0 := tunder_any g X u hX (by omega) (toN a b r m (2 * r + 1)) lv3 k (tot_b1 hk) (Nat.le_trans (tot_b2 hk) (by decide)) hk1 hk2 wd12 (MM12.get 0 rfl) ((hN9.get 0 rfl).at (Has.tl MM12.hasL)) (natO_ne (hN9.get 0 rfl) (MemS.apartO (K := [(g, oC #[sB X, iN u] 56)]) MM12 0 rfl)); exact h0) rfl (by kernel_rfl) (by decide) fun ac14 wd14 lv13 FF14 hr15 => ?_
  obtain ⟨ht9, hn9⟩ := hr15
  have MM16 : MemS (fun k => k < w0.heap.size ∧ ∀ x ∈ (g, oC #[sB X, iN u] 56) :: O, x.1 ≠ k) w0 wd14 ((g, oC #[sB (X.drop (undN (toN a b r m (2 * r + 1)) (bsz (toN a b r m (2 * r + 1))) k X).2.2), iN (u + (undN (toN a b r m (2 * r + 1)) (bsz (toN a b r m (2 * r + 1))) k X).2.2)] 56) :: O7) [] := MM12.turnAt ht9 0 rfl
  obtain ⟨O17, MM180, hN19, hs20⟩ := MemS.addNatsT (K := [(g, oC #[sB (X.drop (undN (toN a b r m (2 * r + 1)) (bsz (toN a b r m (2 * r + 1))) k X).2.2), iN (u + (undN (toN a b r m (2 * r + 1)) (bsz (toN a b r m (2 * r + 1))) k X).2.2)] 56)]) (O := O7) MM12 MM16 rfl hn9 hN9
  have MM18 : MemS (fun k => k < w0.heap.size ∧ ∀ x ∈ (g, oC #[sB X, iN u] 56) :: O, x.1 ≠ k) w0 wd14 ((g, oC #[sB (X.drop (undN (toN a b r m (2 * r + 1)) (bsz (toN a b r m (2 * r + 1))) k X).2.2), iN (u + (undN (toN a b r m (2 * r + 1)) (bsz (toN a b r m (2 * r + 1))) k X).2.2)] 56) :: O17) [] := MM180
  have hK_21 := hK_11.mono hs20
  have hz22 : ∀ x ∈ O, x ∈ O17 := fun x hx => hs20 x (hs10 x hx)
  refine rp_c 6 FF14 MM18 [(4, b_ 0)] 9 [9] [] (fun bw => ⟨rfl, rfl, rfl, (by kernel_rfl), rfl, fun _ _ FF23 MM23 => ?_⟩)
  refine wpl_nil (then_n ?_)
  refine wp_seq ?_
  refine wp_seq (rg_c FF23 MM23 [] 10 [21] [] (fun _ _ FF24 MM24 => then_n ?_))
  by_cases hs21 : ((undN (toN a b r m (2 * r + 1)) (bsz (toN a b r m (2 * r + 1))) k X).2.1) ≠ 0
  · refine wp_cond_true ((FF24.ev 0 rfl).trans (dec_t hs21)) ?_
    refine wp_seq (rg_c FF24 MM24 [] 9 [9] [] (fun _ _ FF25 MM25 => then_n ?_))
    refine wp_ret ?_
    repeat first | refine then_ret ?_ | refine inb_ret ?_
    exact (ret_tup2 FF25 1 0 Try.results19 rfl rfl (by rw [drN, uN, if_neg hs21]; exact ⟨rfl, MM25.turn (Has.tl H) 1 rfl (fun _ hx => List.mem_cons_of_mem _ (List.mem_cons_of_mem _ (hz22 _ hx)))⟩))
  · refine wp_cond_false ((FF24.ev 0 rfl).trans (dec_f hs21)) ?_
    refine wp_skip ?_
    refine then_n ?_
    refine wp_seq (rg_c FF24 MM24 [(1, b_ 0), (0, u_ 1 (.tuple #[iN (aN a b r m ((undN (toN a b r m (2 * r + 1)) (bsz (toN a b r m (2 * r + 1))) k X).1)), .bool (decide ((undN (toN a b r m (2 * r + 1)) (bsz (toN a b r m (2 * r + 1))) k X).1 < toN a b r m (2 * r + 1)))]))] 11 [] [] (⟨rfl, rfl, ⟨en_kat, fun w Hw => kat_any gk a b r m hk ((undN (toN a b r m (2 * r + 1)) (bsz (toN a b r m (2 * r + 1))) k X).1) lv13 (un_q hk) w (hK_21.at (Has.tl (Has.tl Hw))) ((hN19.get 0 rfl).at (Has.tl (Has.tl Hw)))⟩, fun _ _ FF26 MM26 => then_n ?_⟩))
    refine wp_seq (rg_c FF26 MM26 [] 9 [9] [] (fun _ _ FF27 MM27 => then_n ?_))
    refine wp_ret ?_
    repeat first | refine then_ret ?_ | refine inb_ret ?_
    exact (ret_tup2 FF27 1 0 Try.results19 rfl rfl (by have hE : (undN (toN a b r m (2 * r + 1)) (bsz (toN a b r m (2 * r + 1))) k X).2.1 = 0 := Decidable.of_not_not hs21; rw [drN, uN, if_pos hE]; exact ⟨by rw [hE], MM27.turn (Has.tl H) 1 rfl (fun _ hx => List.mem_cons_of_mem _ (List.mem_cons_of_mem _ (hz22 _ hx)))⟩))
theorem kdraw_any (gk g : Nat) (a b r m : Nat) (hk : TOk a b r m) (X : List Nat) (u : Nat) (hX : ∀ i, X.getD i 0 < 256) (hu : u < 4611686018427000000) (k : Nat) (hk1 : 1 ≤ k) (hk2 : k ≤ 16) (w0 : World) (hgk : w0.heap[gk]? = some (KB a b r m)) (hg : w0.heap[g]? = some (TB X u)) :
    Calls Try.prog 19 #[pT gk, pT g, iN k] w0 fun e w' => e = .returned (.tuple #[iN (drN a b r m k X), iN ((uN a b r m k X).2.1)]) ∧ Turn g (TB (X.drop (uN a b r m k X).2.2) (u + (uN a b r m k X).2.2)) w0 w' := by
  have hne : gk ≠ g := fun e => by subst e; rw [hg] at hgk; simp at hgk
  refine kdraw_O gk g a b r m hk X u hX hu k hk1 hk2 [(gk, KB a b r m)] (by simp [KO]) w0 (fun i x hx => ?_) ⟨fun y hy => ?_, fun y hy => (nomatch hy), trivial⟩
  · match i with
    | 0 => simp at hx; subst hx; exact hg
    | 1 => simp at hx; subst hx; exact hgk
    | i + 2 => simp at hx
  · simp at hy; subst hy; exact fun e => hne (by first | exact e | exact e.symm)
set_option maxRecDepth 100000 in
theorem kdraw_tloO (O : Blks) (hD : Distinct O) (gk : Nat) (g : Nat) (a b r m : Nat) (hk : TOk a b r m) (t : Int) (hz : t < 1) (hK : KO O gk a b r m) (w0 : World) (H : Has w0 O) :
    Calls Try.prog 19 #[pT gk, pT g, .int .i64 t] w0 fun e w' => e = .returned (.tuple #[iN 0, iN 1]) ∧ Below w0.heap.size w0 w' := by
  refine enter_fr Try.func19 rfl Try.ntmps19 (by simp) fun ac (FF : Fr 30 ac [(0, pT gk), (1, pT g), (2, .int .i64 (t : Int))]) => ?_
  have MM : MemS (fun k => k < w0.heap.size ∧ ∀ x ∈ O, x.1 ≠ k) w0 w0 O [] := MemS.startN H hD
  refine wp_seq (rg_c FF MM [] 8 [] [] (fun _ _ FF1 MM1 => then_n ?_))
  refine wp_seq (wp_region_list ?_)
  refine rp_c 2 FF1 MM1 [] 15 [] [1] (fun _ _ FF2 MM2 => ?_)
  refine st_callE [13, 7, 6, 0, 2, 15] FF2 (d := 15) (mk := fun v => .agg #[nv (toN a b r m (2 * r + 1)) v]) en_ktotal rfl rfl (ktotal_any gk a b r m hk _ (hK.at MM2.hasL)) rfl (by kernel_rfl) (by decide) fun ac4 wd4 lv3 FF4 hr5 => ?_
  have hfr6 : ∀ g, (nv (toN a b r m (2 * r + 1)) lv3).ownBlock = some g → w0.heap.size ≤ g := fun g hg => Nat.le_trans MM2.size (hr5.2.2 g hg)
  obtain ⟨O7, MM80, hN9, hs10⟩ := MemS.addNats (K := []) (O := O) MM2 hr5.1 hr5.2 (Nats.nil O)
  have MM8 : MemS (fun k => k < w0.heap.size ∧ ∀ x ∈ O, x.1 ≠ k) w0 wd4 O7 [] := MM80
  have hK_11 := hK.mono hs10
  refine rp_c 8 FF4 MM8 [(1, u_ 1 (.tuple #[aG #[.slice none 0 0], iN 1])), (4, b_ 0)] 9 [9] [2] (⟨⟨en_tunder, fun w Hw => tunder_tlo g (toN a b r m (2 * r + 1)) lv3 (tot_q hk) t (tot_b1 hk) (Nat.le_trans (tot_b2 hk) (by decide)) hz w ((hN9.get 0 rfl).at Hw)⟩, fun bw => ⟨rfl, rfl, rfl, (by kernel_rfl), rfl, fun _ _ FF12 MM12 => ?_⟩⟩)
  refine wpl_nil (then_n ?_)
  refine wp_seq ?_
  refine wp_seq (rg_c FF12 MM12 [(1, w_ 2)] 10 [21] [] (⟨by decide, fun _ _ FF13 MM13 => then_n ?_⟩))
  refine wp_cond_true (FF13.ev 0 rfl) ?_
  refine wp_seq (rg_c FF13 MM13 [] 9 [9] [] (fun _ _ FF14 MM14 => then_n ?_))
  refine wp_ret ?_
  repeat first | refine then_ret ?_ | refine inb_ret ?_
  exact (ret_tup2 FF14 1 0 Try.results19 rfl rfl ⟨rfl, MM14.belowN H (fun _ hx => List.mem_cons_of_mem _ (hs10 _ hx))⟩)
theorem kdraw_tlo (gk : Nat) (g : Nat) (a b r m : Nat) (hk : TOk a b r m) (t : Int) (hz : t < 1) (w : World) (hgk : w.heap[gk]? = some (KB a b r m)) : Calls Try.prog 19 #[pT gk, pT g, .int .i64 t] w fun e w' => e = .returned (.tuple #[iN 0, iN 1]) ∧ Below w.heap.size w w' := by
  obtain ⟨O, h1, h2, h3⟩ := kone_O hgk
  exact kdraw_tloO O h2 gk g a b r m hk t hz h3 w h1
set_option maxRecDepth 100000 in
theorem kdraw_thiO (O : Blks) (hD : Distinct O) (gk : Nat) (g : Nat) (a b r m : Nat) (hk : TOk a b r m) (t : Int) (hz : t > 16) (hK : KO O gk a b r m) (w0 : World) (H : Has w0 O) :
    Calls Try.prog 19 #[pT gk, pT g, .int .i64 t] w0 fun e w' => e = .returned (.tuple #[iN 0, iN 1]) ∧ Below w0.heap.size w0 w' := by
  refine enter_fr Try.func19 rfl Try.ntmps19 (by simp) fun ac (FF : Fr 30 ac [(0, pT gk), (1, pT g), (2, .int .i64 (t : Int))]) => ?_
  have MM : MemS (fun k => k < w0.heap.size ∧ ∀ x ∈ O, x.1 ≠ k) w0 w0 O [] := MemS.startN H hD
  refine wp_seq (rg_c FF MM [] 8 [] [] (fun _ _ FF1 MM1 => then_n ?_))
  refine wp_seq (wp_region_list ?_)
  refine rp_c 2 FF1 MM1 [] 15 [] [1] (fun _ _ FF2 MM2 => ?_)
  refine st_callE [13, 7, 6, 0, 2, 15] FF2 (d := 15) (mk := fun v => .agg #[nv (toN a b r m (2 * r + 1)) v]) en_ktotal rfl rfl (ktotal_any gk a b r m hk _ (hK.at MM2.hasL)) rfl (by kernel_rfl) (by decide) fun ac4 wd4 lv3 FF4 hr5 => ?_
  have hfr6 : ∀ g, (nv (toN a b r m (2 * r + 1)) lv3).ownBlock = some g → w0.heap.size ≤ g := fun g hg => Nat.le_trans MM2.size (hr5.2.2 g hg)
  obtain ⟨O7, MM80, hN9, hs10⟩ := MemS.addNats (K := []) (O := O) MM2 hr5.1 hr5.2 (Nats.nil O)
  have MM8 : MemS (fun k => k < w0.heap.size ∧ ∀ x ∈ O, x.1 ≠ k) w0 wd4 O7 [] := MM80
  have hK_11 := hK.mono hs10
  refine rp_c 8 FF4 MM8 [(1, u_ 1 (.tuple #[aG #[.slice none 0 0], iN 1])), (4, b_ 0)] 9 [9] [2] (⟨⟨en_tunder, fun w Hw => tunder_thi g (toN a b r m (2 * r + 1)) lv3 (tot_q hk) t (tot_b1 hk) (Nat.le_trans (tot_b2 hk) (by decide)) hz w ((hN9.get 0 rfl).at Hw)⟩, fun bw => ⟨rfl, rfl, rfl, (by kernel_rfl), rfl, fun _ _ FF12 MM12 => ?_⟩⟩)
  refine wpl_nil (then_n ?_)
  refine wp_seq ?_
  refine wp_seq (rg_c FF12 MM12 [(1, w_ 2)] 10 [21] [] (⟨by decide, fun _ _ FF13 MM13 => then_n ?_⟩))
  refine wp_cond_true (FF13.ev 0 rfl) ?_
  refine wp_seq (rg_c FF13 MM13 [] 9 [9] [] (fun _ _ FF14 MM14 => then_n ?_))
  refine wp_ret ?_
  repeat first | refine then_ret ?_ | refine inb_ret ?_
  exact (ret_tup2 FF14 1 0 Try.results19 rfl rfl ⟨rfl, MM14.belowN H (fun _ hx => List.mem_cons_of_mem _ (hs10 _ hx))⟩)
theorem kdraw_thi (gk : Nat) (g : Nat) (a b r m : Nat) (hk : TOk a b r m) (t : Int) (hz : t > 16) (w : World) (hgk : w.heap[gk]? = some (KB a b r m)) : Calls Try.prog 19 #[pT gk, pT g, .int .i64 t] w fun e w' => e = .returned (.tuple #[iN 0, iN 1]) ∧ Below w.heap.size w w' := by
  obtain ⟨O, h1, h2, h3⟩ := kone_O hgk
  exact kdraw_thiO O h2 gk g a b r m hk t hz h3 w h1
set_option maxRecDepth 100000 in
theorem kdraw_pnilO (O : Blks) (hD : Distinct O) (gk : Nat) (a b r m : Nat) (hk : TOk a b r m) (t : Int) (hK : KO O gk a b r m) (w0 : World) (H : Has w0 O) :
    Calls Try.prog 19 #[pT gk, .pointer none, .int .i64 t] w0 fun e w' => e = .returned (.tuple #[iN 0, iN 1]) ∧ Below w0.heap.size w0 w' := by
  refine enter_fr Try.func19 rfl Try.ntmps19 (by simp) fun ac (FF : Fr 30 ac [(0, pT gk), (1, .pointer none), (2, .int .i64 (t : Int))]) => ?_
  have MM : MemS (fun k => k < w0.heap.size ∧ ∀ x ∈ O, x.1 ≠ k) w0 w0 O [] := MemS.startN H hD
  refine wp_seq (rg_c FF MM [] 8 [] [] (fun _ _ FF1 MM1 => then_n ?_))
  refine wp_seq (wp_region_list ?_)
  refine rp_c 2 FF1 MM1 [] 15 [] [1] (fun _ _ FF2 MM2 => ?_)
  refine st_callE [13, 7, 6, 0, 2, 15] FF2 (d := 15) (mk := fun v => .agg #[nv (toN a b r m (2 * r + 1)) v]) en_ktotal rfl rfl (ktotal_any gk a b r m hk _ (hK.at MM2.hasL)) rfl (by kernel_rfl) (by decide) fun ac4 wd4 lv3 FF4 hr5 => ?_
  have hfr6 : ∀ g, (nv (toN a b r m (2 * r + 1)) lv3).ownBlock = some g → w0.heap.size ≤ g := fun g hg => Nat.le_trans MM2.size (hr5.2.2 g hg)
  obtain ⟨O7, MM80, hN9, hs10⟩ := MemS.addNats (K := []) (O := O) MM2 hr5.1 hr5.2 (Nats.nil O)
  have MM8 : MemS (fun k => k < w0.heap.size ∧ ∀ x ∈ O, x.1 ≠ k) w0 wd4 O7 [] := MM80
  have hK_11 := hK.mono hs10
  refine rp_c 8 FF4 MM8 [(1, u_ 1 (.tuple #[aG #[.slice none 0 0], iN 1])), (4, b_ 0)] 9 [9] [2] (⟨⟨en_tunder, fun w Hw => tunder_nil (toN a b r m (2 * r + 1)) lv3 (tot_q hk) t w ((hN9.get 0 rfl).at Hw)⟩, fun bw => ⟨rfl, rfl, rfl, (by kernel_rfl), rfl, fun _ _ FF12 MM12 => ?_⟩⟩)
  refine wpl_nil (then_n ?_)
  refine wp_seq ?_
  refine wp_seq (rg_c FF12 MM12 [(1, w_ 2)] 10 [21] [] (⟨by decide, fun _ _ FF13 MM13 => then_n ?_⟩))
  refine wp_cond_true (FF13.ev 0 rfl) ?_
  refine wp_seq (rg_c FF13 MM13 [] 9 [9] [] (fun _ _ FF14 MM14 => then_n ?_))
  refine wp_ret ?_
  repeat first | refine then_ret ?_ | refine inb_ret ?_
  exact (ret_tup2 FF14 1 0 Try.results19 rfl rfl ⟨rfl, MM14.belowN H (fun _ hx => List.mem_cons_of_mem _ (hs10 _ hx))⟩)
theorem kdraw_pnil (gk : Nat) (a b r m : Nat) (hk : TOk a b r m) (t : Int) (w : World) (hgk : w.heap[gk]? = some (KB a b r m)) : Calls Try.prog 19 #[pT gk, .pointer none, .int .i64 t] w fun e w' => e = .returned (.tuple #[iN 0, iN 1]) ∧ Below w.heap.size w w' := by
  obtain ⟨O, h1, h2, h3⟩ := kone_O hgk
  exact kdraw_pnilO O h2 gk a b r m hk t h3 w h1
end Go.Proofs.Ythgfjeljfiadmaa
namespace Go.Proofs.Ythgfjeljfiadmaa
open Go.RowKit
theorem en_qleast : Enters Try.prog 53 := fun args w => by simp [go_sem]
theorem en_qmost : Enters Try.prog 54 := fun args w => by simp [go_sem]
theorem en_qweight : Enters Try.prog 56 := fun args w => by simp [go_sem]
theorem en_qtotal : Enters Try.prog 38 := fun args w => by simp [go_sem]
theorem en_qat : Enters Try.prog 39 := fun args w => by simp [go_sem]
theorem en_qdraw : Enters Try.prog 24 := fun args w => by simp [go_sem]
theorem szs {N : Nat} (h : N < 18446744073709551616) : sz N ≤ 8 := sz_le (Nat.lt_of_lt_of_le h (by decide))
theorem sz16 {a : Nat} (h : a ≤ 16) : sz a ≤ 20 := Nat.le_trans (sz_le (n := 1) (by omega)) (by decide)
theorem negn_ok {P : Program} {l : Slots} {L : Blks} {o : Oper} {t : TypeId} {x : Operand} {d : Nat} (ho : o.op = .unOp .neg t x) (hx : evO l x = some (.int .i64 (-((d : Nat) : Int)))) (hz : d = 1 ∨ d = 2 ∨ d = 3 ∨ d = 4) : RunV P l L o (.int .i64 ((d : Nat) : Int)) := fun ρ w Ag _ => by
  have e := Ag x _ hx
  have h1 : (Op.unary .neg (.int .i64 (-((d : Nat) : Int)))).run P w = .ok (.int .i64 ((d : Nat) : Int)) w := by rcases hz with rfl | rfl | rfl | rfl <;> rfl
  simp only [execOp, ho, e, Sem.run_bind, h1, Result.andThen_ok, Sem.run_pure]
set_option maxRecDepth 100000 in
theorem qleast_any (a b r m : Nat) (hk : TOk a b r m)  (w0 : World) :
    Calls Try.prog 53 #[.agg #[iN a, iN b, iN r, iN m]] w0 fun e w' => e = .returned (iN (m - r)) ∧ Below w0.heap.size w0 w' := by
  have ⟨k1, k2, k3, k4, k5⟩ := hk
  refine enter_fr Try.func53 rfl Try.ntmps53 (by simp) fun ac (FF : Fr 8 ac [(0, aG #[iN a, iN b, iN r, iN m])]) => ?_
  have MM := MemS.start w0
  refine wp_seq (rg_c FF MM [] 3 [] [0] (fun bq => fun _ _ FF1 MM1 => then_n ?_))
  refine wp_seq (rg_c FF1 MM1 [(1, l_ 0 (iN m)), (1, l_ 0 (iN r))] 0 [2] [] (⟨rfl, rfl, rfl, rfl, by omega, by omega, fun _ _ FF2 MM2 => then_n ?_⟩))
  refine wp_ret ?_
  repeat first | refine then_ret ?_ | refine inb_ret ?_
  exact (ret_fr FF2 0 Try.results53 rfl ⟨rfl, MM2.below⟩)
set_option maxRecDepth 100000 in
theorem qmost_any (a b r m : Nat) (hk : TOk a b r m)  (w0 : World) :
    Calls Try.prog 54 #[.agg #[iN a, iN b, iN r, iN m]] w0 fun e w' => e = .returned (iN (m + r)) ∧ Below w0.heap.size w0 w' := by
  have ⟨k1, k2, k3, k4, k5⟩ := hk
  refine enter_fr Try.func54 rfl Try.ntmps54 (by simp) fun ac (FF : Fr 8 ac [(0, aG #[iN a, iN b, iN r, iN m])]) => ?_
  have MM := MemS.start w0
  refine wp_seq (rg_c FF MM [] 3 [] [0] (fun bq => fun _ _ FF1 MM1 => then_n ?_))
  refine wp_seq (rg_c FF1 MM1 [(1, l_ 0 (iN m)), (1, l_ 0 (iN r))] 0 [2] [] (⟨rfl, rfl, rfl, rfl, by omega, fun _ _ FF2 MM2 => then_n ?_⟩))
  refine wp_ret ?_
  repeat first | refine then_ret ?_ | refine inb_ret ?_
  exact (ret_fr FF2 0 Try.results54 rfl ⟨rfl, MM2.below⟩)
set_option maxRecDepth 100000 in
theorem qweight_lo (a b r m : Nat) (hk : TOk a b r m) (n : Int) (hn : n < (m : Int) - r) (_h1 : -9223372036854775808 ≤ n) (w0 : World) :
    Calls Try.prog 56 #[.agg #[iN a, iN b, iN r, iN m], .int .i64 (n : Int)] w0 fun e w' => e = .returned (sB []) ∧ Below w0.heap.size w0 w' := by
  have ⟨k1, k2, k3, k4, k5⟩ := hk
  refine enter_fr Try.func56 rfl Try.ntmps56 (by simp) fun ac (FF : Fr 40 ac [(0, aG #[iN a, iN b, iN r, iN m]), (1, .int .i64 (n : Int))]) => ?_
  have MM := MemS.start w0
  refine wp_seq (rg_c FF MM [(1, t_ (sB []))] 5 [] [0] (fun bq => ⟨(by kernel_rfl), fun _ _ FF1 MM1 => then_n ?_⟩))
  refine wp_seq ?_
  refine wp_seq (rg_c FF1 MM1 [(1, b_ 0), (0, t_ (iN (m - r))), (0, w_ 6)] 5 [15] [] (⟨rfl, rfl, (callP_of en_qleast (qleast_any a b r m hk) _), by omega, fun _ _ FF2 MM2 => then_n ?_⟩))
  refine wp_cond_true (FF2.ev 0 rfl) ?_
  refine wp_seq (rg_c FF2 MM2 [(0, t_ (sB []))] 5 [] [] (⟨(by kernel_rfl), fun _ _ FF3 MM3 => then_n ?_⟩))
  refine wp_ret ?_
  repeat first | refine then_ret ?_ | refine inb_ret ?_
  exact (ret_fr FF3 0 Try.results56 rfl ⟨rfl, MM3.below⟩)
set_option maxRecDepth 100000 in
theorem qweight_hi (a b r m : Nat) (hk : TOk a b r m) (n : Int) (hn : n > (m : Int) + r) (_h2 : n < 9223372036854775808) (w0 : World) :
    Calls Try.prog 56 #[.agg #[iN a, iN b, iN r, iN m], .int .i64 (n : Int)] w0 fun e w' => e = .returned (sB []) ∧ Below w0.heap.size w0 w' := by
  have ⟨k1, k2, k3, k4, k5⟩ := hk
  refine enter_fr Try.func56 rfl Try.ntmps56 (by simp) fun ac (FF : Fr 40 ac [(0, aG #[iN a, iN b, iN r, iN m]), (1, .int .i64 (n : Int))]) => ?_
  have MM := MemS.start w0
  refine wp_seq (rg_c FF MM [(1, t_ (sB []))] 5 [] [0] (fun bq => ⟨(by kernel_rfl), fun _ _ FF1 MM1 => then_n ?_⟩))
  refine wp_seq ?_
  refine wp_seq (rg_c FF1 MM1 [(1, b_ 0), (0, t_ (iN (m - r))), (0, u_ 4 (.bool false)), (2, b_ 0), (0, t_ (iN (m + r))), (0, w_ 6)] 5 [15] [] (⟨rfl, rfl, (callP_of en_qleast (qleast_any a b r m hk) _), (dec_f (by omega)), rfl, rfl, (callP_of en_qmost (qmost_any a b r m hk) _), by omega, fun _ _ FF2 MM2 => then_n ?_⟩))
  refine wp_cond_true (FF2.ev 0 rfl) ?_
  refine wp_seq (rg_c FF2 MM2 [(0, t_ (sB []))] 5 [] [] (⟨(by kernel_rfl), fun _ _ FF3 MM3 => then_n ?_⟩))
  refine wp_ret ?_
  repeat first | refine then_ret ?_ | refine inb_ret ?_
  exact (ret_fr FF3 0 Try.results56 rfl ⟨rfl, MM3.below⟩)
set_option maxRecDepth 100000 in
theorem qweight_up (a b r m : Nat) (hk : TOk a b r m) (d : Nat) (hd : d ≤ r) (w0 : World) :
    Calls Try.prog 56 #[.agg #[iN a, iN b, iN r, iN m], iN (m + d)] w0 fun e w' => e = .returned (sB (minB (b ^ d * a ^ (r - d)))) ∧ Below w0.heap.size w0 w' := by
  have ⟨k1, k2, k3, k4, k5⟩ := hk
  refine enter_fr Try.func56 rfl Try.ntmps56 (by simp) fun ac (FF : Fr 40 ac [(0, aG #[iN a, iN b, iN r, iN m]), (1, iN (m + d))]) => ?_
  have MM := MemS.start w0
  refine wp_seq (rg_c FF MM [(1, t_ (sB []))] 5 [] [0] (fun bq => ⟨(by kernel_rfl), fun _ _ FF1 MM1 => then_n ?_⟩))
  refine wp_seq ?_
  refine wp_seq (rg_c FF1 MM1 [(1, b_ 0), (0, t_ (iN (m - r))), (0, w_ 3), (2, b_ 0), (0, t_ (iN (m + r))), (0, w_ 3)] 5 [15] [] (⟨rfl, rfl, (callP_of en_qleast (qleast_any a b r m hk) _), by omega, rfl, rfl, (callP_of en_qmost (qmost_any a b r m hk) _), by omega, fun _ _ FF2 MM2 => then_n ?_⟩))
  refine wp_cond_false (FF2.ev 0 rfl) ?_
  refine wp_skip ?_
  refine then_n ?_
  refine wp_seq (rg_c FF2 MM2 [(2, l_ 0 (iN m)), (0, t_ (iN d))] 6 [] [] (⟨rfl, rfl, by omega, by omega, (vI (by omega)), fun _ _ FF3 MM3 => then_n ?_⟩))
  refine wp_seq ?_
  refine wp_seq (rg_c FF3 MM3 [(1, w_ 3)] 6 [21] [] (⟨by omega, fun _ _ FF4 MM4 => then_n ?_⟩))
  refine wp_cond_false (FF4.ev 0 rfl) ?_
  refine wp_skip ?_
  refine then_n ?_
  refine wp_seq (rg_dc 17 FF4 MM4 [(1, l_ 0 (iN b)), (0, w_ 1), (0, t_ (sB (minB b))), (1, t_ (sB (minB (b ^ d)))), (1, l_ 0 (iN a)), (0, w_ 1), (0, t_ (sB (minB a))), (1, l_ 0 (iN r)), (2, t_ (sB (minB (a ^ (r - d))))), (0, t_ (sB (minB ((b ^ d) * (a ^ (r - d))))))] [] 6 [] [] (⟨rfl, rfl, by omega, (callP_of en_rof (of_any b (by omega)) _), (callP_of en_rpow (pow8_any b d (sz16 (by omega)) (by omega) (.inr (by omega))) _), rfl, rfl, by omega, (callP_of en_rof (of_any a (by omega)) _), rfl, rfl, by omega, by omega, (callP_of en_rpow (pow8_any a (r - d) (sz16 (by omega)) (by omega) (.inr (by omega))) _), (callP_of en_rmul (mul8_any (b ^ d) (a ^ (r - d)) (by have := szs (pow_lt16 (a := b) (n := d) (by omega) (by omega)); have := szs (pow_lt16 (a := a) (n := r - d) (by omega) (by omega)); omega)) _), fun _ _ FF5 MM5 => then_n ?_⟩))
  refine wp_ret ?_
  repeat first | refine then_ret ?_ | refine inb_ret ?_
  exact (ret_fr FF5 0 Try.results56 rfl ⟨rfl, MM5.below⟩)
set_option maxRecDepth 100000 in
theorem qweight_dn (a b r m : Nat) (hk : TOk a b r m) (d : Nat) (hd0 : 0 < d) (hd : d ≤ r) (w0 : World) :
    Calls Try.prog 56 #[.agg #[iN a, iN b, iN r, iN m], iN (m - d)] w0 fun e w' => e = .returned (sB (minB (b ^ d * a ^ (r - d)))) ∧ Below w0.heap.size w0 w' := by
  have ⟨k1, k2, k3, k4, k5⟩ := hk
  refine enter_fr Try.func56 rfl Try.ntmps56 (by simp) fun ac (FF : Fr 40 ac [(0, aG #[iN a, iN b, iN r, iN m]), (1, iN (m - d))]) => ?_
  have MM := MemS.start w0
  refine wp_seq (rg_c FF MM [(1, t_ (sB []))] 5 [] [0] (fun bq => ⟨(by kernel_rfl), fun _ _ FF1 MM1 => then_n ?_⟩))
  refine wp_seq ?_
  refine wp_seq (rg_c FF1 MM1 [(1, b_ 0), (0, t_ (iN (m - r))), (0, w_ 3), (2, b_ 0), (0, t_ (iN (m + r))), (0, w_ 3)] 5 [15] [] (⟨rfl, rfl, (callP_of en_qleast (qleast_any a b r m hk) _), by omega, rfl, rfl, (callP_of en_qmost (qmost_any a b r m hk) _), by omega, fun _ _ FF2 MM2 => then_n ?_⟩))
  refine wp_cond_false (FF2.ev 0 rfl) ?_
  refine wp_skip ?_
  refine then_n ?_
  refine wp_seq (rg_c FF2 MM2 [(2, l_ 0 (iN m)), (0, u_ 4 (.int .i64 (-((d : Nat) : Int) : Int)))] 6 [] [] (⟨rfl, rfl, by omega, by omega, (vZ (by omega)), fun _ _ FF3 MM3 => then_n ?_⟩))
  refine wp_seq ?_
  refine wp_seq (rg_c FF3 MM3 [(1, w_ 6)] 6 [21] [] (⟨by omega, fun _ _ FF4 MM4 => then_n ?_⟩))
  refine wp_cond_true (FF4.ev 0 rfl) ?_
  refine rg_c FF4 MM4 [(1, f_ (iN d))] 6 [] [] (⟨(negn_ok (t := 3) (x := .tmp 22) (by kernel_rfl) rfl (by omega)), fun _ _ FF5 MM5 => ?_⟩)
  refine then_n ?_
  refine wp_seq (rg_dc 17 FF5 MM5 [(1, l_ 0 (iN b)), (0, w_ 1), (0, t_ (sB (minB b))), (1, t_ (sB (minB (b ^ d)))), (1, l_ 0 (iN a)), (0, w_ 1), (0, t_ (sB (minB a))), (1, l_ 0 (iN r)), (2, t_ (sB (minB (a ^ (r - d))))), (0, t_ (sB (minB ((b ^ d) * (a ^ (r - d))))))] [] 6 [] [] (⟨rfl, rfl, by omega, (callP_of en_rof (of_any b (by omega)) _), (callP_of en_rpow (pow8_any b d (sz16 (by omega)) (by omega) (.inr (by omega))) _), rfl, rfl, by omega, (callP_of en_rof (of_any a (by omega)) _), rfl, rfl, by omega, by omega, (callP_of en_rpow (pow8_any a (r - d) (sz16 (by omega)) (by omega) (.inr (by omega))) _), (callP_of en_rmul (mul8_any (b ^ d) (a ^ (r - d)) (by have := szs (pow_lt16 (a := b) (n := d) (by omega) (by omega)); have := szs (pow_lt16 (a := a) (n := r - d) (by omega) (by omega)); omega)) _), fun _ _ FF6 MM6 => then_n ?_⟩))
  refine wp_ret ?_
  repeat first | refine then_ret ?_ | refine inb_ret ?_
  exact (ret_fr FF6 0 Try.results56 rfl ⟨rfl, MM6.below⟩)
theorem qweight_any (a b r m : Nat) (hk : TOk a b r m) (n : Int) (h1 : -9223372036854775808 ≤ n) (h2 : n < 9223372036854775808) (w : World) : Calls Try.prog 56 #[.agg #[iN a, iN b, iN r, iN m], .int .i64 n] w fun e w' => e = .returned (sB (minB (wgZ a b r m n))) ∧ Below w.heap.size w w' := by
  have k4 := hk.2.2.2.1
  rcases Int.lt_or_le n ((m : Int) - r) with h | h
  · rw [wg_lo h, minB_zero]; exact qweight_lo a b r m hk n h h1 w
  · rcases Int.lt_or_le ((m : Int) + r) n with h' | h'
    · rw [wg_hi h', minB_zero]; exact qweight_hi a b r m hk n h' h2 w
    · rcases Int.lt_or_le n m with h3 | h3
      · obtain ⟨d, rfl, hd0, hd⟩ : ∃ d : Nat, n = ((m - d : Nat) : Int) ∧ 0 < d ∧ d ≤ r := ⟨(m - n).toNat, by omega, by omega, by omega⟩
        rw [wg_in h h', show (((m - d : Nat) : Int) - m).natAbs = d by omega]
        exact qweight_dn a b r m hk d hd0 hd w
      · obtain ⟨d, rfl, hd⟩ : ∃ d : Nat, n = ((m + d : Nat) : Int) ∧ d ≤ r := ⟨(n - m).toNat, by omega, by omega⟩
        rw [wg_in h h', show (((m + d : Nat) : Int) - m).natAbs = d by omega]
        exact qweight_up a b r m hk d hd w
end Go.Proofs.Ythgfjeljfiadmaa
namespace Go.Proofs.Ythgfjeljfiadmaa
open Go.RowKit
set_option maxRecDepth 100000 in
theorem qtotal_any (a b r m : Nat) (hk : TOk a b r m)  (w0 : World) :
    Calls Try.prog 38 #[.agg #[iN a, iN b, iN r, iN m]] w0 fun e w' => e = .returned (sB (minB (toN a b r m (2 * r + 1)))) ∧ Below w0.heap.size w0 w' := by
  have ⟨k1, k2, k3, k4, k5⟩ := hk
  refine enter_fr Try.func38 rfl Try.ntmps38 (by simp) fun ac (FF : Fr 20 ac [(0, aG #[iN a, iN b, iN r, iN m])]) => ?_
  have MM := MemS.start w0
  refine wp_seq (rg_c FF MM [(1, t_ (sB []))] 3 [] [0] (fun bq => ⟨(by kernel_rfl), fun _ _ FF1 MM1 => then_n ?_⟩))
  refine wp_seq (rg_c FF1 MM1 [(0, t_ (sB (minB 0)))] 4 [] [] (⟨(callP_of en_rof (of_any 0 (by decide)) _), fun _ _ FF2 MM2 => then_n ?_⟩))
  have FFz : Fr _ _ [(3, sB (minB (toN a b r m 0))), _, _] := FF2
  refine wp_seq ?_
  refine wp_seq (rg_c FFz MM2 [(0, b_ 0), (0, t_ (iN (m - r)))] 5 [] [] (⟨rfl, rfl, (callP_of en_qleast (qleast_any a b r m hk) _), fun _ _ FF3 MM3 => then_n ?_⟩))
  refine wp_for2 (fun a' w' => ∃ i : Nat, i ≤ 2 * r + 1 ∧ Fr 20 a' [(4, iN (m - r + i)), (3, sB (minB (toN a b r m i))), (2, sB []), (1, pT bq)] ∧ MemS (fun k => k < w0.heap.size) w0 w' [(bq, oC #[iN a, iN b, iN r, iN m] 25)] []) (fun a' _ => (m + r + 1 - cnt 4 a').toNat) ⟨0, Nat.zero_le _, FF3.pick [0, 1, 2, 3], MM3⟩ ?_
  rintro ac4 wd4 ⟨i, hi, FF4, MM4⟩
  have hc := cnt_of (FF4.get 0 rfl)
  refine rg_c FF4 MM4 [(1, b_ 0), (0, t_ (iN (m + r)))] 5 [11] [] (⟨rfl, rfl, (callP_of en_qmost (qmost_any a b r m hk) _), fun _ _ FF5 MM5 => ?_⟩)
  by_cases hlt : (m - r + i) ≤ (m + r)
  · skip
    refine then_n (.inl ⟨(FF5.ev 0 rfl).trans (dec_t hlt), ?_⟩)
    have hi8 : i ≤ 8 := by omega
    have hB1 := to_le hk i
    have hB2 := wg_le hk ((m - r + i : Nat) : Int)
    refine rg_c FF5 MM5 [(1, b_ 0), (1, t_ (sB (minB (wgZ a b r m ((m - r + i : Nat) : Int))))), (0, t_ (sB (minB (toN a b r m (i + 1)))))] 5 [] [] (⟨rfl, rfl, (callP_of en_qweight (qweight_any a b r m hk ((m - r + i : Nat) : Int) (by omega) (by omega)) _), (callP_of en_radd (add8_any (toN a b r m i) (wgZ a b r m ((m - r + i : Nat) : Int)) (by have := szs (N := toN a b r m i) (by omega); have := szs (N := wgZ a b r m ((m - r + i : Nat) : Int)) (by omega); omega)) _), fun _ _ FF6 MM6 => ?_⟩)
    refine inb_n (then_n ?_)
    refine rg_c FF6 MM6 [] 5 [] [] (⟨by omega, fun _ _ FF7 MM7 => ?_⟩)
    have hd := cnt_of (FF7.get 0 rfl)
    refine then_n ⟨⟨i + 1, by omega, FF7.pick [0, 1, 2, 3], MM7⟩, ?_⟩
    rw [hc, hd]; omega
  · skip
    refine then_n (.inr ⟨(FF5.ev 0 rfl).trans (dec_f hlt), ?_⟩)
    obtain rfl : i = 2 * r + 1 := by omega
    refine then_n ?_
    refine wp_seq (rg_c FF5 MM5 [] 5 [] [] (fun _ _ FF8 MM8 => then_n ?_))
    refine wp_ret ?_
    repeat first | refine then_ret ?_ | refine inb_ret ?_
    exact (ret_fr FF8 0 Try.results38 rfl ⟨rfl, MM8.below⟩)
set_option maxRecDepth 100000 in
theorem qat_any (a b r m : Nat) (hk : TOk a b r m) (N : Nat) (hz : sz N < 100000) (w0 : World) :
    Calls Try.prog 39 #[.agg #[iN a, iN b, iN r, iN m], sB (minB N)] w0 fun e w' => e = .returned (.tuple #[iN (aN a b r m N), .bool (decide (N < toN a b r m (2 * r + 1)))]) ∧ Below w0.heap.size w0 w' := by
  have ⟨k1, k2, k3, k4, k5⟩ := hk
  refine enter_fr Try.func39 rfl Try.ntmps39 (by simp) fun ac (FF : Fr 27 ac [(0, aG #[iN a, iN b, iN r, iN m]), (1, sB (minB N))]) => ?_
  have MM := MemS.start w0
  refine wp_seq (rg_c FF MM [] 6 [] [0] (fun bq => fun _ _ FF1 MM1 => then_n ?_))
  refine wp_seq (rg_c FF1 MM1 [(0, t_ (sB (minB 0)))] 7 [] [] (⟨(callP_of en_rof (of_any 0 (by decide)) _), fun _ _ FF2 MM2 => then_n ?_⟩))
  have FFz : Fr _ _ [(6, sB (minB (toN a b r m 0))), _, _, _, _] := FF2
  refine wp_seq ?_
  refine wp_seq (rg_c FFz MM2 [(0, b_ 0), (0, t_ (iN (m - r)))] 8 [] [] (⟨rfl, rfl, (callP_of en_qleast (qleast_any a b r m hk) _), fun _ _ FF3 MM3 => then_n ?_⟩))
  refine wp_for2 (fun a' w' => ∃ i : Nat, i ≤ 2 * r + 1 ∧ toN a b r m i ≤ N ∧ Fr 27 a' [(7, iN (m - r + i)), (6, sB (minB (toN a b r m i))), (2, pT bq), (1, sB (minB N))] ∧ MemS (fun k => k < w0.heap.size) w0 w' [(bq, oC #[iN a, iN b, iN r, iN m] 25)] []) (fun a' _ => (m + r + 1 - cnt 7 a').toNat) ⟨0, Nat.zero_le _, Nat.zero_le _, FF3.pick [0, 1, 4, 5], MM3⟩ ?_
  rintro ac4 wd4 ⟨i, hi, hle, FF4, MM4⟩
  have hc := cnt_of (FF4.get 0 rfl)
  refine rg_c FF4 MM4 [(1, b_ 0), (0, t_ (iN (m + r)))] 8 [14] [] (⟨rfl, rfl, (callP_of en_qmost (qmost_any a b r m hk) _), fun _ _ FF5 MM5 => ?_⟩)
  by_cases hlt : (m - r + i) ≤ (m + r)
  · skip
    refine then_n (.inl ⟨(FF5.ev 0 rfl).trans (dec_t hlt), ?_⟩)
    have hi8 : i ≤ 8 := by omega
    have hB1 := to_le hk i
    have hB2 := wg_le hk ((m - r + i : Nat) : Int)
    refine wp_seq (rg_c FF5 MM5 [(1, b_ 0), (1, t_ (sB (minB (wgZ a b r m ((m - r + i : Nat) : Int))))), (0, t_ (sB (minB (toN a b r m (i + 1)))))] 8 [] [] (⟨rfl, rfl, (callP_of en_qweight (qweight_any a b r m hk ((m - r + i : Nat) : Int) (by omega) (by omega)) _), (callP_of en_radd (add8_any (toN a b r m i) (wgZ a b r m ((m - r + i : Nat) : Int)) (by have := szs (N := toN a b r m i) (by omega); have := szs (N := wgZ a b r m ((m - r + i : Nat) : Int)) (by omega); omega)) _), fun _ _ FF6 MM6 => then_n ?_⟩))
    by_cases h4 : N < toN a b r m (i + 1)
    · skip
      refine wp_seq (rg_c FF6 MM6 [(2, t_ (.int .i64 (cmpN N (toN a b r m (i + 1)) : Int))), (0, u_ 4 (.bool true))] 8 [25] [] (⟨(callP_of en_rcmp (cmp_any N (toN a b r m (i + 1)) (by have := to_le hk (i + 1); have := szs (N := toN a b r m (i + 1)) (by omega); omega)) _), (dec_t ((cmp_neg _ _).2 h4)), fun _ _ FF7 MM7 => then_n ?_⟩))
      refine wp_cond_true (FF7.ev 0 rfl) ?_
      refine wp_seq (rg_c FF7 MM7 [] 8 [] [] (fun _ _ FF8 MM8 => then_n ?_))
      refine wp_ret ?_
      repeat first | refine then_ret ?_ | refine inb_ret ?_
      exact (ret_tup2 FF8 1 0 Try.results39 rfl rfl (by rw [a_yes (by omega) hle h4, decide_eq_true (atw_lt (by omega) h4)]; exact ⟨rfl, MM8.below⟩))
    · skip
      refine wp_seq (rg_c FF6 MM6 [(2, t_ (.int .i64 (cmpN N (toN a b r m (i + 1)) : Int))), (0, u_ 4 (.bool false))] 8 [25] [] (⟨(callP_of en_rcmp (cmp_any N (toN a b r m (i + 1)) (by have := to_le hk (i + 1); have := szs (N := toN a b r m (i + 1)) (by omega); omega)) _), (dec_f (fun h => h4 ((cmp_neg _ _).1 h))), fun _ _ FF9 MM9 => then_n ?_⟩))
      refine wp_cond_false (FF9.ev 0 rfl) ?_
      refine wp_skip ?_
      refine inb_n (then_n ?_)
      refine rg_c FF9 MM9 [] 8 [] [] (⟨by omega, fun _ _ FF10 MM10 => ?_⟩)
      have hd := cnt_of (FF10.get 0 rfl)
      refine then_n ⟨⟨i + 1, by omega, Nat.le_of_not_lt h4, FF10.pick [0, 1, 2, 3], MM10⟩, ?_⟩
      rw [hc, hd]; omega
  · skip
    refine then_n (.inr ⟨(FF5.ev 0 rfl).trans (dec_f hlt), ?_⟩)
    obtain rfl : i = 2 * r + 1 := by omega
    refine then_n ?_
    refine wp_seq (rg_c FF5 MM5 [] 8 [] [] (fun _ _ FF11 MM11 => then_n ?_))
    refine wp_ret ?_
    repeat first | refine then_ret ?_ | refine inb_ret ?_
    exact (ret_tup2 FF11 1 0 Try.results39 rfl rfl (by rw [a_no hle, decide_eq_false (Nat.not_lt.2 hle)]; exact ⟨rfl, MM11.below⟩))
theorem un_z {a b r m k : Nat} {X : List Nat} (hk : TOk a b r m) : sz (undN (toN a b r m (2 * r + 1)) (bsz (toN a b r m (2 * r + 1))) k X).1 < 100000 := Nat.lt_of_le_of_lt (sz_le (n := 3) (Nat.lt_of_lt_of_le (und_lt (bsz_ok _).1 k X) (Nat.le_trans (Nat.pow_le_pow_right (by decide) (tot_b2 hk)) (by decide +kernel)))) (by decide)
set_option maxRecDepth 100000 in
theorem qdraw_any (g : Nat) (a b r m : Nat) (hk : TOk a b r m) (X : List Nat) (u : Nat) (hX : ∀ i, X.getD i 0 < 256) (hu : u < 4611686018427000000) (k : Nat) (hk1 : 1 ≤ k) (hk2 : k ≤ 16) (w0 : World) (hg : w0.heap[g]? = some (RB X u)) :
    Calls Try.prog 24 #[.agg #[iN a, iN b, iN r, iN m], pT g, iN k] w0 fun e w' => e = .returned (.tuple #[iN (drN a b r m k (X.drop u)), iN ((uN a b r m k (X.drop u)).2.1)]) ∧ Turn g (RB X (u + (uN a b r m k (X.drop u)).2.2)) w0 w' := by
  have ⟨k1, k2, k3, k4, k5⟩ := hk
  refine enter_fr Try.func24 rfl Try.ntmps24 (by simp) fun ac (FF : Fr 31 ac [(0, aG #[iN a, iN b, iN r, iN m]), (1, pT g), (2, iN k)]) => ?_
  have MM : MemS (fun k => k < w0.heap.size ∧ ∀ x ∈ (g, oC #[sB X, iN u] 35) :: ([] : Blks), x.1 ≠ k) w0 w0 ((g, oC #[sB X, iN u] 35) :: ([] : Blks)) [] := MemS.startN (one_has hg) ⟨fun y hy => (nomatch hy), trivial⟩
  refine wp_seq (rg_c FF MM [] 8 [] [0] (fun bq => fun _ _ FF1 MM1 => then_n ?_))
  refine wp_seq (rg_c FF1 MM1 [(1, b_ 0), (0, t_ (sB (minB (toN a b r m (2 * r + 1))))), (1, c_ (.tuple #[sB (minB ((undN (toN a b r m (2 * r + 1)) (bsz (toN a b r m (2 * r + 1))) k (X.drop u)).1)), iN ((undN (toN a b r m (2 * r + 1)) (bsz (toN a b r m (2 * r + 1))) k (X.drop u)).2.1)]) [(1, oC #[sB X, iN (u + (undN (toN a b r m (2 * r + 1)) (bsz (toN a b r m (2 * r + 1))) k (X.drop u)).2.2)] 35)])] 9 [9] [1, 2] (⟨rfl, rfl, (callP_of en_qtotal (qtotal_any a b r m hk) _), (callU_turn en_runder (g := g) (ob := RB X u) rfl fun w hg => by have h0 := runder_any g X u hX (by omega) (toN a b r m (2 * r + 1)) k (tot_b1 hk) (Nat.le_trans (tot_b2 hk) (by decide)) hk1 hk2 w hg; exact h0), fun _ _ FF2 MM2 => then_n ?_⟩))
  refine wp_seq ?_
  refine wp_seq (rg_c FF2 MM2 [] 10 [21] [] (fun _ _ FF3 MM3 => then_n ?_))
  by_cases hs21 : ((undN (toN a b r m (2 * r + 1)) (bsz (toN a b r m (2 * r + 1))) k (X.drop u)).2.1) ≠ 0
  · refine wp_cond_true ((FF3.ev 0 rfl).trans (dec_t hs21)) ?_
    refine wp_seq (rg_c FF3 MM3 [] 9 [9] [] (fun _ _ FF4 MM4 => then_n ?_))
    refine wp_ret ?_
    repeat first | refine then_ret ?_ | refine inb_ret ?_
    exact (ret_tup2 FF4 1 0 Try.results24 rfl rfl (by rw [drN, uN, if_neg hs21]; exact ⟨rfl, MM4.turn (O := []) (fun i x hx => by simp at hx) 1 rfl (fun x hx => (nomatch hx))⟩))
  · refine wp_cond_false ((FF3.ev 0 rfl).trans (dec_f hs21)) ?_
    refine wp_skip ?_
    refine then_n ?_
    refine wp_seq (rg_c FF3 MM3 [(0, b_ 0), (1, t_ (.tuple #[iN (aN a b r m ((undN (toN a b r m (2 * r + 1)) (bsz (toN a b r m (2 * r + 1))) k (X.drop u)).1)), .bool (decide ((undN (toN a b r m (2 * r + 1)) (bsz (toN a b r m (2 * r + 1))) k (X.drop u)).1 < toN a b r m (2 * r + 1)))]))] 11 [] [8] (⟨rfl, rfl, (callP_of en_qat (qat_any a b r m hk ((undN (toN a b r m (2 * r + 1)) (bsz (toN a b r m (2 * r + 1))) k (X.drop u)).1) (un_z hk)) _), fun _ _ FF5 MM5 => then_n ?_⟩))
    refine wp_seq (rg_c FF5 MM5 [] 8 [9] [] (fun _ _ FF6 MM6 => then_n ?_))
    refine wp_ret ?_
    repeat first | refine then_ret ?_ | refine inb_ret ?_
    exact (ret_tup2 FF6 1 0 Try.results24 rfl rfl (by have hE : (undN (toN a b r m (2 * r + 1)) (bsz (toN a b r m (2 * r + 1))) k (X.drop u)).2.1 = 0 := Decidable.of_not_not hs21; rw [drN, uN, if_pos hE]; exact ⟨rfl, MM6.turn (O := []) (fun i x hx => by simp at hx) 1 rfl (fun x hx => (nomatch hx))⟩))
end Go.Proofs.Ythgfjeljfiadmaa
