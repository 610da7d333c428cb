/- Several texts in one: The document: products. The document: powers. The document's tape: what is taken. The document's tape: numbers under another one. The numbers of a table. No program in this text. The laws of the table: numbers. Package table: least, most, how many. Package table: powers, weights. -/
import Derived.Test.YtlljedijldkcbaaDoorZ6
import Derived.Lib.MinMax
namespace Go.Proofs.YtlljedijldkcbaaDoor
open Go.RowKit
def d8 (N j : Nat) : Nat := N / 256 ^ j % 256
/-- What is carried behind k words of V + N * x. -/
def nc (V N x k : Nat) : Nat := (V % 256 ^ k + N % 256 ^ k * x) / 256 ^ k
theorem nc_zero (V N x : Nat) : nc V N x 0 = 0 := by simp [nc, Nat.mod_one]
theorem mod_next8 (X k : Nat) : X % 256 ^ (k + 1) = X % 256 ^ k + 256 ^ k * d8 X k := by rw [Nat.pow_succ, Nat.mod_mul]; rfl
theorem nc_num (V N x k : Nat) : (V % 256 ^ (k + 1) + N % 256 ^ (k + 1) * x) / 256 ^ k = nc V N x k + (d8 V k + d8 N k * x) := by
  rw [mod_next8 V k, mod_next8 N k]
  have : V % 256 ^ k + 256 ^ k * d8 V k + (N % 256 ^ k + 256 ^ k * d8 N k) * x = (V % 256 ^ k + N % 256 ^ k * x) + 256 ^ k * (d8 V k + d8 N k * x) := by
    rw [Nat.add_mul, Nat.mul_add, Nat.mul_assoc]; omega
  rw [this, Nat.add_mul_div_left _ _ (pw_pos k)]; rfl
theorem nc_step (V N x k : Nat) : (x * d8 N k + nc V N x k + d8 V k) / 256 = nc V N x (k + 1) := by
  have h := nc_num V N x k
  have e : nc V N x (k + 1) = (V % 256 ^ (k + 1) + N % 256 ^ (k + 1) * x) / 256 ^ k / 256 := by rw [nc, Nat.div_div_eq_div_mul, ← Nat.pow_succ]
  rw [e, h, Nat.mul_comm x]
  congr 1; omega
theorem nc_word (V N x k : Nat) : (x * d8 N k + nc V N x k + d8 V k) % 256 = d8 (V + N * x) k := by
  have e : V + N * x = (V % 256 ^ k + N % 256 ^ k * x) + 256 ^ k * (V / 256 ^ k + N / 256 ^ k * x) := by
    have h1 := Nat.div_add_mod V (256 ^ k)
    have h2 := Nat.div_add_mod N (256 ^ k)
    conv => lhs; rw [← h1, ← h2]
    rw [Nat.add_mul, Nat.mul_add, Nat.mul_assoc]; omega
  unfold d8
  rw [e, Nat.add_mul_div_left _ _ (pw_pos k)]
  have : N / 256 ^ k * x % 256 = (N / 256 ^ k % 256) * x % 256 := by rw [Nat.mod_mul_mod]
  have hm : (V % 256 ^ k + N % 256 ^ k * x) / 256 ^ k = nc V N x k := rfl
  rw [hm, Nat.mul_comm x]
  omega
theorem nc_lt {x : Nat} (hx : x < 256) (V N k : Nat) : nc V N x k < 256 := by
  refine Nat.div_lt_of_lt_mul ?_
  have h1 := Nat.mod_lt V (pw_pos k)
  have h2 := Nat.mod_lt N (pw_pos k)
  have h3 : N % 256 ^ k * x ≤ (256 ^ k - 1) * (256 - 1) := Nat.mul_le_mul (by omega) (by omega)
  have h4 : (256 ^ k - 1) * (256 - 1) + (256 ^ k - 1) = (256 ^ k - 1) * 256 := by rw [← Nat.mul_succ]
  have h5 : (256 ^ k - 1) * 256 + 256 = 256 ^ k * 256 := by rw [← Nat.succ_mul]; congr 1; omega
  omega
theorem nc_end {V N n : Nat} (x : Nat) (hV : V < 256 ^ n) (hN : N < 256 ^ n) : nc V N x n = (V + N * x) / 256 ^ n := by rw [nc, Nat.mod_eq_of_lt hV, Nat.mod_eq_of_lt hN]
theorem d8_lt (N j : Nat) : d8 N j < 256 := Nat.mod_lt _ (by decide)
theorem d8_out {N j k : Nat} (h : N < 256 ^ k) (hk : k ≤ j) : d8 N j = 0 := by rw [d8, Nat.div_eq_of_lt (Nat.lt_of_lt_of_le h (pw_le hk))]
/-- The digits of U up to k; then those of V. -/
def yL (n V U k : Nat) : List Nat := (List.range n).map fun p => if p < k then d8 U p else d8 V p
theorem yL_len (n V U k : Nat) : (yL n V U k).length = n := by simp [yL]
theorem yL_get (n V U k : Nat) {j : Nat} (h : j < n) : (yL n V U k).getD j 0 = if j < k then d8 U j else d8 V j := by simp [yL, h]
theorem yL_start {n V U k : Nat} (h : ∀ p, p < k → d8 U p = d8 V p) : yL n V U k = leB n V := by
  refine ext_getD (by rw [yL_len, leB_len]) fun j hj => ?_
  rw [yL_len] at hj
  rw [yL_get _ _ _ _ hj, leB_get hj]
  split
  · rw [h _ (by assumption)]; rfl
  · rfl
theorem yL_end {n V U k : Nat} (h : ∀ p, k ≤ p → d8 U p = d8 V p) : yL n V U k = leB n U := by
  refine ext_getD (by rw [yL_len, leB_len]) fun j hj => ?_
  rw [yL_len] at hj
  rw [yL_get _ _ _ _ hj, leB_get hj]
  split
  · rfl
  · rw [← h _ (by omega)]; rfl
theorem yL_step (n V U k : Nat) (h : k < n) : (yL n V U k).set k (d8 U k) = yL n V U (k + 1) := by
  refine ext_getD (by simp [yL]) fun j hj => ?_
  simp only [List.length_set, yL_len] at hj
  rw [getD_set, yL_get _ _ _ _ hj, yL_get _ _ _ _ hj, yL_len]
  by_cases e : k = j
  · subst e; rw [if_pos ⟨rfl, h⟩, if_pos (by omega)]
  · rw [if_neg (fun h => e h.1)]
    by_cases h1 : j < k
    · rw [if_pos h1, if_pos (by omega)]
    · rw [if_neg h1, if_neg (by omega)]
/-- The product with the first i digits. -/
def pI (M N i : Nat) : Nat := M % 256 ^ i * N
theorem pI_zero (M N : Nat) : pI M N 0 = 0 := by simp [pI, Nat.mod_one]
theorem pI_all {M N i : Nat} (h : sz M ≤ i) : pI M N i = M * N := by rw [pI, Nat.mod_eq_of_lt (lt_sz h)]
theorem pI_next (M N i : Nat) : pI M N (i + 1) = pI M N i + 256 ^ i * (N * d8 M i) := by
  rw [pI, pI, mod_next8, Nat.add_mul, Nat.mul_assoc, Nat.mul_comm (d8 M i)]
theorem pI_div (M N i : Nat) : pI M N (i + 1) / 256 ^ i = pI M N i / 256 ^ i + N * d8 M i := by rw [pI_next, Nat.add_mul_div_left _ _ (pw_pos i)]
theorem pI_top (M N i : Nat) : pI M N i / 256 ^ i < 256 ^ sz N := by
  refine Nat.div_lt_of_lt_mul ?_
  rcases Nat.eq_zero_or_pos N with h | h
  · subst h; rw [pI, Nat.mul_zero]; exact Nat.mul_pos (pw_pos _) (pw_pos _)
  · exact Nat.mul_lt_mul'' (Nat.mod_lt _ (pw_pos i)) (sz_ok N).1
theorem d8_shift (V i j : Nat) : d8 V (i + j) = d8 (V / 256 ^ i) j := by rw [d8, d8, Nat.div_div_eq_div_mul, ← Nat.pow_add]
theorem pI_low (M N i p : Nat) (h : p < i) : d8 (pI M N (i + 1)) p = d8 (pI M N i) p := by
  rw [pI_next]
  obtain ⟨k, rfl⟩ : ∃ k, i = p + 1 + k := ⟨i - p - 1, by omega⟩
  have e : 256 ^ (p + 1 + k) * (N * d8 M (p + 1 + k)) = 256 ^ p * (256 * (256 ^ k * (N * d8 M (p + 1 + k)))) := by
    rw [Nat.pow_add, Nat.pow_succ]; simp only [Nat.mul_assoc]
  rw [e]
  show (_ + 256 ^ p * _) / 256 ^ p % 256 = _ / 256 ^ p % 256
  rw [Nat.add_mul_div_left _ _ (pw_pos p), Nat.add_mul_mod_self_left]
theorem yL_begin (n M N i : Nat) : yL n (pI M N i) (pI M N (i + 1)) (i + 0) = leB n (pI M N i) := yL_start fun p hp => pI_low M N i p (by omega)
theorem pI_lt8 (M N i : Nat) : pI M N (i + 1) / 256 ^ i < 256 ^ (sz N + 1) := by
  have h1 := pI_top M N i
  rw [pI_div, Nat.pow_succ]
  have h2 : N * d8 M i ≤ (256 ^ sz N - 1) * 255 := Nat.mul_le_mul (by have := (sz_ok N).1; omega) (by have := d8_lt M i; omega)
  have h3 : (256 ^ sz N - 1) * 255 + (256 ^ sz N - 1) = (256 ^ sz N - 1) * 256 := by omega
  omega
theorem nc_more {M N i j : Nat} (h : nc (pI M N i / 256 ^ i) N (d8 M i) j > 0) : j ≤ sz N := by
  refine Nat.le_of_not_lt fun hj => ?_
  have hN : N < 256 ^ j := lt_sz (by omega)
  have hV : pI M N i / 256 ^ i < 256 ^ j := Nat.lt_of_lt_of_le (pI_top M N i) (pw_le (by omega))
  rw [nc_end _ hV hN, ← pI_div, Nat.div_eq_of_lt (Nat.lt_of_lt_of_le (pI_lt8 M N i) (pw_le (by omega)))] at h
  omega
theorem pI_fin {M N i j : Nat} (hj : sz N ≤ j) (h : nc (pI M N i / 256 ^ i) N (d8 M i) j = 0) (n : Nat) : yL n (pI M N i) (pI M N (i + 1)) (i + j) = leB n (pI M N (i + 1)) := by
  have hN : N < 256 ^ j := lt_sz hj
  have hV : pI M N i / 256 ^ i < 256 ^ j := Nat.lt_of_lt_of_le (pI_top M N i) (pw_le hj)
  rw [nc_end _ hV hN, ← pI_div] at h
  have hU : pI M N (i + 1) / 256 ^ i < 256 ^ j := by
    rcases Nat.lt_or_ge (pI M N (i + 1) / 256 ^ i) (256 ^ j) with h2 | h2
    · exact h2
    · have := Nat.div_pos h2 (pw_pos j); omega
  refine yL_end fun p hp => ?_
  obtain ⟨k, rfl⟩ : ∃ k, p = i + k := ⟨p - i, by omega⟩
  rw [d8_shift, d8_shift, d8_out hU (by omega), d8_out hV (by omega)]
theorem nc_dig (M N i j : Nat) : (nc (pI M N i / 256 ^ i) N (d8 M i) j + (d8 (pI M N i) (i + j) + d8 M i * d8 N j)) % 256 = d8 (pI M N (i + 1)) (i + j) := by
  rw [d8_shift (pI M N (i + 1)), pI_div, ← nc_word, d8_shift]
  congr 1; omega
theorem nc_nxt (M N i j : Nat) : (nc (pI M N i / 256 ^ i) N (d8 M i) j + (d8 (pI M N i) (i + j) + d8 M i * d8 N j)) / 256 = nc (pI M N i / 256 ^ i) N (d8 M i) (j + 1) := by
  rw [← nc_step, d8_shift]
  congr 1; omega
theorem mul_sz8 (M N : Nat) : M * N < 256 ^ (sz M + sz N + 1) := by
  refine Nat.lt_of_lt_of_le ?_ (pw_le (show sz M + sz N ≤ sz M + sz N + 1 by omega))
  rw [Nat.pow_add]
  rcases Nat.eq_zero_or_pos N with h | h
  · subst h; rw [Nat.mul_zero]; exact Nat.mul_pos (pw_pos _) (pw_pos _)
  · exact Nat.mul_lt_mul'' (sz_ok M).1 (sz_ok N).1
theorem zero_leB (n : Nat) : List.replicate n 0 = leB n 0 := by
  refine ext_getD (by rw [leB_len, List.length_replicate]) fun j hj => ?_
  rw [List.length_replicate] at hj
  rw [leB_get hj]; simp [hj]
theorem mul_le8 {a b : Nat} (ha : a < 256) (hb : b < 256) : a * b ≤ 65025 := Nat.mul_le_mul (Nat.le_of_lt_succ ha) (Nat.le_of_lt_succ hb)
set_option maxRecDepth 100000 in
theorem mul8_any (M N : Nat) (hz : sz M + sz N < 1000000) (w0 : World) :
    Calls Tryd.prog 41 #[sB (minB M), sB (minB N)] w0 fun e w' => e = .returned (sB (minB (M * N))) ∧ Below w0.heap.size w0 w' := by
  refine enter_fr Tryd.func41 rfl Tryd.ntmps41 (by simp) fun ac (FF : Fr 62 ac [(0, sB (minB M)), (1, sB (minB N))]) => ?_
  have MM := MemS.start w0
  refine wp_seq (rg_seq FF MM [o_] [0, 1, 4] (fun Kt => Kt [(4, sB []), (0, sB (minB M)), (1, sB (minB N))] []) (by kernel_rfl) (fun _ => by kernel_rfl) (fun ac1 wd1 FF1 MM1 => then_n ?_))
  refine wp_seq (rg_seq FF1 MM1 [o_, t_ (iN (sz M)), o_, t_ (iN (sz N)), o_, o_, n_ (.slice none (((sz M) + (sz N)) + 1) (((sz M) + (sz N)) + 1)) (.cells (cn .u8 (List.replicate (((sz M) + (sz N)) + 1) 0)) 5), o_] [4, 0, 1, 5] (fun Kt => iN ((bs (minB M)).size) = iN (sz M) ∧ iN ((bs (minB N)).size) = iN (sz N) ∧ (sz M) + (sz N) < 9223372036854775808 ∧ ((sz M) + (sz N)) + 1 < 9223372036854775808 ∧ RunN Tryd.prog [(14, iN (((sz M) + (sz N)) + 1)), (13, iN ((sz M) + (sz N))), (12, iN (sz N)), (11, sB (minB N)), (10, iN (sz M)), (9, sB (minB M)), (4, sB []), (0, sB (minB M)), (1, sB (minB N))] [] (opAt Tryd.f41 1 6) (mkOf (.slice none (((sz M) + (sz N)) + 1) (((sz M) + (sz N)) + 1))) (.cells (cn .u8 (List.replicate (((sz M) + (sz N)) + 1) 0)) 5) ∧ ∀ bo, Kt [(5, .slice (some ⟨bo, 0, none⟩) (((sz M) + (sz N)) + 1) (((sz M) + (sz N)) + 1)), (4, sB []), (0, sB (minB M)), (1, sB (minB N))] [(bo, .cells (cn .u8 (List.replicate (((sz M) + (sz N)) + 1) 0)) 5)]) (by kernel_rfl) (fun _ => by kernel_rfl) (⟨(vI ((bs_size _).trans (minB_len M))), (vI ((bs_size _).trans (minB_len N))), (by omega), (by omega), (make_ok (t := 67) (e := 5) (p := (.tmp 14)) (q := (.tmp 14)) (by kernel_rfl) rfl rfl Tryd.underlying67 (by kernel_rfl) (by omega)), fun bo => fun ac2 wd2 FF2 MM2 => then_n ?_⟩))
  have MMr4 : MemS (fun k => k < w0.heap.size) w0 wd2 [(bo, .cells (cn .u8 (leB (sz M + sz N + 1) (pI M N 0))) 5)] [] := by rw [pI_zero, ← zero_leB]; exact MM2
  refine wp_seq ?_
  refine wp_seq (rg_seq FF2 MMr4 [o_] [5, 4, 0, 1, 6] (fun Kt => Kt [(6, iN 0), (5, .slice (some ⟨bo, 0, none⟩) (((sz M) + (sz N)) + 1) (((sz M) + (sz N)) + 1)), (4, sB []), (0, sB (minB M)), (1, sB (minB N))] [(bo, .cells (cn .u8 (leB (sz M + sz N + 1) (pI M N 0))) 5)]) (by kernel_rfl) (fun _ => by kernel_rfl) (fun ac3 wd3 FF3 MM3 => then_n ?_))
  refine wp_for2 (fun a' w' => ∃ i : Nat, i ≤ sz M ∧ Fr 62 a' [(6, iN i), (5, .slice (some ⟨bo, 0, none⟩) (((sz M) + (sz N)) + 1) (((sz M) + (sz N)) + 1)), (4, sB []), (0, sB (minB M)), (1, sB (minB N))] ∧ MemS (fun k => k < w0.heap.size) w0 w' [(bo, .cells (cn .u8 (leB (sz M + sz N + 1) (pI M N i))) 5)] []) (fun a' _ => (sz M - cnt 6 a').toNat) ⟨0, Nat.zero_le _, FF3.pick [0, 1, 2, 3, 4], MM3⟩ ?_
  rintro ac4 wd4 ⟨i, hi, FF4, MM4⟩
  have hc := cnt_of (FF4.get 0 rfl)
  refine rg_seq FF4 MM4 [o_, o_, t_ (iN (sz M)), o_] [6, 5, 4, 0, 1, 19] (fun Kt => iN ((bs (minB M)).size) = iN (sz M) ∧ Kt [(19, .bool (decide (i < (sz M)))), (6, iN i), (5, .slice (some ⟨bo, 0, none⟩) (((sz M) + (sz N)) + 1) (((sz M) + (sz N)) + 1)), (4, sB []), (0, sB (minB M)), (1, sB (minB N))] [(bo, .cells (cn .u8 (leB (sz M + sz N + 1) (pI M N i))) 5)]) (by kernel_rfl) (fun _ => by kernel_rfl) (⟨(vI ((bs_size _).trans (minB_len M))), fun ac5 wd5 FF5 MM5 => ?_⟩)
  by_cases hlt : i < (sz M)
  · skip
    refine then_n (.inl ⟨(FF5.ev 0 rfl).trans (dec_t hlt), ?_⟩)
    refine wp_seq (rg_seq FF5 MM5 [t_ (iN (nc (pI M N i / 256 ^ i) N (d8 M i) 0))] [6, 5, 4, 0, 1, 7] (fun Kt => iN 0 = iN (nc (pI M N i / 256 ^ i) N (d8 M i) 0) ∧ Kt [(7, iN (nc (pI M N i / 256 ^ i) N (d8 M i) 0)), (6, iN i), (5, .slice (some ⟨bo, 0, none⟩) (((sz M) + (sz N)) + 1) (((sz M) + (sz N)) + 1)), (4, sB []), (0, sB (minB M)), (1, sB (minB N))] [(bo, .cells (cn .u8 (leB (sz M + sz N + 1) (pI M N i))) 5)]) (by kernel_rfl) (fun _ => by kernel_rfl) (⟨(vI (nc_zero _ _ _).symm), fun ac6 wd6 FF6 MM6 => then_n ?_⟩))
    have MMr15 : MemS (fun k => k < w0.heap.size) w0 wd6 [(bo, .cells (cn .u8 (yL (sz M + sz N + 1) (pI M N i) (pI M N (i + 1)) (i + 0))) 5)] [] := by rw [yL_begin]; exact MM6
    refine wp_seq (rg_seq FF6 MMr15 [o_] [7, 6, 5, 4, 0, 1, 8] (fun Kt => Kt [(8, iN 0), (7, iN (nc (pI M N i / 256 ^ i) N (d8 M i) 0)), (6, iN i), (5, .slice (some ⟨bo, 0, none⟩) (((sz M) + (sz N)) + 1) (((sz M) + (sz N)) + 1)), (4, sB []), (0, sB (minB M)), (1, sB (minB N))] [(bo, .cells (cn .u8 (yL (sz M + sz N + 1) (pI M N i) (pI M N (i + 1)) (i + 0))) 5)]) (by kernel_rfl) (fun _ => by kernel_rfl) (fun ac7 wd7 FF7 MM7 => then_n ?_))
    refine wp_for2 (fun a' w' => ∃ j : Nat, j ≤ sz N + 1 ∧ Fr 62 a' [(8, iN j), (7, iN (nc (pI M N i / 256 ^ i) N (d8 M i) j)), (6, iN i), (5, .slice (some ⟨bo, 0, none⟩) (((sz M) + (sz N)) + 1) (((sz M) + (sz N)) + 1)), (4, sB []), (0, sB (minB M)), (1, sB (minB N))] ∧ MemS (fun k => k < w0.heap.size) w0 w' [(bo, .cells (cn .u8 (yL (sz M + sz N + 1) (pI M N i) (pI M N (i + 1)) (i + j))) 5)] []) (fun a' _ => (sz N + 1 - cnt 8 a').toNat) ⟨0, Nat.zero_le _, FF7.pick [0, 1, 2, 3, 4, 5, 6], MM7⟩ ?_
    rintro ac8 wd8 ⟨j, hj, FF8, MM8⟩
    have hc2 := cnt_of (FF8.get 0 rfl)
    by_cases h1 : j < sz N
    · skip
      refine rg_seq FF8 MM8 [o_, o_, t_ (iN (sz N)), w_ 2, o_, o_, o_, o_] [8, 7, 6, 5, 4, 0, 1, 29] (fun Kt => iN ((bs (minB N)).size) = iN (sz N) ∧ j < (sz N) ∧ Kt [(29, .bool true), (8, iN j), (7, iN (nc (pI M N i / 256 ^ i) N (d8 M i) j)), (6, iN i), (5, .slice (some ⟨bo, 0, none⟩) (((sz M) + (sz N)) + 1) (((sz M) + (sz N)) + 1)), (4, sB []), (0, sB (minB M)), (1, sB (minB N))] [(bo, .cells (cn .u8 (yL (sz M + sz N + 1) (pI M N i) (pI M N (i + 1)) (i + j))) 5)]) (by kernel_rfl) (fun _ => by kernel_rfl) (⟨(vI ((bs_size _).trans (minB_len N))), h1, fun ac9 wd9 FF9 MM9 => ?_⟩)
      refine then_n (.inl ⟨FF9.ev 0 rfl, ?_⟩)
      have hjj : i + j < sz M + sz N + 1 := by first | omega | (have := nc_more h3; omega)
      have hcl := nc_lt (d8_lt M i) (pI M N i / 256 ^ i) N j
      have hdl := d8_lt (pI M N i) (i + j)
      have hml := mul_le8 (d8_lt M i) (d8_lt N j)
      have hmi := d8_lt M i
      have hnj := d8_lt N j
      refine wp_seq (rg_draw FF9 MM9 [.inl (iN (nc (pI M N i / 256 ^ i) N (d8 M i) j)), .inl (.slice (some ⟨bo, 0, none⟩) (((sz M) + (sz N)) + 1) (((sz M) + (sz N)) + 1)), .inl (iN i), .inl (iN j), .inl (iN (i + j)), .inl (.pointer (some ⟨bo, i + j, none⟩)), .inl (iB (d8 (pI M N i) (i + j))), .inl (iN (d8 (pI M N i) (i + j))), .inl (sB (minB M)), .inl (iN i), .inl (iB (d8 M i)), .inl (iN (d8 M i)), .inl (sB (minB N)), .inl (iN j), .inl (iN (d8 N j)), .inl (iN ((d8 M i) * (d8 N j))), .inl (iN ((d8 (pI M N i) (i + j)) + ((d8 M i) * (d8 N j)))), .inl (iN ((nc (pI M N i / 256 ^ i) N (d8 M i) j) + ((d8 (pI M N i) (i + j)) + ((d8 M i) * (d8 N j)))))] [] [o_, o_, o_, o_, o_, w_ 1, l_ 0 (iB (d8 (pI M N i) (i + j))), w_ 1, o_, o_, t_ (iB (d8 M i)), w_ 1, o_, o_, t_ (iN (d8 N j)), o_, o_, o_] [o_] [8, 7, 6, 5, 4, 0, 1] (fun nb => [i + j < 9223372036854775808, (i + j) < (((sz M) + (sz N)) + 1), bo = bo, (cn .u8 (yL (sz M + sz N + 1) (pI M N i) (pI M N (i + 1)) (i + j)))[i + j]? = some (iB (d8 (pI M N i) (i + j))), (d8 (pI M N i) (i + j)) < 9223372036854775808, i < (bs (minB M)).size, (nl (bs (minB M))).getD i 0 = d8 M i, (d8 M i) < 9223372036854775808, CallP Tryd.prog 59 [sB (minB N), iN j] [] (iN (d8 N j)), (d8 M i) * (d8 N j) < 9223372036854775808, (d8 (pI M N i) (i + j)) + ((d8 M i) * (d8 N j)) < 9223372036854775808, (nc (pI M N i / 256 ^ i) N (d8 M i) j) + ((d8 (pI M N i) (i + j)) + ((d8 M i) * (d8 N j))) < 9223372036854775808]) (fun nb Kt => Kt [(7, iN ((nc (pI M N i / 256 ^ i) N (d8 M i) j) + ((d8 (pI M N i) (i + j)) + ((d8 M i) * (d8 N j))))), (8, iN j), (6, iN i), (5, .slice (some ⟨bo, 0, none⟩) (((sz M) + (sz N)) + 1) (((sz M) + (sz N)) + 1)), (4, sB []), (0, sB (minB M)), (1, sB (minB N))] [(bo, .cells (cn .u8 (yL (sz M + sz N + 1) (pI M N i) (pI M N (i + 1)) (i + j))) 5)]) (by kernel_rfl) (by kernel_rfl) (by kernel_rfl) (fun _ => by kernel_rfl) (fun _ _ => by kernel_rfl) trivial (fun nb => ⟨(by omega), (by omega), rfl, ((cn_get _ _ _ (by rw [yL_len]; exact hjj)).trans (by rw [yL_get _ _ _ _ hjj, if_neg (by omega)])), (by omega), (by simp only [bs_size, minB_len]; omega), ((byte_bs (minB_lt M) _).trans (minB_get M _)), (by omega), (digm_ok _ _ _), (by omega), (by omega), (by omega), trivial⟩) (fun nb => fun ac10 wd10 FF10 MM10 => then_n ?_))
      refine wp_seq (rg_seq FF10 MM10 [o_, o_, o_, o_, o_, t_ (iB (d8 (pI M N (i + 1)) (i + j))), w_ 1, s_ 0 (.cells (cn .u8 (yL (sz M + sz N + 1) (pI M N i) (pI M N (i + 1)) (i + (j + 1)))) 5)] [7, 8, 6, 5, 4, 0, 1] (fun Kt => i + j < 9223372036854775808 ∧ iB (((nc (pI M N i / 256 ^ i) N (d8 M i) j) + ((d8 (pI M N i) (i + j)) + ((d8 M i) * (d8 N j)))) % 256) = iB (d8 (pI M N (i + 1)) (i + j)) ∧ (i + j) < (((sz M) + (sz N)) + 1) ∧ bo = bo ∧ i + j < (cn .u8 (yL (sz M + sz N + 1) (pI M N i) (pI M N (i + 1)) (i + j))).size ∧ (((0, 0)).2 = 0 ∨ i + j < ((0, 0)).1) ∧ (cn .u8 (yL (sz M + sz N + 1) (pI M N i) (pI M N (i + 1)) (i + j))).setIfInBounds (i + j) (iB (d8 (pI M N (i + 1)) (i + j))) = cn .u8 (yL (sz M + sz N + 1) (pI M N i) (pI M N (i + 1)) (i + (j + 1))) ∧ Kt [(7, iN ((nc (pI M N i / 256 ^ i) N (d8 M i) j) + ((d8 (pI M N i) (i + j)) + ((d8 M i) * (d8 N j))))), (8, iN j), (6, iN i), (5, .slice (some ⟨bo, 0, none⟩) (((sz M) + (sz N)) + 1) (((sz M) + (sz N)) + 1)), (4, sB []), (0, sB (minB M)), (1, sB (minB N))] [(bo, .cells (cn .u8 (yL (sz M + sz N + 1) (pI M N i) (pI M N (i + 1)) (i + (j + 1)))) 5)]) (by kernel_rfl) (fun _ => by kernel_rfl) (⟨(by omega), (vI (nc_dig M N i j)), (by omega), rfl, (by rw [cn_size, yL_len]; exact hjj), (.inl rfl), ((cn_set _ _ _ _).trans (congrArg _ (yL_step _ _ _ _ hjj))), fun ac11 wd11 FF11 MM11 => then_n ?_⟩))
      refine rg_seq FF11 MM11 [o_, t_ (iN (nc (pI M N i / 256 ^ i) N (d8 M i) (j + 1))), o_] [7, 8, 6, 5, 4, 0, 1] (fun Kt => 8 ≤ 64 ∧ iN (((nc (pI M N i / 256 ^ i) N (d8 M i) j) + ((d8 (pI M N i) (i + j)) + ((d8 M i) * (d8 N j)))) / 256) = iN (nc (pI M N i / 256 ^ i) N (d8 M i) (j + 1)) ∧ Kt [(7, iN (nc (pI M N i / 256 ^ i) N (d8 M i) (j + 1))), (8, iN j), (6, iN i), (5, .slice (some ⟨bo, 0, none⟩) (((sz M) + (sz N)) + 1) (((sz M) + (sz N)) + 1)), (4, sB []), (0, sB (minB M)), (1, sB (minB N))] [(bo, .cells (cn .u8 (yL (sz M + sz N + 1) (pI M N i) (pI M N (i + 1)) (i + (j + 1)))) 5)]) (by kernel_rfl) (fun _ => by kernel_rfl) (⟨(by decide), (vI (nc_nxt M N i j)), fun ac12 wd12 FF12 MM12 => ?_⟩)
      refine inb_n (then_n ?_)
      refine rg_seq FF12 MM12 [o_, o_, o_] [7, 8, 6, 5, 4, 0, 1] (fun Kt => j + 1 < 9223372036854775808 ∧ Kt [(8, iN (j + 1)), (7, iN (nc (pI M N i / 256 ^ i) N (d8 M i) (j + 1))), (6, iN i), (5, .slice (some ⟨bo, 0, none⟩) (((sz M) + (sz N)) + 1) (((sz M) + (sz N)) + 1)), (4, sB []), (0, sB (minB M)), (1, sB (minB N))] [(bo, .cells (cn .u8 (yL (sz M + sz N + 1) (pI M N i) (pI M N (i + 1)) (i + (j + 1)))) 5)]) (by kernel_rfl) (fun _ => by kernel_rfl) (⟨(by omega), fun ac13 wd13 FF13 MM13 => ?_⟩)
      have hd2 := cnt_of (FF13.get 0 rfl)
      refine then_n ⟨⟨j + 1, (by first | omega | (have := nc_more h3; omega)), FF13.pick [0, 1, 2, 3, 4, 5, 6], MM13⟩, ?_⟩
      rw [hc2, hd2]; first | omega | (have := nc_more h3; omega)
    · by_cases h3 : nc (pI M N i / 256 ^ i) N (d8 M i) j > 0
      · skip
        refine rg_seq FF8 MM8 [o_, o_, t_ (iN (sz N)), w_ 3, o_, o_, w_ 2, o_] [8, 7, 6, 5, 4, 0, 1, 29] (fun Kt => iN ((bs (minB N)).size) = iN (sz N) ∧ ¬ (j < (sz N)) ∧ (nc (pI M N i / 256 ^ i) N (d8 M i) j) > 0 ∧ Kt [(29, .bool true), (8, iN j), (7, iN (nc (pI M N i / 256 ^ i) N (d8 M i) j)), (6, iN i), (5, .slice (some ⟨bo, 0, none⟩) (((sz M) + (sz N)) + 1) (((sz M) + (sz N)) + 1)), (4, sB []), (0, sB (minB M)), (1, sB (minB N))] [(bo, .cells (cn .u8 (yL (sz M + sz N + 1) (pI M N i) (pI M N (i + 1)) (i + j))) 5)]) (by kernel_rfl) (fun _ => by kernel_rfl) (⟨(vI ((bs_size _).trans (minB_len N))), h1, h3, fun ac14 wd14 FF14 MM14 => ?_⟩)
        refine then_n (.inl ⟨FF14.ev 0 rfl, ?_⟩)
        have hjj : i + j < sz M + sz N + 1 := by first | omega | (have := nc_more h3; omega)
        have hcl := nc_lt (d8_lt M i) (pI M N i / 256 ^ i) N j
        have hdl := d8_lt (pI M N i) (i + j)
        have hml := mul_le8 (d8_lt M i) (d8_lt N j)
        have hmi := d8_lt M i
        have hnj := d8_lt N j
        refine wp_seq (rg_draw FF14 MM14 [.inl (iN (nc (pI M N i / 256 ^ i) N (d8 M i) j)), .inl (.slice (some ⟨bo, 0, none⟩) (((sz M) + (sz N)) + 1) (((sz M) + (sz N)) + 1)), .inl (iN i), .inl (iN j), .inl (iN (i + j)), .inl (.pointer (some ⟨bo, i + j, none⟩)), .inl (iB (d8 (pI M N i) (i + j))), .inl (iN (d8 (pI M N i) (i + j))), .inl (sB (minB M)), .inl (iN i), .inl (iB (d8 M i)), .inl (iN (d8 M i)), .inl (sB (minB N)), .inl (iN j), .inl (iN (d8 N j)), .inl (iN ((d8 M i) * (d8 N j))), .inl (iN ((d8 (pI M N i) (i + j)) + ((d8 M i) * (d8 N j)))), .inl (iN ((nc (pI M N i / 256 ^ i) N (d8 M i) j) + ((d8 (pI M N i) (i + j)) + ((d8 M i) * (d8 N j)))))] [] [o_, o_, o_, o_, o_, w_ 1, l_ 0 (iB (d8 (pI M N i) (i + j))), w_ 1, o_, o_, t_ (iB (d8 M i)), w_ 1, o_, o_, t_ (iN (d8 N j)), o_, o_, o_] [o_] [8, 7, 6, 5, 4, 0, 1] (fun nb => [i + j < 9223372036854775808, (i + j) < (((sz M) + (sz N)) + 1), bo = bo, (cn .u8 (yL (sz M + sz N + 1) (pI M N i) (pI M N (i + 1)) (i + j)))[i + j]? = some (iB (d8 (pI M N i) (i + j))), (d8 (pI M N i) (i + j)) < 9223372036854775808, i < (bs (minB M)).size, (nl (bs (minB M))).getD i 0 = d8 M i, (d8 M i) < 9223372036854775808, CallP Tryd.prog 59 [sB (minB N), iN j] [] (iN (d8 N j)), (d8 M i) * (d8 N j) < 9223372036854775808, (d8 (pI M N i) (i + j)) + ((d8 M i) * (d8 N j)) < 9223372036854775808, (nc (pI M N i / 256 ^ i) N (d8 M i) j) + ((d8 (pI M N i) (i + j)) + ((d8 M i) * (d8 N j))) < 9223372036854775808]) (fun nb Kt => Kt [(7, iN ((nc (pI M N i / 256 ^ i) N (d8 M i) j) + ((d8 (pI M N i) (i + j)) + ((d8 M i) * (d8 N j))))), (8, iN j), (6, iN i), (5, .slice (some ⟨bo, 0, none⟩) (((sz M) + (sz N)) + 1) (((sz M) + (sz N)) + 1)), (4, sB []), (0, sB (minB M)), (1, sB (minB N))] [(bo, .cells (cn .u8 (yL (sz M + sz N + 1) (pI M N i) (pI M N (i + 1)) (i + j))) 5)]) (by kernel_rfl) (by kernel_rfl) (by kernel_rfl) (fun _ => by kernel_rfl) (fun _ _ => by kernel_rfl) trivial (fun nb => ⟨(by omega), (by omega), rfl, ((cn_get _ _ _ (by rw [yL_len]; exact hjj)).trans (by rw [yL_get _ _ _ _ hjj, if_neg (by omega)])), (by omega), (by simp only [bs_size, minB_len]; omega), ((byte_bs (minB_lt M) _).trans (minB_get M _)), (by omega), (digm_ok _ _ _), (by omega), (by omega), (by omega), trivial⟩) (fun nb => fun ac15 wd15 FF15 MM15 => then_n ?_))
        refine wp_seq (rg_seq FF15 MM15 [o_, o_, o_, o_, o_, t_ (iB (d8 (pI M N (i + 1)) (i + j))), w_ 1, s_ 0 (.cells (cn .u8 (yL (sz M + sz N + 1) (pI M N i) (pI M N (i + 1)) (i + (j + 1)))) 5)] [7, 8, 6, 5, 4, 0, 1] (fun Kt => i + j < 9223372036854775808 ∧ iB (((nc (pI M N i / 256 ^ i) N (d8 M i) j) + ((d8 (pI M N i) (i + j)) + ((d8 M i) * (d8 N j)))) % 256) = iB (d8 (pI M N (i + 1)) (i + j)) ∧ (i + j) < (((sz M) + (sz N)) + 1) ∧ bo = bo ∧ i + j < (cn .u8 (yL (sz M + sz N + 1) (pI M N i) (pI M N (i + 1)) (i + j))).size ∧ (((0, 0)).2 = 0 ∨ i + j < ((0, 0)).1) ∧ (cn .u8 (yL (sz M + sz N + 1) (pI M N i) (pI M N (i + 1)) (i + j))).setIfInBounds (i + j) (iB (d8 (pI M N (i + 1)) (i + j))) = cn .u8 (yL (sz M + sz N + 1) (pI M N i) (pI M N (i + 1)) (i + (j + 1))) ∧ Kt [(7, iN ((nc (pI M N i / 256 ^ i) N (d8 M i) j) + ((d8 (pI M N i) (i + j)) + ((d8 M i) * (d8 N j))))), (8, iN j), (6, iN i), (5, .slice (some ⟨bo, 0, none⟩) (((sz M) + (sz N)) + 1) (((sz M) + (sz N)) + 1)), (4, sB []), (0, sB (minB M)), (1, sB (minB N))] [(bo, .cells (cn .u8 (yL (sz M + sz N + 1) (pI M N i) (pI M N (i + 1)) (i + (j + 1)))) 5)]) (by kernel_rfl) (fun _ => by kernel_rfl) (⟨(by omega), (vI (nc_dig M N i j)), (by omega), rfl, (by rw [cn_size, yL_len]; exact hjj), (.inl rfl), ((cn_set _ _ _ _).trans (congrArg _ (yL_step _ _ _ _ hjj))), fun ac16 wd16 FF16 MM16 => then_n ?_⟩))
        refine rg_seq FF16 MM16 [o_, t_ (iN (nc (pI M N i / 256 ^ i) N (d8 M i) (j + 1))), o_] [7, 8, 6, 5, 4, 0, 1] (fun Kt => 8 ≤ 64 ∧ iN (((nc (pI M N i / 256 ^ i) N (d8 M i) j) + ((d8 (pI M N i) (i + j)) + ((d8 M i) * (d8 N j)))) / 256) = iN (nc (pI M N i / 256 ^ i) N (d8 M i) (j + 1)) ∧ Kt [(7, iN (nc (pI M N i / 256 ^ i) N (d8 M i) (j + 1))), (8, iN j), (6, iN i), (5, .slice (some ⟨bo, 0, none⟩) (((sz M) + (sz N)) + 1) (((sz M) + (sz N)) + 1)), (4, sB []), (0, sB (minB M)), (1, sB (minB N))] [(bo, .cells (cn .u8 (yL (sz M + sz N + 1) (pI M N i) (pI M N (i + 1)) (i + (j + 1)))) 5)]) (by kernel_rfl) (fun _ => by kernel_rfl) (⟨(by decide), (vI (nc_nxt M N i j)), fun ac17 wd17 FF17 MM17 => ?_⟩)
        refine inb_n (then_n ?_)
        refine rg_seq FF17 MM17 [o_, o_, o_] [7, 8, 6, 5, 4, 0, 1] (fun Kt => j + 1 < 9223372036854775808 ∧ Kt [(8, iN (j + 1)), (7, iN (nc (pI M N i / 256 ^ i) N (d8 M i) (j + 1))), (6, iN i), (5, .slice (some ⟨bo, 0, none⟩) (((sz M) + (sz N)) + 1) (((sz M) + (sz N)) + 1)), (4, sB []), (0, sB (minB M)), (1, sB (minB N))] [(bo, .cells (cn .u8 (yL (sz M + sz N + 1) (pI M N i) (pI M N (i + 1)) (i + (j + 1)))) 5)]) (by kernel_rfl) (fun _ => by kernel_rfl) (⟨(by omega), fun ac18 wd18 FF18 MM18 => ?_⟩)
        have hd2 := cnt_of (FF18.get 0 rfl)
        refine then_n ⟨⟨j + 1, (by first | omega | (have := nc_more h3; omega)), FF18.pick [0, 1, 2, 3, 4, 5, 6], MM18⟩, ?_⟩
        rw [hc2, hd2]; first | omega | (have := nc_more h3; omega)
      · skip
        refine rg_seq FF8 MM8 [o_, o_, t_ (iN (sz N)), w_ 3, o_, o_, w_ 3, o_] [8, 7, 6, 5, 4, 0, 1, 29] (fun Kt => iN ((bs (minB N)).size) = iN (sz N) ∧ ¬ (j < (sz N)) ∧ ¬ ((nc (pI M N i / 256 ^ i) N (d8 M i) j) > 0) ∧ Kt [(29, .bool false), (8, iN j), (7, iN (nc (pI M N i / 256 ^ i) N (d8 M i) j)), (6, iN i), (5, .slice (some ⟨bo, 0, none⟩) (((sz M) + (sz N)) + 1) (((sz M) + (sz N)) + 1)), (4, sB []), (0, sB (minB M)), (1, sB (minB N))] [(bo, .cells (cn .u8 (yL (sz M + sz N + 1) (pI M N i) (pI M N (i + 1)) (i + j))) 5)]) (by kernel_rfl) (fun _ => by kernel_rfl) (⟨(vI ((bs_size _).trans (minB_len N))), h1, h3, fun ac19 wd19 FF19 MM19 => ?_⟩)
        refine then_n (.inr ⟨FF19.ev 0 rfl, ?_⟩)
        have MMl : MemS (fun k => k < w0.heap.size) w0 wd19 [(bo, .cells (cn .u8 (leB (sz M + sz N + 1) (pI M N (i + 1)))) 5)] [] := by rw [← pI_fin (M := M) (N := N) (i := i) (j := j) (by omega) (by omega)]; exact MM19
        refine inb_n (then_n ?_)
        refine rg_seq FF19 MMl [o_, o_, o_] [8, 7, 6, 5, 4, 0, 1] (fun Kt => i + 1 < 9223372036854775808 ∧ Kt [(6, iN (i + 1)), (8, iN j), (7, iN (nc (pI M N i / 256 ^ i) N (d8 M i) j)), (5, .slice (some ⟨bo, 0, none⟩) (((sz M) + (sz N)) + 1) (((sz M) + (sz N)) + 1)), (4, sB []), (0, sB (minB M)), (1, sB (minB N))] [(bo, .cells (cn .u8 (leB (sz M + sz N + 1) (pI M N (i + 1)))) 5)]) (by kernel_rfl) (fun _ => by kernel_rfl) (⟨(by omega), fun ac20 wd20 FF20 MM20 => ?_⟩)
        have hd := cnt_of (FF20.get 0 rfl)
        refine then_n ⟨⟨i + 1, by omega, FF20.pick [0, 3, 4, 5, 6], MM20⟩, ?_⟩
        rw [hc, hd]; omega
  · skip
    refine then_n (.inr ⟨(FF5.ev 0 rfl).trans (dec_f hlt), ?_⟩)
    obtain rfl : i = sz M := by omega
    rw [pI_all (M := M) (N := N) (Nat.le_refl (sz M))] at MM5
    refine then_n ?_
    refine wp_seq (rg_seq FF5 MM5 [o_, l_ 0 (sB (leB (sz M + sz N + 1) (M * N))), t_ (sB (minB (M * N))), o_] [6, 5, 4, 0, 1] (fun Kt => bo = bo ∧ StrAt (cn .u8 (leB (sz M + sz N + 1) (M * N))) 0 (((sz M) + (sz N)) + 1) (bs (leB (sz M + sz N + 1) (M * N))) ∧ CallP Tryd.prog 46 [sB (leB (sz M + sz N + 1) (M * N))] [] (sB (minB (M * N))) ∧ Kt [(4, sB (minB (M * N))), (6, iN (sz M)), (5, .slice (some ⟨bo, 0, none⟩) (((sz M) + (sz N)) + 1) (((sz M) + (sz N)) + 1)), (0, sB (minB M)), (1, sB (minB N))] [(bo, .cells (cn .u8 (leB (sz M + sz N + 1) (M * N))) 5)]) (by kernel_rfl) (fun _ => by kernel_rfl) (⟨rfl, (str_all (leB_len _ _) (leB_lt _ _)), (by have h0 := callP_of en_rtrim (trim_any (leB (sz M + sz N + 1) (M * N)) (leB_lt _ _) (by rw [leB_len]; omega)) []; rw [leV_leB, Nat.mod_eq_of_lt (mul_sz8 M N)] at h0; exact h0), fun ac21 wd21 FF21 MM21 => then_n ?_⟩))
    refine wp_ret ?_
    repeat first | refine then_ret ?_ | refine inb_ret ?_
    exact (ret_fr FF21 0 Tryd.results41 rfl ⟨rfl, MM21.below⟩)
end Go.Proofs.YtlljedijldkcbaaDoor
namespace Go.Proofs.YtlljedijldkcbaaDoor
open Go.RowKit
theorem sz_mul8 (M N : Nat) : sz (M * N) ≤ sz M + sz N := by
  refine sz_le ?_
  rw [Nat.pow_add]
  rcases Nat.eq_zero_or_pos N with h | h
  · subst h; rw [Nat.mul_zero]; exact Nat.mul_pos (pw_pos _) (pw_pos _)
  · exact Nat.mul_lt_mul'' (sz_ok M).1 (sz_ok N).1
theorem sz_pow8 {M : Nat} (hM : sz M ≤ 20) : ∀ i, sz (M ^ i) ≤ 1 + 20 * i
  | 0 => by rw [Nat.pow_zero]; decide
  | i + 1 => by
    rw [Nat.pow_succ]
    have h1 := sz_mul8 (M ^ i) M
    have h2 := sz_pow8 hM i
    omega
theorem cmp1_pos {M : Nat} : cmpN M 1 > ((0 : Nat) : Int) ↔ 1 < M := by
  unfold cmpN
  split
  · constructor <;> intro h <;> omega
  · split
    · constructor <;> intro h <;> omega
    · constructor <;> intro h <;> omega
theorem pow_small {M n : Nat} (h : ¬ 1 < M) (h2 : ¬ (n > 0 ∧ sz M = 0)) : 1 = M ^ n := by
  rcases Nat.eq_zero_or_pos M with e | e
  · have : n = 0 := by
      rcases Nat.eq_zero_or_pos n with q | q
      · exact q
      · exact absurd ⟨q, by rw [e]; rfl⟩ h2
    rw [this, Nat.pow_zero]
  · rw [show M = 1 by omega, Nat.one_pow]
theorem pow_none {M n : Nat} (h : n > 0) (h2 : sz M = 0) : 0 = M ^ n := by rw [sz0 h2, Nat.zero_pow h]
set_option maxRecDepth 100000 in
theorem pow8_big (M n : Nat) (hM : sz M ≤ 20) (hM1 : 1 < M) (hn : n ≤ 300) (w0 : World) :
    Calls Tryd.prog 42 #[sB (minB M), iN n] w0 fun e w' => e = .returned (sB (minB (M ^ n))) ∧ Below w0.heap.size w0 w' := by
  refine enter_fr Tryd.func42 rfl Tryd.ntmps42 (by simp) fun ac (FF : Fr 30 ac [(0, sB (minB M)), (1, iN n)]) => ?_
  have MM := MemS.start w0
  refine wp_seq (rg_seq FF MM [o_] [0, 1, 4] (fun Kt => Kt [(4, sB []), (0, sB (minB M)), (1, iN n)] []) (by kernel_rfl) (fun _ => by kernel_rfl) (fun ac1 wd1 FF1 MM1 => then_n ?_))
  refine wp_seq (rg_seq FF1 MM1 [t_ (sB (minB 1)), o_] [4, 0, 1, 5] (fun Kt => CallP Tryd.prog 39 [iW 1] [] (sB (minB 1)) ∧ Kt [(5, sB (minB 1)), (4, sB []), (0, sB (minB M)), (1, iN n)] []) (by kernel_rfl) (fun _ => by kernel_rfl) (⟨(callP_of en_rof (of_any 1 (by decide)) _), fun ac2 wd2 FF2 MM2 => then_n ?_⟩))
  have FFz : Fr 30 ac2 [(5, sB (minB (M ^ 0))), (4, sB []), (0, sB (minB M)), (1, iN n)] := by rw [Nat.pow_zero]; exact FF2
  refine wp_seq ?_
  refine wp_seq (rg_seq FFz MM2 [o_] [5, 4, 0, 1, 6] (fun Kt => Kt [(6, iN 0), (5, sB (minB (M ^ 0))), (4, sB []), (0, sB (minB M)), (1, iN n)] []) (by kernel_rfl) (fun _ => by kernel_rfl) (fun ac3 wd3 FF3 MM3 => then_n ?_))
  refine wp_for2 (fun a' w' => ∃ i : Nat, i ≤ n ∧ Fr 30 a' [(6, iN i), (5, sB (minB (M ^ i))), (4, sB []), (0, sB (minB M)), (1, iN n)] ∧ MemS (fun k => k < w0.heap.size) w0 w' [] []) (fun a' _ => (n - cnt 6 a').toNat) ⟨0, Nat.zero_le _, FF3.pick [0, 1, 2, 3, 4], MM3⟩ ?_
  rintro ac4 wd4 ⟨i, hi, FF4, MM4⟩
  have hc := cnt_of (FF4.get 0 rfl)
  by_cases h1 : i < n
  · skip
    refine rg_seq FF4 MM4 [o_, o_, w_ 2, o_, o_, t_ (sB (minB 1)), t_ (.int .i64 (cmpN M 1 : Int)), u_ 4 (.bool true), o_] [6, 5, 4, 0, 1, 16] (fun Kt => i < n ∧ CallP Tryd.prog 39 [iW 1] [] (sB (minB 1)) ∧ CallP Tryd.prog 45 [sB (minB M), sB (minB 1)] [] (.int .i64 (cmpN M 1 : Int)) ∧ Value.bool (decide ((cmpN M 1) > ((0 : Nat) : Int))) = .bool true ∧ Kt [(16, .bool true), (6, iN i), (5, sB (minB (M ^ i))), (4, sB []), (0, sB (minB M)), (1, iN n)] []) (by kernel_rfl) (fun _ => by kernel_rfl) (⟨h1, (callP_of en_rof (of_any 1 (by decide)) _), (callP_of en_rcmp (cmp_any M 1 (by have : sz 1 = 1 := rfl; omega)) _), (dec_t (cmp1_pos.2 hM1)), fun ac5 wd5 FF5 MM5 => ?_⟩)
    refine then_n (.inl ⟨FF5.ev 0 rfl, ?_⟩)
    refine rg_seq FF5 MM5 [o_, o_, t_ (sB (minB ((M ^ i) * M))), o_] [6, 5, 4, 0, 1] (fun Kt => CallP Tryd.prog 41 [sB (minB (M ^ i)), sB (minB M)] [] (sB (minB ((M ^ i) * M))) ∧ Kt [(5, sB (minB ((M ^ i) * M))), (6, iN i), (4, sB []), (0, sB (minB M)), (1, iN n)] []) (by kernel_rfl) (fun _ => by kernel_rfl) (⟨(callP_of en_rmul (mul8_any (M ^ i) M (by have := sz_pow8 hM i; omega)) _), fun ac6 wd6 FF6 MM6 => ?_⟩)
    refine inb_n (then_n ?_)
    refine rg_seq FF6 MM6 [o_, o_, o_] [5, 6, 4, 0, 1] (fun Kt => i + 1 < 9223372036854775808 ∧ Kt [(6, iN (i + 1)), (5, sB (minB ((M ^ i) * M))), (4, sB []), (0, sB (minB M)), (1, iN n)] []) (by kernel_rfl) (fun _ => by kernel_rfl) (⟨(by omega), fun ac7 wd7 FF7 MM7 => ?_⟩)
    have hd := cnt_of (FF7.get 0 rfl)
    rw [← Nat.pow_succ] at FF7
    refine then_n ⟨⟨i + 1, by omega, FF7.pick [0, 1, 2, 3, 4], MM7⟩, ?_⟩
    rw [hc, hd]; omega
  · skip
    refine rg_seq FF4 MM4 [o_, o_, w_ 3, o_, o_, o_, o_, o_, o_] [6, 5, 4, 0, 1, 16] (fun Kt => ¬ (i < n) ∧ Kt [(16, .bool false), (6, iN i), (5, sB (minB (M ^ i))), (4, sB []), (0, sB (minB M)), (1, iN n)] []) (by kernel_rfl) (fun _ => by kernel_rfl) (⟨h1, fun ac8 wd8 FF8 MM8 => ?_⟩)
    refine then_n (.inr ⟨FF8.ev 0 rfl, ?_⟩)
    obtain rfl : n = i := by omega
    refine then_n ?_
    refine wp_seq ?_
    by_cases h6 : n > 0
    · skip
      refine wp_seq (rg_seq FF8 MM8 [o_, w_ 2, o_, o_, t_ (iN (sz M)), w_ 3, o_] [6, 5, 4, 0, 1, 28] (fun Kt => n > 0 ∧ iN ((bs (minB M)).size) = iN (sz M) ∧ ¬ ((sz M) = 0) ∧ Kt [(28, .bool false), (6, iN n), (5, sB (minB (M ^ n))), (4, sB []), (0, sB (minB M)), (1, iN n)] []) (by kernel_rfl) (fun _ => by kernel_rfl) (⟨h6, (vI ((bs_size _).trans (minB_len M))), (fun e => by rw [sz0 e] at hM1; omega), fun ac9 wd9 FF9 MM9 => then_n ?_⟩))
      refine wp_cond_false (FF9.ev 0 rfl) ?_
      refine wp_skip ?_
      refine then_n ?_
      refine wp_seq (rg_seq FF9 MM9 [o_, o_] [6, 5, 4, 0, 1] (fun Kt => Kt [(4, sB (minB (M ^ n))), (6, iN n), (5, sB (minB (M ^ n))), (0, sB (minB M)), (1, iN n)] []) (by kernel_rfl) (fun _ => by kernel_rfl) (fun ac10 wd10 FF10 MM10 => then_n ?_))
      refine wp_ret ?_
      repeat first | refine then_ret ?_ | refine inb_ret ?_
      exact (ret_fr FF10 0 Tryd.results42 rfl ⟨rfl, MM10.below⟩)
    · skip
      refine wp_seq (rg_seq FF8 MM8 [o_, w_ 3, o_, o_, o_, o_, o_] [6, 5, 4, 0, 1, 28] (fun Kt => ¬ (n > 0) ∧ Kt [(28, .bool false), (6, iN n), (5, sB (minB (M ^ n))), (4, sB []), (0, sB (minB M)), (1, iN n)] []) (by kernel_rfl) (fun _ => by kernel_rfl) (⟨h6, fun ac11 wd11 FF11 MM11 => then_n ?_⟩))
      refine wp_cond_false (FF11.ev 0 rfl) ?_
      refine wp_skip ?_
      refine then_n ?_
      refine wp_seq (rg_seq FF11 MM11 [o_, o_] [6, 5, 4, 0, 1] (fun Kt => Kt [(4, sB (minB (M ^ n))), (6, iN n), (5, sB (minB (M ^ n))), (0, sB (minB M)), (1, iN n)] []) (by kernel_rfl) (fun _ => by kernel_rfl) (fun ac12 wd12 FF12 MM12 => then_n ?_))
      refine wp_ret ?_
      repeat first | refine then_ret ?_ | refine inb_ret ?_
      exact (ret_fr FF12 0 Tryd.results42 rfl ⟨rfl, MM12.below⟩)
set_option maxRecDepth 100000 in
theorem pow8_small (M n : Nat) (hM : sz M ≤ 20) (hM1 : ¬ 1 < M) (_hn : n < 9223372036854775808) (w0 : World) :
    Calls Tryd.prog 42 #[sB (minB M), iN n] w0 fun e w' => e = .returned (sB (minB (M ^ n))) ∧ Below w0.heap.size w0 w' := by
  refine enter_fr Tryd.func42 rfl Tryd.ntmps42 (by simp) fun ac (FF : Fr 30 ac [(0, sB (minB M)), (1, iN n)]) => ?_
  have MM := MemS.start w0
  refine wp_seq (rg_seq FF MM [o_] [0, 1, 4] (fun Kt => Kt [(4, sB []), (0, sB (minB M)), (1, iN n)] []) (by kernel_rfl) (fun _ => by kernel_rfl) (fun ac1 wd1 FF1 MM1 => then_n ?_))
  refine wp_seq (rg_seq FF1 MM1 [t_ (sB (minB 1)), o_] [4, 0, 1, 5] (fun Kt => CallP Tryd.prog 39 [iW 1] [] (sB (minB 1)) ∧ Kt [(5, sB (minB 1)), (4, sB []), (0, sB (minB M)), (1, iN n)] []) (by kernel_rfl) (fun _ => by kernel_rfl) (⟨(callP_of en_rof (of_any 1 (by decide)) _), fun ac2 wd2 FF2 MM2 => then_n ?_⟩))
  refine wp_seq ?_
  refine wp_seq (rg_seq FF2 MM2 [o_] [5, 4, 0, 1, 6] (fun Kt => Kt [(6, iN 0), (5, sB (minB 1)), (4, sB []), (0, sB (minB M)), (1, iN n)] []) (by kernel_rfl) (fun _ => by kernel_rfl) (fun ac3 wd3 FF3 MM3 => then_n ?_))
  refine wp_for2 (fun a' w' => ∃ i : Nat, i = 0 ∧ Fr 30 a' [(6, iN i), (5, sB (minB 1)), (4, sB []), (0, sB (minB M)), (1, iN n)] ∧ MemS (fun k => k < w0.heap.size) w0 w' [] []) (fun a' _ => 0) ⟨0, rfl, FF3.pick [0, 1, 2, 3, 4], MM3⟩ ?_
  rintro ac4 wd4 ⟨i, hi, FF4, MM4⟩
  by_cases h1 : i < n
  · skip
    refine rg_seq FF4 MM4 [o_, o_, w_ 2, o_, o_, t_ (sB (minB 1)), t_ (.int .i64 (cmpN M 1 : Int)), u_ 4 (.bool false), o_] [6, 5, 4, 0, 1, 16] (fun Kt => i < n ∧ CallP Tryd.prog 39 [iW 1] [] (sB (minB 1)) ∧ CallP Tryd.prog 45 [sB (minB M), sB (minB 1)] [] (.int .i64 (cmpN M 1 : Int)) ∧ Value.bool (decide ((cmpN M 1) > ((0 : Nat) : Int))) = .bool false ∧ Kt [(16, .bool false), (6, iN i), (5, sB (minB 1)), (4, sB []), (0, sB (minB M)), (1, iN n)] []) (by kernel_rfl) (fun _ => by kernel_rfl) (⟨h1, (callP_of en_rof (of_any 1 (by decide)) _), (callP_of en_rcmp (cmp_any M 1 (by have : sz 1 = 1 := rfl; omega)) _), (dec_f (fun h => hM1 (cmp1_pos.1 h))), fun ac5 wd5 FF5 MM5 => ?_⟩)
    refine then_n (.inr ⟨FF5.ev 0 rfl, ?_⟩)
    refine then_n ?_
    refine wp_seq ?_
    by_cases h6 : n > 0
    · by_cases h7 : sz M = 0
      · skip
        refine wp_seq (rg_seq FF5 MM5 [o_, w_ 2, o_, o_, t_ (iN (sz M)), w_ 2, o_] [6, 5, 4, 0, 1, 28] (fun Kt => n > 0 ∧ iN ((bs (minB M)).size) = iN (sz M) ∧ (sz M) = 0 ∧ Kt [(28, .bool true), (6, iN i), (5, sB (minB 1)), (4, sB []), (0, sB (minB M)), (1, iN n)] []) (by kernel_rfl) (fun _ => by kernel_rfl) (⟨h6, (vI ((bs_size _).trans (minB_len M))), h7, fun ac6 wd6 FF6 MM6 => then_n ?_⟩))
        refine wp_cond_true (FF6.ev 0 rfl) ?_
        refine wp_seq (rg_seq FF6 MM6 [o_] [6, 5, 4, 0, 1] (fun Kt => Kt [(4, sB []), (6, iN i), (5, sB (minB 1)), (0, sB (minB M)), (1, iN n)] []) (by kernel_rfl) (fun _ => by kernel_rfl) (fun ac7 wd7 FF7 MM7 => then_n ?_))
        refine wp_ret ?_
        repeat first | refine then_ret ?_ | refine inb_ret ?_
        exact (ret_fr FF7 0 Tryd.results42 rfl ⟨congrArg (fun z => Ending.returned (sB (minB z))) (pow_none h6 h7), MM7.below⟩)
      · skip
        refine wp_seq (rg_seq FF5 MM5 [o_, w_ 2, o_, o_, t_ (iN (sz M)), w_ 3, o_] [6, 5, 4, 0, 1, 28] (fun Kt => n > 0 ∧ iN ((bs (minB M)).size) = iN (sz M) ∧ ¬ ((sz M) = 0) ∧ Kt [(28, .bool false), (6, iN i), (5, sB (minB 1)), (4, sB []), (0, sB (minB M)), (1, iN n)] []) (by kernel_rfl) (fun _ => by kernel_rfl) (⟨h6, (vI ((bs_size _).trans (minB_len M))), h7, fun ac8 wd8 FF8 MM8 => then_n ?_⟩))
        refine wp_cond_false (FF8.ev 0 rfl) ?_
        refine wp_skip ?_
        refine then_n ?_
        refine wp_seq (rg_seq FF8 MM8 [o_, o_] [6, 5, 4, 0, 1] (fun Kt => Kt [(4, sB (minB 1)), (6, iN i), (5, sB (minB 1)), (0, sB (minB M)), (1, iN n)] []) (by kernel_rfl) (fun _ => by kernel_rfl) (fun ac9 wd9 FF9 MM9 => then_n ?_))
        refine wp_ret ?_
        repeat first | refine then_ret ?_ | refine inb_ret ?_
        exact (ret_fr FF9 0 Tryd.results42 rfl ⟨congrArg (fun z => Ending.returned (sB (minB z))) (pow_small hM1 (fun h => by first | exact h7 h.2 | exact h6 h.1)), MM9.below⟩)
    · skip
      refine wp_seq (rg_seq FF5 MM5 [o_, w_ 3, o_, o_, o_, o_, o_] [6, 5, 4, 0, 1, 28] (fun Kt => ¬ (n > 0) ∧ Kt [(28, .bool false), (6, iN i), (5, sB (minB 1)), (4, sB []), (0, sB (minB M)), (1, iN n)] []) (by kernel_rfl) (fun _ => by kernel_rfl) (⟨h6, fun ac10 wd10 FF10 MM10 => then_n ?_⟩))
      refine wp_cond_false (FF10.ev 0 rfl) ?_
      refine wp_skip ?_
      refine then_n ?_
      refine wp_seq (rg_seq FF10 MM10 [o_, o_] [6, 5, 4, 0, 1] (fun Kt => Kt [(4, sB (minB 1)), (6, iN i), (5, sB (minB 1)), (0, sB (minB M)), (1, iN n)] []) (by kernel_rfl) (fun _ => by kernel_rfl) (fun ac11 wd11 FF11 MM11 => then_n ?_))
      refine wp_ret ?_
      repeat first | refine then_ret ?_ | refine inb_ret ?_
      exact (ret_fr FF11 0 Tryd.results42 rfl ⟨congrArg (fun z => Ending.returned (sB (minB z))) (pow_small hM1 (fun h => by first | exact h7 h.2 | exact h6 h.1)), MM11.below⟩)
  · skip
    refine rg_seq FF4 MM4 [o_, o_, w_ 3, o_, o_, o_, o_, o_, o_] [6, 5, 4, 0, 1, 16] (fun Kt => ¬ (i < n) ∧ Kt [(16, .bool false), (6, iN i), (5, sB (minB 1)), (4, sB []), (0, sB (minB M)), (1, iN n)] []) (by kernel_rfl) (fun _ => by kernel_rfl) (⟨h1, fun ac12 wd12 FF12 MM12 => ?_⟩)
    refine then_n (.inr ⟨FF12.ev 0 rfl, ?_⟩)
    refine then_n ?_
    refine wp_seq ?_
    by_cases h6 : n > 0
    · by_cases h7 : sz M = 0
      · skip
        refine wp_seq (rg_seq FF12 MM12 [o_, w_ 2, o_, o_, t_ (iN (sz M)), w_ 2, o_] [6, 5, 4, 0, 1, 28] (fun Kt => n > 0 ∧ iN ((bs (minB M)).size) = iN (sz M) ∧ (sz M) = 0 ∧ Kt [(28, .bool true), (6, iN i), (5, sB (minB 1)), (4, sB []), (0, sB (minB M)), (1, iN n)] []) (by kernel_rfl) (fun _ => by kernel_rfl) (⟨h6, (vI ((bs_size _).trans (minB_len M))), h7, fun ac13 wd13 FF13 MM13 => then_n ?_⟩))
        refine wp_cond_true (FF13.ev 0 rfl) ?_
        refine wp_seq (rg_seq FF13 MM13 [o_] [6, 5, 4, 0, 1] (fun Kt => Kt [(4, sB []), (6, iN i), (5, sB (minB 1)), (0, sB (minB M)), (1, iN n)] []) (by kernel_rfl) (fun _ => by kernel_rfl) (fun ac14 wd14 FF14 MM14 => then_n ?_))
        refine wp_ret ?_
        repeat first | refine then_ret ?_ | refine inb_ret ?_
        exact (ret_fr FF14 0 Tryd.results42 rfl ⟨congrArg (fun z => Ending.returned (sB (minB z))) (pow_none h6 h7), MM14.below⟩)
      · skip
        refine wp_seq (rg_seq FF12 MM12 [o_, w_ 2, o_, o_, t_ (iN (sz M)), w_ 3, o_] [6, 5, 4, 0, 1, 28] (fun Kt => n > 0 ∧ iN ((bs (minB M)).size) = iN (sz M) ∧ ¬ ((sz M) = 0) ∧ Kt [(28, .bool false), (6, iN i), (5, sB (minB 1)), (4, sB []), (0, sB (minB M)), (1, iN n)] []) (by kernel_rfl) (fun _ => by kernel_rfl) (⟨h6, (vI ((bs_size _).trans (minB_len M))), h7, fun ac15 wd15 FF15 MM15 => then_n ?_⟩))
        refine wp_cond_false (FF15.ev 0 rfl) ?_
        refine wp_skip ?_
        refine then_n ?_
        refine wp_seq (rg_seq FF15 MM15 [o_, o_] [6, 5, 4, 0, 1] (fun Kt => Kt [(4, sB (minB 1)), (6, iN i), (5, sB (minB 1)), (0, sB (minB M)), (1, iN n)] []) (by kernel_rfl) (fun _ => by kernel_rfl) (fun ac16 wd16 FF16 MM16 => then_n ?_))
        refine wp_ret ?_
        repeat first | refine then_ret ?_ | refine inb_ret ?_
        exact (ret_fr FF16 0 Tryd.results42 rfl ⟨congrArg (fun z => Ending.returned (sB (minB z))) (pow_small hM1 (fun h => by first | exact h7 h.2 | exact h6 h.1)), MM16.below⟩)
    · skip
      refine wp_seq (rg_seq FF12 MM12 [o_, w_ 3, o_, o_, o_, o_, o_] [6, 5, 4, 0, 1, 28] (fun Kt => ¬ (n > 0) ∧ Kt [(28, .bool false), (6, iN i), (5, sB (minB 1)), (4, sB []), (0, sB (minB M)), (1, iN n)] []) (by kernel_rfl) (fun _ => by kernel_rfl) (⟨h6, fun ac17 wd17 FF17 MM17 => then_n ?_⟩))
      refine wp_cond_false (FF17.ev 0 rfl) ?_
      refine wp_skip ?_
      refine then_n ?_
      refine wp_seq (rg_seq FF17 MM17 [o_, o_] [6, 5, 4, 0, 1] (fun Kt => Kt [(4, sB (minB 1)), (6, iN i), (5, sB (minB 1)), (0, sB (minB M)), (1, iN n)] []) (by kernel_rfl) (fun _ => by kernel_rfl) (fun ac18 wd18 FF18 MM18 => then_n ?_))
      refine wp_ret ?_
      repeat first | refine then_ret ?_ | refine inb_ret ?_
      exact (ret_fr FF18 0 Tryd.results42 rfl ⟨congrArg (fun z => Ending.returned (sB (minB z))) (pow_small hM1 (fun h => by first | exact h7 h.2 | exact h6 h.1)), MM18.below⟩)
theorem pow8_any (M n : Nat) (hM : sz M ≤ 20) (hn : n < 9223372036854775808) (h : ¬ 1 < M ∨ n ≤ 300) (w : World) : Calls Tryd.prog 42 #[sB (minB M), iN n] w fun e w' => e = .returned (sB (minB (M ^ n))) ∧ Below w.heap.size w w' := by
  by_cases h1 : 1 < M
  · exact pow8_big M n hM h1 (h.resolve_left (fun q => q h1)) w
  · exact pow8_small M n hM h1 hn w
end Go.Proofs.YtlljedijldkcbaaDoor
namespace Go.Proofs.YtlljedijldkcbaaDoor
open Go.RowKit
theorem en_rtake : Enters Tryd.prog 65 := fun args w => by simp [go_sem]
theorem en_runder : Enters Tryd.prog 48 := fun args w => by simp [go_sem]
/-- The document's tape: its bytes, how many were taken. -/
abbrev RB (X : List Nat) (u : Nat) : Obj := .cells #[sB X, iN u] 54
set_option maxRecDepth 100000 in
theorem rtake_any (g n : Nat) (X : List Nat) (u : Nat) (hX : ∀ i, X.getD i 0 < 256) (hu : u < 4611686018427387904) (hn : n ≤ 65536) (w0 : World) (hg : w0.heap[g]? = some (RB X u)) :
    Calls Tryd.prog 65 #[pT g, iN n] w0 fun e w' => e = .returned (sB (takN n (X.drop u))) ∧ Turn g (RB X (u + n)) w0 w' := by
  refine enter_fr Tryd.func65 rfl Tryd.ntmps65 (by simp) fun ac (FF : Fr 51 ac [(0, pT g), (1, iN n)]) => ?_
  have MM : MemS (fun k => k < w0.heap.size ∧ ∀ x ∈ (g, oC #[sB X, iN u] 54) :: ([] : Blks), x.1 ≠ k) w0 w0 ((g, oC #[sB X, iN u] 54) :: ([] : Blks)) [] := MemS.startN (one_has hg) ⟨fun y hy => (nomatch hy), trivial⟩
  have hgl : ∀ j i, (genL n (fun j => (X.drop u).getD j 0) j).getD i 0 < 256 := fun j => genL_lt (by decide) (fun i => dropX_lt hX u i) j
  refine wp_seq (rg_seq FF MM [o_] [0, 1, 4] (fun Kt => Kt [(4, sB []), (0, pT g), (1, iN n)] ((g, oC #[sB X, iN u] 54) :: ([] : Blks))) (by kernel_rfl) (fun _ => by kernel_rfl) (fun ac1 wd1 FF1 MM1 => then_n ?_))
  refine wp_seq ?_
  refine wp_seq (rg_seq FF1 MM1 [o_, w_ 3, o_, o_, w_ 3, o_] [4, 0, 1, 12] (fun Kt => ¬ (n < 0) ∧ ¬ (n > 65536) ∧ Kt [(12, .bool false), (4, sB []), (0, pT g), (1, iN n)] ((g, oC #[sB X, iN u] 54) :: ([] : Blks))) (by kernel_rfl) (fun _ => by kernel_rfl) (⟨(by have := hn; omega), (by have := hn; omega), fun ac2 wd2 FF2 MM2 => then_n ?_⟩))
  refine wp_cond_false (FF2.ev 0 rfl) ?_
  refine wp_skip ?_
  refine then_n ?_
  refine wp_seq (rg_seq FF2 MM2 [o_, n_ (.slice none n n) (.cells (cn .u8 (List.replicate n 0)) 5), o_] [4, 0, 1, 5] (fun Kt => RunN Tryd.prog [(13, iN n), (12, .bool false), (4, sB []), (0, pT g), (1, iN n)] ((g, oC #[sB X, iN u] 54) :: ([] : Blks)) (opAt Tryd.f65 3 1) (mkOf (.slice none n n)) (.cells (cn .u8 (List.replicate n 0)) 5) ∧ ∀ bo, Kt [(5, .slice (some ⟨bo, 0, none⟩) n n), (4, sB []), (0, pT g), (1, iN n)] ((bo, .cells (cn .u8 (List.replicate n 0)) 5) :: (g, oC #[sB X, iN u] 54) :: ([] : Blks))) (by kernel_rfl) (fun _ => by kernel_rfl) (⟨(make_ok (t := 67) (e := 5) (p := (.tmp 13)) (q := (.tmp 13)) (by kernel_rfl) rfl rfl Tryd.underlying67 (by kernel_rfl) (by have := hn; omega)), fun bo => fun ac3 wd3 FF3 MM3 => then_n ?_⟩))
  have MMr10 : MemS (fun k => k < w0.heap.size ∧ ∀ x ∈ (g, oC #[sB X, iN u] 54) :: ([] : Blks), x.1 ≠ k) w0 wd3 ((bo, .cells (cn .u8 (genL n (fun j => (X.drop u).getD j 0) 0)) 5) :: (g, oC #[sB X, iN u] 54) :: ([] : Blks)) [] := by rw [← genL_zero n (fun j => (X.drop u).getD j 0)]; exact MM3
  refine wp_seq ?_
  refine wp_seq (rg_seq FF3 MMr10 [o_] [5, 4, 0, 1, 6] (fun Kt => Kt [(6, iN 0), (5, .slice (some ⟨bo, 0, none⟩) n n), (4, sB []), (0, pT g), (1, iN n)] ((bo, .cells (cn .u8 (genL n (fun j => (X.drop u).getD j 0) 0)) 5) :: (g, oC #[sB X, iN u] 54) :: ([] : Blks))) (by kernel_rfl) (fun _ => by kernel_rfl) (fun ac4 wd4 FF4 MM4 => then_n ?_))
  refine wp_for2 (fun a' w' => ∃ i : Nat, i ≤ n ∧ Fr 51 a' [(6, iN i), (5, .slice (some ⟨bo, 0, none⟩) n n), (4, sB []), (0, pT g), (1, iN n)] ∧ MemS (fun k => k < w0.heap.size ∧ ∀ x ∈ (g, oC #[sB X, iN u] 54) :: ([] : Blks), x.1 ≠ k) w0 w' ((bo, .cells (cn .u8 (genL n (fun j => (X.drop u).getD j 0) i)) 5) :: (g, oC #[sB X, iN (u + i)] 54) :: ([] : Blks)) []) (fun a' _ => (n - cnt 6 a').toNat) ⟨0, Nat.zero_le _, FF4.pick [0, 1, 2, 3, 4], MM4⟩ ?_
  rintro ac5 wd5 ⟨i, hi, FF5, MM5⟩
  have hc := cnt_of (FF5.get 0 rfl)
  refine rg_seq FF5 MM5 [o_, o_, o_] [6, 5, 4, 0, 1, 17] (fun Kt => Kt [(17, .bool (decide (i < n))), (6, iN i), (5, .slice (some ⟨bo, 0, none⟩) n n), (4, sB []), (0, pT g), (1, iN n)] ((bo, .cells (cn .u8 (genL n (fun j => (X.drop u).getD j 0) i)) 5) :: (g, oC #[sB X, iN (u + i)] 54) :: ([] : Blks))) (by kernel_rfl) (fun _ => by kernel_rfl) (fun ac6 wd6 FF6 MM6 => ?_)
  by_cases hlt : i < n
  · skip
    refine then_n (.inl ⟨(FF6.ev 0 rfl).trans (dec_t hlt), ?_⟩)
    refine wp_mid (fun a' w' => Fr 51 a' [(6, iN i), (5, .slice (some ⟨bo, 0, none⟩) n n), (4, sB []), (0, pT g), (1, iN n)] ∧ MemS (fun k => k < w0.heap.size ∧ ∀ x ∈ (g, oC #[sB X, iN u] 54) :: ([] : Blks), x.1 ≠ k) w0 w' ((bo, .cells (cn .u8 (genL n (fun j => (X.drop u).getD j 0) (i + 1))) 5) :: (g, oC #[sB X, iN (u + i)] 54) :: ([] : Blks)) []) ?_ ?_
    · skip
      refine wp_seq (rg_draw FF6 MM6 [.inl (pT g), .inl (pT g), .inl (.pointer (some ⟨g, 1, none⟩)), .inl (iN (u + i)), .inl (pT g), .inl (pT g), .inl (pT g), .inl (sB X), .inl (iN X.length), .inl (.bool (decide ((u + i) < X.length)))] [] [o_, o_, o_, l_ 1 (iN (u + i)), o_, o_, o_, l_ 1 (sB X), t_ (iN X.length), o_] [] [6, 5, 4, 0, 1, 29] (fun nb => [g = g, (#[sB X, iN (u + i)] : Array Value)[1]? = some (iN (u + i)), g = g, (#[sB X, iN (u + i)] : Array Value)[0]? = some (sB X), iN ((bs X).size) = iN X.length]) (fun nb Kt => Kt [(29, .bool (decide ((u + i) < X.length))), (6, iN i), (5, .slice (some ⟨bo, 0, none⟩) n n), (4, sB []), (0, pT g), (1, iN n)] ((bo, .cells (cn .u8 (genL n (fun j => (X.drop u).getD j 0) i)) 5) :: (g, oC #[sB X, iN (u + i)] 54) :: ([] : Blks))) (by kernel_rfl) (by kernel_rfl) (by kernel_rfl) (fun _ => by kernel_rfl) (fun _ _ => by kernel_rfl) trivial (fun nb => ⟨rfl, rfl, rfl, rfl, (vI (bs_size _)), trivial⟩) (fun nb => fun ac7 wd7 FF7 MM7 => then_n ?_))
      by_cases hs29 : (u + i) < X.length
      · refine wp_cond_true ((FF7.ev 0 rfl).trans (dec_t hs29)) ?_
        refine rg_draw FF7 MM7 [.inl (.slice (some ⟨bo, 0, none⟩) n n), .inl (iN i), .inl (pT g), .inl (pT g), .inl (pT g), .inl (sB X), .inl (pT g), .inl (pT g), .inl (.pointer (some ⟨g, 1, none⟩)), .inl (iN (u + i)), .inl (iB ((X.drop u).getD i 0)), .inl (.pointer (some ⟨bo, i, none⟩))] [] [o_, o_, o_, o_, o_, l_ 1 (sB X), o_, o_, o_, l_ 1 (iN (u + i)), t_ (iB ((X.drop u).getD i 0)), w_ 1] [s_ 0 (.cells (cn .u8 (genL n (fun j => (X.drop u).getD j 0) (i + 1))) 5)] [6, 5, 4, 0, 1] (fun nb => [g = g, (#[sB X, iN (u + i)] : Array Value)[0]? = some (sB X), g = g, (#[sB X, iN (u + i)] : Array Value)[1]? = some (iN (u + i)), (u + i) < (bs X).size, (nl (bs X)).getD (u + i) 0 = (X.drop u).getD i 0, i < n]) (fun nb Kt => bo = bo ∧ i < (cn .u8 (genL n (fun j => (X.drop u).getD j 0) i)).size ∧ (((0, 0)).2 = 0 ∨ i < ((0, 0)).1) ∧ (cn .u8 (genL n (fun j => (X.drop u).getD j 0) i)).setIfInBounds i (iB ((X.drop u).getD i 0)) = cn .u8 (genL n (fun j => (X.drop u).getD j 0) (i + 1)) ∧ Kt [(6, iN i), (5, .slice (some ⟨bo, 0, none⟩) n n), (4, sB []), (0, pT g), (1, iN n)] ((bo, .cells (cn .u8 (genL n (fun j => (X.drop u).getD j 0) (i + 1))) 5) :: (g, oC #[sB X, iN (u + i)] 54) :: ([] : Blks))) (by kernel_rfl) (by kernel_rfl) (by kernel_rfl) (fun _ => by kernel_rfl) (fun _ _ => by kernel_rfl) trivial (fun nb => ⟨rfl, rfl, rfl, rfl, (by rw [bs_size]; exact hs29), ((byte_bs hX _).trans (dropD X u i).symm), (by omega), trivial⟩) (fun nb => ⟨rfl, (by rw [cn_size, (genL_len _ _ _)]; omega), (.inl rfl), ((cn_set _ _ _ _).trans (congrArg _ (genL_step _ _ i (by omega) rfl))), fun ac8 wd8 FF8 MM8 => ?_⟩)
        refine then_n ?_
        exact ⟨FF8.pick [0, 1, 2, 3, 4], MM8⟩
      · refine wp_cond_false ((FF7.ev 0 rfl).trans (dec_f hs29)) ?_
        have MMr29 : MemS (fun k => k < w0.heap.size ∧ ∀ x ∈ (g, oC #[sB X, iN u] 54) :: ([] : Blks), x.1 ≠ k) w0 wd7 ((bo, .cells (cn .u8 (genL n (fun j => (X.drop u).getD j 0) (i + 1))) 5) :: (g, oC #[sB X, iN (u + i)] 54) :: ([] : Blks)) [] := by rw [tk_zero (X := X.drop u) (by simp; omega) hlt]; exact MM7
        refine wp_skip ?_
        refine then_n ?_
        exact ⟨FF7.pick [1, 2, 3, 4, 5], MMr29⟩
    · rintro ac9 wd9 ⟨FF9, MM9⟩
      refine rg_seq FF9 MM9 [o_, o_, o_, l_ 1 (iN (u + i)), o_, o_, o_, s_ 1 (oC #[sB X, iN ((u + i) + 1)] 54)] [6, 5, 4, 0, 1] (fun Kt => g = g ∧ (#[sB X, iN (u + i)] : Array Value)[1]? = some (iN (u + i)) ∧ (u + i) + 1 < 9223372036854775808 ∧ g = g ∧ 1 < (#[sB X, iN (u + i)] : Array Value).size ∧ (((0, 0)).2 = 0 ∨ 1 < ((0, 0)).1) ∧ (#[sB X, iN (u + i)] : Array Value).setIfInBounds 1 (iN ((u + i) + 1)) = #[sB X, iN ((u + i) + 1)] ∧ Kt [(6, iN i), (5, .slice (some ⟨bo, 0, none⟩) n n), (4, sB []), (0, pT g), (1, iN n)] ((bo, .cells (cn .u8 (genL n (fun j => (X.drop u).getD j 0) (i + 1))) 5) :: (g, oC #[sB X, iN ((u + i) + 1)] 54) :: ([] : Blks))) (by kernel_rfl) (fun _ => by kernel_rfl) (⟨rfl, rfl, (by omega), rfl, (by simp), (.inl rfl), rfl, fun ac10 wd10 FF10 MM10 => ?_⟩)
      refine inb_n (then_n ?_)
      refine rg_seq FF10 MM10 [o_, o_, o_] [6, 5, 4, 0, 1] (fun Kt => i + 1 < 9223372036854775808 ∧ Kt [(6, iN (i + 1)), (5, .slice (some ⟨bo, 0, none⟩) n n), (4, sB []), (0, pT g), (1, iN n)] ((bo, .cells (cn .u8 (genL n (fun j => (X.drop u).getD j 0) (i + 1))) 5) :: (g, oC #[sB X, iN ((u + i) + 1)] 54) :: ([] : Blks))) (by kernel_rfl) (fun _ => by kernel_rfl) (⟨(by omega), fun ac11 wd11 FF11 MM11 => ?_⟩)
      have hd := cnt_of (FF11.get 0 rfl)
      refine then_n ⟨⟨i + 1, by omega, FF11.pick [0, 1, 2, 3, 4], MM11⟩, ?_⟩
      rw [hc, hd]; omega
  · skip
    refine then_n (.inr ⟨(FF6.ev 0 rfl).trans (dec_f hlt), ?_⟩)
    obtain rfl : n = i := by omega
    have MMl : MemS (fun k => k < w0.heap.size ∧ ∀ x ∈ (g, oC #[sB X, iN u] 54) :: ([] : Blks), x.1 ≠ k) w0 wd6 ((bo, .cells (cn .u8 (takN n (X.drop u))) 5) :: (g, oC #[sB X, iN (u + n)] 54) :: ([] : Blks)) [] := by rw [← tkI_end n (X.drop u)]; exact MM6
    refine then_n ?_
    refine wp_seq (rg_seq FF6 MMl [o_, l_ 0 (sB (takN n (X.drop u))), o_] [6, 5, 4, 0, 1] (fun Kt => bo = bo ∧ StrAt (cn .u8 (takN n (X.drop u))) 0 n (bs (takN n (X.drop u))) ∧ Kt [(4, sB (takN n (X.drop u))), (6, iN n), (5, .slice (some ⟨bo, 0, none⟩) n n), (0, pT g), (1, iN n)] ((bo, .cells (cn .u8 (takN n (X.drop u))) 5) :: (g, oC #[sB X, iN (u + n)] 54) :: ([] : Blks))) (by kernel_rfl) (fun _ => by kernel_rfl) (⟨rfl, (str_all (takN_len _ _) (takN_lt (dropX_lt hX u) n)), fun ac12 wd12 FF12 MM12 => then_n ?_⟩))
    refine wp_ret ?_
    repeat first | refine then_ret ?_ | refine inb_ret ?_
    exact (ret_fr FF12 0 Tryd.results65 rfl ⟨rfl, MM12.turn (O := []) (fun i x hx => by simp at hx) 1 rfl (fun x hx => (nomatch hx))⟩)
end Go.Proofs.YtlljedijldkcbaaDoor
namespace Go.Proofs.YtlljedijldkcbaaDoor
open Go.RowKit
theorem minB_zero : minB 0 = [] := by decide
theorem sz_bits {N : Nat} (h : bsz N ≤ 1024) : sz N ≤ 128 := sz_le (Nat.lt_of_lt_of_le (bsz_ok N).1 (Nat.le_trans (Nat.pow_le_pow_right (by decide) h) (by decide +kernel)))
theorem sz_bit {b : Nat} (X : List Nat) (h : b ≤ 1024) : sz (bitN b X) ≤ 128 := sz_le (Nat.lt_of_lt_of_le (bitN_lt b X) (Nat.le_trans (Nat.pow_le_pow_right (by decide) h) (by decide +kernel)))
set_option maxRecDepth 100000 in
theorem runder_any (g : Nat) (X : List Nat) (u : Nat) (hX : ∀ i, X.getD i 0 < 256) (hu : u < 4611686018427000000) (N k : Nat) (h1 : 1 ≤ bsz N) (hb : bsz N ≤ 1024) (hk1 : 1 ≤ k) (hk : k ≤ 16) (w0 : World) (hg : w0.heap[g]? = some (RB X u)) :
    Calls Tryd.prog 48 #[pT g, sB (minB N), iN k] w0 fun e w' => e = .returned (.tuple #[sB (minB (undN N (bsz N) k (X.drop u)).1), iN ((undN N (bsz N) k (X.drop u)).2.1)]) ∧ Turn g (RB X (u + (undN N (bsz N) k (X.drop u)).2.2)) w0 w' := by
  refine enter_fr Tryd.func48 rfl Tryd.ntmps48 (by simp) fun ac (FF : Fr 59 ac [(0, pT g), (1, sB (minB N)), (2, iN k)]) => ?_
  have MM : MemS (fun k => k < w0.heap.size ∧ ∀ x ∈ (g, oC #[sB X, iN u] 54) :: ([] : Blks), x.1 ≠ k) w0 w0 ((g, oC #[sB X, iN u] 54) :: ([] : Blks)) [] := MemS.startN (one_has hg) ⟨fun y hy => (nomatch hy), trivial⟩
  have hsN := sz_bits hb
  refine wp_seq (rg_seq FF MM [o_, o_] [0, 1, 2, 6, 7] (fun Kt => Kt [(7, iN 0), (6, sB []), (0, pT g), (1, sB (minB N)), (2, iN k)] ((g, oC #[sB X, iN u] 54) :: ([] : Blks))) (by kernel_rfl) (fun _ => by kernel_rfl) (fun ac1 wd1 FF1 MM1 => then_n ?_))
  refine wp_seq (rg_seq FF1 MM1 [o_, t_ (iN (bsz N)), o_] [7, 6, 0, 1, 2, 8] (fun Kt => CallP Tryd.prog 63 [sB (minB N)] [] (iN (bsz N)) ∧ Kt [(8, iN (bsz N)), (7, iN 0), (6, sB []), (0, pT g), (1, sB (minB N)), (2, iN k)] ((g, oC #[sB X, iN u] 54) :: ([] : Blks))) (by kernel_rfl) (fun _ => by kernel_rfl) (⟨(callP_of en_rbits (bits8_any N (by omega)) _), fun ac2 wd2 FF2 MM2 => then_n ?_⟩))
  refine wp_seq ?_
  refine wp_seq (rg_seq FF2 MM2 [o_, w_ 3, o_, o_, w_ 3, o_, o_, o_, t_ (.bool true), o_, o_] [8, 7, 6, 0, 1, 2, 24] (fun Kt => ¬ ((bsz N) < 1) ∧ ¬ ((bsz N) > 1024) ∧ CallP Tryd.prog 64 [iN k] [] (.bool true) ∧ Kt [(24, .bool false), (8, iN (bsz N)), (7, iN 0), (6, sB []), (0, pT g), (1, sB (minB N)), (2, iN k)] ((g, oC #[sB X, iN u] 54) :: ([] : Blks))) (by kernel_rfl) (fun _ => by kernel_rfl) (⟨(by omega), (by omega), (callP_of en_tries (tries_yes k (by omega) (by omega)) _), fun ac3 wd3 FF3 MM3 => then_n ?_⟩))
  refine wp_cond_false (FF3.ev 0 rfl) ?_
  refine wp_skip ?_
  refine then_n ?_
  refine wp_seq ?_
  refine wp_seq (rg_seq FF3 MM3 [o_] [8, 7, 6, 0, 1, 2, 9] (fun Kt => Kt [(9, iN 0), (8, iN (bsz N)), (7, iN 0), (6, sB []), (0, pT g), (1, sB (minB N)), (2, iN k)] ((g, oC #[sB X, iN u] 54) :: ([] : Blks))) (by kernel_rfl) (fun _ => by kernel_rfl) (fun ac4 wd4 FF4 MM4 => then_n ?_))
  refine wp_for2 (fun a' w' => ∃ i : Nat, i ≤ k ∧ UndI N (bsz N) k (X.drop u) i ∧ Fr 59 a' [(9, iN i), (8, iN (bsz N)), (0, pT g), (1, sB (minB N)), (2, iN k)] ∧ MemS (fun k => k < w0.heap.size ∧ ∀ x ∈ (g, oC #[sB X, iN u] 54) :: ([] : Blks), x.1 ≠ k) w0 w' ((g, oC #[sB X, iN (u + (bsz N + 7) / 8 * i)] 54) :: ([] : Blks)) []) (fun a' _ => (k - cnt 9 a').toNat) ⟨0, Nat.zero_le _, und_start _ _ _ _, FF4.pick [0, 1, 4, 5, 6], MM4⟩ ?_
  rintro ac5 wd5 ⟨i, hi, hI, FF5, MM5⟩
  have hc := cnt_of (FF5.get 0 rfl)
  refine rg_seq FF5 MM5 [o_, o_, o_] [9, 8, 0, 1, 2, 27] (fun Kt => Kt [(27, .bool (decide (i < k))), (9, iN i), (8, iN (bsz N)), (0, pT g), (1, sB (minB N)), (2, iN k)] ((g, oC #[sB X, iN (u + (bsz N + 7) / 8 * i)] 54) :: ([] : Blks))) (by kernel_rfl) (fun _ => by kernel_rfl) (fun ac6 wd6 FF6 MM6 => ?_)
  by_cases hlt : i < k
  · skip
    refine then_n (.inl ⟨(FF6.ev 0 rfl).trans (dec_t hlt), ?_⟩)
    have hmi : (bsz N + 7) / 8 * i ≤ 129 * 16 := Nat.mul_le_mul (by omega) (by omega)
    have hXi := dropX_lt hX (u + (bsz N + 7) / 8 * i)
    have hmk : (takN ((bsz N + 7) / 8) (X.drop (u + (bsz N + 7) / 8 * i))).getD ((bsz N + 7) / 8 - 1) 0 &&& ((1 * 2 ^ (bsz N % 8) % 256 + (256 - 1)) % 256) < 256 := Nat.lt_of_le_of_lt Nat.and_le_left (takN_lt hXi _ _)
    have hY2 := setY_lt (i := (bsz N + 7) / 8 - 1) (takN_lt hXi ((bsz N + 7) / 8)) hmk
    refine wp_seq (wp_region_list ?_)
    refine rg_part 5 FF6 MM6 [o_, o_, o_, o_, c_ (sB (takN (((bsz N) + 7) / 8) (X.drop (u + (bsz N + 7) / 8 * i)))) [(0, oC #[sB X, iN (u + (bsz N + 7) / 8 * (i + 1))] 54)]] [9, 8, 0, 1, 2, 34] (fun Kt => (bsz N) + 7 < 9223372036854775808 ∧ 8 ≠ 0 ∧ ((bsz N) + 7) / 8 < 9223372036854775808 ∧ CallU Tryd.prog 65 [pT g, iN (((bsz N) + 7) / 8)] ((g, oC #[sB X, iN (u + (bsz N + 7) / 8 * i)] 54) :: ([] : Blks)) (sB (takN (((bsz N) + 7) / 8) (X.drop (u + (bsz N + 7) / 8 * i)))) [(0, oC #[sB X, iN (u + (bsz N + 7) / 8 * (i + 1))] 54)] ∧ Kt [(34, sB (takN (((bsz N) + 7) / 8) (X.drop (u + (bsz N + 7) / 8 * i)))), (9, iN i), (8, iN (bsz N)), (0, pT g), (1, sB (minB N)), (2, iN k)] ((g, oC #[sB X, iN (u + (bsz N + 7) / 8 * (i + 1))] 54) :: ([] : Blks))) (by kernel_rfl) (fun _ => by kernel_rfl) (⟨(by have := hb; omega), (by decide), (by have := hb; omega), (callU_turn en_rtake (g := g) (ob := RB X (u + (bsz N + 7) / 8 * i)) rfl fun w hg => by have h0 := rtake_any g (((bsz N) + 7) / 8) X (u + (bsz N + 7) / 8 * i) hX (by omega) (by omega) w hg; rw [Nat.add_assoc, ← Nat.mul_succ] at h0; exact h0), fun ac7 wd7 FF7 MM7 => ?_⟩)
    refine st_new [9, 8, 0, 1, 2, 35] FF7 MM7 (d := 35) (bytes_ok (e := 5) (x := (.tmp 34)) (by kernel_rfl) rfl (takN_lt (dropX_lt hX (u + (bsz N + 7) / 8 * i)) (((bsz N) + 7) / 8)) Tryd.underlying9 Tryd.underlying67 Tryd.underlying5) rfl rfl (by decide) fun ac8 wd8 bs_ cz (FF8 : Fr 59 ac8 [(35, .slice (some ⟨bs_, 0, none⟩) ((takN (((bsz N) + 7) / 8) (X.drop (u + (bsz N + 7) / 8 * i))).length) ((takN (((bsz N) + 7) / 8) (X.drop (u + (bsz N + 7) / 8 * i))).length + cz)), (9, iN i), (8, iN (bsz N)), (0, pT g), (1, sB (minB N)), (2, iN k)]) (MM8 : MemS (fun k => k < w0.heap.size ∧ ∀ x ∈ (g, oC #[sB X, iN u] 54) :: ([] : Blks), x.1 ≠ k) w0 wd8 ((bs_, .cells (cn .u8 ((takN (((bsz N) + 7) / 8) (X.drop (u + (bsz N + 7) / 8 * i))) ++ List.replicate cz 0)) 5 ((takN (((bsz N) + 7) / 8) (X.drop (u + (bsz N + 7) / 8 * i))).length + cz, (takN (((bsz N) + 7) / 8) (X.drop (u + (bsz N + 7) / 8 * i))).length + cz + 1)) :: (g, oC #[sB X, iN (u + (bsz N + 7) / 8 * (i + 1))] 54) :: ([] : Blks)) []) => ?_
    refine rg_part 1 FF8 MM8 [o_] [9, 8, 0, 1, 2, 10] (fun Kt => Kt [(10, .slice (some ⟨bs_, 0, none⟩) ((takN (((bsz N) + 7) / 8) (X.drop (u + (bsz N + 7) / 8 * i))).length) ((takN (((bsz N) + 7) / 8) (X.drop (u + (bsz N + 7) / 8 * i))).length + cz)), (9, iN i), (8, iN (bsz N)), (0, pT g), (1, sB (minB N)), (2, iN k)] ((bs_, .cells (cn .u8 ((takN (((bsz N) + 7) / 8) (X.drop (u + (bsz N + 7) / 8 * i))) ++ List.replicate cz 0)) 5 ((takN (((bsz N) + 7) / 8) (X.drop (u + (bsz N + 7) / 8 * i))).length + cz, (takN (((bsz N) + 7) / 8) (X.drop (u + (bsz N + 7) / 8 * i))).length + cz + 1)) :: (g, oC #[sB X, iN (u + (bsz N + 7) / 8 * (i + 1))] 54) :: ([] : Blks))) (by kernel_rfl) (fun _ => by kernel_rfl) (fun ac9 wd9 FF9 MM9 => ?_)
    refine wpl_nil (then_n ?_)
    refine wp_mid (fun a' w' => ∃ Z : List Nat, Z.length = (takN ((bsz N + 7) / 8) (X.drop (u + (bsz N + 7) / 8 * i))).length ∧ (∀ i, Z.getD i 0 < 256) ∧ leV Z = bitN (bsz N) (X.drop (u + (bsz N + 7) / 8 * i)) ∧ Fr 59 a' [(10, .slice (some ⟨bs_, 0, none⟩) ((takN (((bsz N) + 7) / 8) (X.drop (u + (bsz N + 7) / 8 * i))).length) ((takN (((bsz N) + 7) / 8) (X.drop (u + (bsz N + 7) / 8 * i))).length + cz)), (9, iN i), (8, iN (bsz N)), (0, pT g), (1, sB (minB N)), (2, iN k)] ∧ MemS (fun k => k < w0.heap.size ∧ ∀ x ∈ (g, oC #[sB X, iN u] 54) :: ([] : Blks), x.1 ≠ k) w0 w' ((bs_, .cells (cn .u8 (Z ++ List.replicate cz 0)) 5 ((takN ((bsz N + 7) / 8) (X.drop (u + (bsz N + 7) / 8 * i))).length + cz, (takN ((bsz N + 7) / 8) (X.drop (u + (bsz N + 7) / 8 * i))).length + cz + 1)) :: (g, oC #[sB X, iN (u + (bsz N + 7) / 8 * (i + 1))] 54) :: ([] : Blks)) []) ?_ ?_
    · skip
      refine wp_seq (rg_seq FF9 MM9 [o_, o_, o_] [10, 9, 8, 0, 1, 2, 38] (fun Kt => 8 ≠ 0 ∧ Kt [(38, .bool (decide (((bsz N) % 8) ≠ 0))), (10, .slice (some ⟨bs_, 0, none⟩) ((takN (((bsz N) + 7) / 8) (X.drop (u + (bsz N + 7) / 8 * i))).length) ((takN (((bsz N) + 7) / 8) (X.drop (u + (bsz N + 7) / 8 * i))).length + cz)), (9, iN i), (8, iN (bsz N)), (0, pT g), (1, sB (minB N)), (2, iN k)] ((bs_, .cells (cn .u8 ((takN (((bsz N) + 7) / 8) (X.drop (u + (bsz N + 7) / 8 * i))) ++ List.replicate cz 0)) 5 ((takN (((bsz N) + 7) / 8) (X.drop (u + (bsz N + 7) / 8 * i))).length + cz, (takN (((bsz N) + 7) / 8) (X.drop (u + (bsz N + 7) / 8 * i))).length + cz + 1)) :: (g, oC #[sB X, iN (u + (bsz N + 7) / 8 * (i + 1))] 54) :: ([] : Blks))) (by kernel_rfl) (fun _ => by kernel_rfl) (⟨(by decide), fun ac10 wd10 FF10 MM10 => then_n ?_⟩))
      by_cases hs38 : ((bsz N) % 8) ≠ 0
      · refine wp_cond_true ((FF10.ev 0 rfl).trans (dec_t hs38)) ?_
        refine rg_draw FF10 MM10 [.inl (.slice (some ⟨bs_, 0, none⟩) ((takN (((bsz N) + 7) / 8) (X.drop (u + (bsz N + 7) / 8 * i))).length) ((takN (((bsz N) + 7) / 8) (X.drop (u + (bsz N + 7) / 8 * i))).length + cz)), .inl (.slice (some ⟨bs_, 0, none⟩) ((takN (((bsz N) + 7) / 8) (X.drop (u + (bsz N + 7) / 8 * i))).length) ((takN (((bsz N) + 7) / 8) (X.drop (u + (bsz N + 7) / 8 * i))).length + cz)), .inl (iN ((bsz N + 7) / 8)), .inl (iN (((bsz N + 7) / 8) - 1)), .inl (.pointer (some ⟨bs_, ((bsz N + 7) / 8) - 1, none⟩)), .inl (iB ((takN ((bsz N + 7) / 8) (X.drop (u + (bsz N + 7) / 8 * i))).getD ((bsz N + 7) / 8 - 1) 0)), .inl (iN (bsz N)), .inl (iN ((bsz N) % 8)), .inl (iB (1 * (2 ^ ((bsz N) % 8)) % 256)), .inl (iB (((1 * (2 ^ ((bsz N) % 8)) % 256) + (256 - 1)) % 256)), .inl (iB (((takN ((bsz N + 7) / 8) (X.drop (u + (bsz N + 7) / 8 * i))).getD ((bsz N + 7) / 8 - 1) 0) &&& (((1 * (2 ^ ((bsz N) % 8)) % 256) + (256 - 1)) % 256))), .inl (.pointer (some ⟨bs_, ((bsz N + 7) / 8) - 1, none⟩))] [] [o_, o_, t_ (iN ((bsz N + 7) / 8)), o_, w_ 1, l_ 0 (iB ((takN ((bsz N + 7) / 8) (X.drop (u + (bsz N + 7) / 8 * i))).getD ((bsz N + 7) / 8 - 1) 0)), o_, o_, o_, o_, o_, w_ 1] [s_ 0 (.cells (cn .u8 ((takN ((bsz N + 7) / 8) (X.drop (u + (bsz N + 7) / 8 * i))).set ((bsz N + 7) / 8 - 1) ((takN ((bsz N + 7) / 8) (X.drop (u + (bsz N + 7) / 8 * i))).getD ((bsz N + 7) / 8 - 1) 0 &&& ((1 * 2 ^ (bsz N % 8) % 256 + (256 - 1)) % 256)) ++ List.replicate cz 0)) 5)] [10, 9, 8, 0, 1, 2] (fun nb => [iN ((takN (((bsz N) + 7) / 8) (X.drop (u + (bsz N + 7) / 8 * i))).length) = iN ((bsz N + 7) / 8), 1 ≤ ((bsz N + 7) / 8), ((bsz N + 7) / 8) - 1 < 9223372036854775808, (((bsz N + 7) / 8) - 1) < ((takN (((bsz N) + 7) / 8) (X.drop (u + (bsz N + 7) / 8 * i))).length), bs_ = bs_, (cn .u8 ((takN (((bsz N) + 7) / 8) (X.drop (u + (bsz N + 7) / 8 * i))) ++ List.replicate cz 0))[((bsz N + 7) / 8) - 1]? = some (iB ((takN ((bsz N + 7) / 8) (X.drop (u + (bsz N + 7) / 8 * i))).getD ((bsz N + 7) / 8 - 1) 0)), 8 ≠ 0, 1 ≤ 256, ((takN ((bsz N + 7) / 8) (X.drop (u + (bsz N + 7) / 8 * i))).getD ((bsz N + 7) / 8 - 1) 0) < 256, (((1 * (2 ^ ((bsz N) % 8)) % 256) + (256 - 1)) % 256) < 256, (((bsz N + 7) / 8) - 1) < ((takN (((bsz N) + 7) / 8) (X.drop (u + (bsz N + 7) / 8 * i))).length)]) (fun nb Kt => bs_ = bs_ ∧ ((bsz N + 7) / 8) - 1 < (cn .u8 ((takN (((bsz N) + 7) / 8) (X.drop (u + (bsz N + 7) / 8 * i))) ++ List.replicate cz 0)).size ∧ ((((takN (((bsz N) + 7) / 8) (X.drop (u + (bsz N + 7) / 8 * i))).length + cz, (takN (((bsz N) + 7) / 8) (X.drop (u + (bsz N + 7) / 8 * i))).length + cz + 1)).2 = 0 ∨ ((bsz N + 7) / 8) - 1 < (((takN (((bsz N) + 7) / 8) (X.drop (u + (bsz N + 7) / 8 * i))).length + cz, (takN (((bsz N) + 7) / 8) (X.drop (u + (bsz N + 7) / 8 * i))).length + cz + 1)).1) ∧ (cn .u8 ((takN (((bsz N) + 7) / 8) (X.drop (u + (bsz N + 7) / 8 * i))) ++ List.replicate cz 0)).setIfInBounds (((bsz N + 7) / 8) - 1) (iB (((takN ((bsz N + 7) / 8) (X.drop (u + (bsz N + 7) / 8 * i))).getD ((bsz N + 7) / 8 - 1) 0) &&& (((1 * (2 ^ ((bsz N) % 8)) % 256) + (256 - 1)) % 256))) = cn .u8 ((takN ((bsz N + 7) / 8) (X.drop (u + (bsz N + 7) / 8 * i))).set ((bsz N + 7) / 8 - 1) ((takN ((bsz N + 7) / 8) (X.drop (u + (bsz N + 7) / 8 * i))).getD ((bsz N + 7) / 8 - 1) 0 &&& ((1 * 2 ^ (bsz N % 8) % 256 + (256 - 1)) % 256)) ++ List.replicate cz 0) ∧ Kt [(10, .slice (some ⟨bs_, 0, none⟩) ((takN (((bsz N) + 7) / 8) (X.drop (u + (bsz N + 7) / 8 * i))).length) ((takN (((bsz N) + 7) / 8) (X.drop (u + (bsz N + 7) / 8 * i))).length + cz)), (9, iN i), (8, iN (bsz N)), (0, pT g), (1, sB (minB N)), (2, iN k)] ((bs_, .cells (cn .u8 ((takN ((bsz N + 7) / 8) (X.drop (u + (bsz N + 7) / 8 * i))).set ((bsz N + 7) / 8 - 1) ((takN ((bsz N + 7) / 8) (X.drop (u + (bsz N + 7) / 8 * i))).getD ((bsz N + 7) / 8 - 1) 0 &&& ((1 * 2 ^ (bsz N % 8) % 256 + (256 - 1)) % 256)) ++ List.replicate cz 0)) 5 ((takN (((bsz N) + 7) / 8) (X.drop (u + (bsz N + 7) / 8 * i))).length + cz, (takN (((bsz N) + 7) / 8) (X.drop (u + (bsz N + 7) / 8 * i))).length + cz + 1)) :: (g, oC #[sB X, iN (u + (bsz N + 7) / 8 * (i + 1))] 54) :: ([] : Blks))) (by kernel_rfl) (by kernel_rfl) (by kernel_rfl) (fun _ => by kernel_rfl) (fun _ _ => by kernel_rfl) trivial (fun nb => ⟨(vI (takN_len _ _)), (by omega), (by omega), (by rw [takN_len]; omega), rfl, ((cn_get _ _ _ (by rw [List.length_append, takN_len]; omega)).trans (congrArg some (vI (getD_app_l _ _ _ (by rw [takN_len]; omega))))), (by decide), (by decide), (takN_lt hXi _ _), (Nat.mod_lt _ (by decide)), (by rw [takN_len]; omega), trivial⟩) (fun nb => ⟨rfl, (by rw [cn_size, List.length_append, takN_len]; omega), (.inr (by rw [takN_len]; show _ < _; omega)), ((cn_set _ _ _ _).trans (congrArg _ (setY_rep (by rw [takN_len]; omega)))), fun ac11 wd11 FF11 MM11 => ?_⟩)
        refine then_n ?_
        exact ⟨(takN ((bsz N + 7) / 8) (X.drop (u + (bsz N + 7) / 8 * i))).set ((bsz N + 7) / 8 - 1) ((takN ((bsz N + 7) / 8) (X.drop (u + (bsz N + 7) / 8 * i))).getD ((bsz N + 7) / 8 - 1) 0 &&& ((1 * 2 ^ (bsz N % 8) % 256 + (256 - 1)) % 256)), (by rw [List.length_set]), hY2, (bit_ref hXi hs38), FF11.pick [0, 1, 2, 3, 4, 5], MM11⟩
      · refine wp_cond_false ((FF10.ev 0 rfl).trans (dec_f hs38)) ?_
        refine wp_skip ?_
        refine then_n ?_
        exact ⟨takN ((bsz N + 7) / 8) (X.drop (u + (bsz N + 7) / 8 * i)), rfl, (takN_lt hXi _), (bit_ref0 hXi (Classical.byContradiction hs38)), FF10.pick [1, 2, 3, 4, 5, 6], MM10⟩
    · rintro ac12 wd12 ⟨Z, hZl, hZb, hZv, FF12, MM12⟩
      refine wp_seq (rg_seq FF12 MM12 [o_, l_ 0 (sB Z), t_ (sB (minB (bitN (bsz N) (X.drop (u + (bsz N + 7) / 8 * i))))), o_] [10, 9, 8, 0, 1, 2, 11] (fun Kt => bs_ = bs_ ∧ StrAt (cn .u8 (Z ++ List.replicate cz 0)) 0 ((takN (((bsz N) + 7) / 8) (X.drop (u + (bsz N + 7) / 8 * i))).length) (bs Z) ∧ CallP Tryd.prog 24 [sB Z] [] (sB (minB (bitN (bsz N) (X.drop (u + (bsz N + 7) / 8 * i))))) ∧ Kt [(11, sB (minB (bitN (bsz N) (X.drop (u + (bsz N + 7) / 8 * i))))), (10, .slice (some ⟨bs_, 0, none⟩) ((takN (((bsz N) + 7) / 8) (X.drop (u + (bsz N + 7) / 8 * i))).length) ((takN (((bsz N) + 7) / 8) (X.drop (u + (bsz N + 7) / 8 * i))).length + cz)), (9, iN i), (8, iN (bsz N)), (0, pT g), (1, sB (minB N)), (2, iN k)] ((bs_, .cells (cn .u8 (Z ++ List.replicate cz 0)) 5 ((takN ((bsz N + 7) / 8) (X.drop (u + (bsz N + 7) / 8 * i))).length + cz, (takN ((bsz N + 7) / 8) (X.drop (u + (bsz N + 7) / 8 * i))).length + cz + 1)) :: (g, oC #[sB X, iN (u + (bsz N + 7) / 8 * (i + 1))] 54) :: ([] : Blks))) (by kernel_rfl) (fun _ => by kernel_rfl) (⟨rfl, (strY_rep hZl hZb), (by have h0 := callP_of en_rbytes (bytes_any Z hZb (by rw [hZl, takN_len]; omega)) []; rw [hZv] at h0; exact h0), fun ac13 wd13 FF13 MM13 => then_n ?_⟩))
      have hsb := sz_bit (X.drop (u + (bsz N + 7) / 8 * i)) hb
      refine wp_seq (rg_seq FF13 MM13 [o_, o_, t_ (.int .i64 (cmpN (bitN (bsz N) (X.drop (u + (bsz N + 7) / 8 * i))) N : Int)), w_ 4] [11, 10, 9, 8, 0, 1, 2, 57] (fun Kt => CallP Tryd.prog 45 [sB (minB (bitN (bsz N) (X.drop (u + (bsz N + 7) / 8 * i)))), sB (minB N)] [] (.int .i64 (cmpN (bitN (bsz N) (X.drop (u + (bsz N + 7) / 8 * i))) N : Int)) ∧ Kt [(57, .bool (decide ((cmpN (bitN (bsz N) (X.drop (u + (bsz N + 7) / 8 * i))) N) < ((0 : Nat) : Int)))), (11, sB (minB (bitN (bsz N) (X.drop (u + (bsz N + 7) / 8 * i))))), (10, .slice (some ⟨bs_, 0, none⟩) ((takN (((bsz N) + 7) / 8) (X.drop (u + (bsz N + 7) / 8 * i))).length) ((takN (((bsz N) + 7) / 8) (X.drop (u + (bsz N + 7) / 8 * i))).length + cz)), (9, iN i), (8, iN (bsz N)), (0, pT g), (1, sB (minB N)), (2, iN k)] ((bs_, .cells (cn .u8 (Z ++ List.replicate cz 0)) 5 ((takN ((bsz N + 7) / 8) (X.drop (u + (bsz N + 7) / 8 * i))).length + cz, (takN ((bsz N + 7) / 8) (X.drop (u + (bsz N + 7) / 8 * i))).length + cz + 1)) :: (g, oC #[sB X, iN (u + (bsz N + 7) / 8 * (i + 1))] 54) :: ([] : Blks))) (by kernel_rfl) (fun _ => by kernel_rfl) (⟨(callP_of en_rcmp (cmp_any (bitN (bsz N) (X.drop (u + (bsz N + 7) / 8 * i))) N (by omega)) _), fun ac14 wd14 FF14 MM14 => then_n ?_⟩))
      by_cases hs57 : (cmpN (bitN (bsz N) (X.drop (u + (bsz N + 7) / 8 * i))) N) < ((0 : Nat) : Int)
      · refine wp_cond_true ((FF14.ev 0 rfl).trans (dec_t hs57)) ?_
        have hE := und_yes hI hlt (by rw [List.drop_drop]; exact (cmp_neg _ _).1 hs57)
        refine wp_seq (rg_seq FF14 MM14 [o_, o_, o_] [11, 10, 9, 8, 0, 1, 2, 6, 7] (fun Kt => Kt [(7, iN 0), (6, sB (minB (bitN (bsz N) (X.drop (u + (bsz N + 7) / 8 * i))))), (11, sB (minB (bitN (bsz N) (X.drop (u + (bsz N + 7) / 8 * i))))), (10, .slice (some ⟨bs_, 0, none⟩) ((takN (((bsz N) + 7) / 8) (X.drop (u + (bsz N + 7) / 8 * i))).length) ((takN (((bsz N) + 7) / 8) (X.drop (u + (bsz N + 7) / 8 * i))).length + cz)), (9, iN i), (8, iN (bsz N)), (0, pT g), (1, sB (minB N)), (2, iN k)] ((bs_, .cells (cn .u8 (Z ++ List.replicate cz 0)) 5 ((takN ((bsz N + 7) / 8) (X.drop (u + (bsz N + 7) / 8 * i))).length + cz, (takN ((bsz N + 7) / 8) (X.drop (u + (bsz N + 7) / 8 * i))).length + cz + 1)) :: (g, oC #[sB X, iN (u + (bsz N + 7) / 8 * (i + 1))] 54) :: ([] : Blks))) (by kernel_rfl) (fun _ => by kernel_rfl) (fun ac15 wd15 FF15 MM15 => then_n ?_))
        refine wp_ret ?_
        repeat first | refine then_ret ?_ | refine inb_ret ?_
        exact (ret_tup2 FF15 1 0 Tryd.results48 rfl rfl (by rw [hE]; exact ⟨by rw [List.drop_drop], MM15.turn (O := []) (fun i x hx => by simp at hx) 1 rfl (fun x hx => (nomatch hx))⟩))
      · refine wp_cond_false ((FF14.ev 0 rfl).trans (dec_f hs57)) ?_
        have hno := fun h => hs57 ((cmp_neg _ _).2 h)
        refine wp_skip ?_
        refine inb_n (then_n ?_)
        refine rg_seq FF14 MM14 [o_, o_, o_] [11, 10, 9, 8, 0, 1, 2] (fun Kt => i + 1 < 9223372036854775808 ∧ Kt [(9, iN (i + 1)), (11, sB (minB (bitN (bsz N) (X.drop (u + (bsz N + 7) / 8 * i))))), (10, .slice (some ⟨bs_, 0, none⟩) ((takN (((bsz N) + 7) / 8) (X.drop (u + (bsz N + 7) / 8 * i))).length) ((takN (((bsz N) + 7) / 8) (X.drop (u + (bsz N + 7) / 8 * i))).length + cz)), (8, iN (bsz N)), (0, pT g), (1, sB (minB N)), (2, iN k)] ((bs_, .cells (cn .u8 (Z ++ List.replicate cz 0)) 5 ((takN ((bsz N + 7) / 8) (X.drop (u + (bsz N + 7) / 8 * i))).length + cz, (takN ((bsz N + 7) / 8) (X.drop (u + (bsz N + 7) / 8 * i))).length + cz + 1)) :: (g, oC #[sB X, iN (u + (bsz N + 7) / 8 * (i + 1))] 54) :: ([] : Blks))) (by kernel_rfl) (fun _ => by kernel_rfl) (⟨(by omega), fun ac16 wd16 FF16 MM16 => ?_⟩)
        have hd := cnt_of (FF16.get 0 rfl)
        refine then_n ⟨⟨i + 1, by omega, und_no hI hlt (by rw [List.drop_drop]; exact hno), FF16.pick [0, 3, 4, 5, 6], (MM16.dropAt 0)⟩, ?_⟩
        rw [hc, hd]; omega
  · skip
    refine then_n (.inr ⟨(FF6.ev 0 rfl).trans (dec_f hlt), ?_⟩)
    have hik : i = k := by omega
    subst hik
    have hE := und_end hI
    refine then_n ?_
    refine wp_seq (rg_seq FF6 MM6 [o_, o_] [9, 8, 0, 1, 2, 6, 7] (fun Kt => Kt [(7, iN 3), (6, sB []), (9, iN i), (8, iN (bsz N)), (0, pT g), (1, sB (minB N)), (2, iN i)] ((g, oC #[sB X, iN (u + (bsz N + 7) / 8 * i)] 54) :: ([] : Blks))) (by kernel_rfl) (fun _ => by kernel_rfl) (fun ac17 wd17 FF17 MM17 => then_n ?_))
    refine wp_ret ?_
    repeat first | refine then_ret ?_ | refine inb_ret ?_
    exact (ret_tup2 FF17 1 0 Tryd.results48 rfl rfl (by rw [hE]; exact ⟨by rw [minB_zero], MM17.turn (O := []) (fun i x hx => by simp at hx) 0 rfl (fun x hx => (nomatch hx))⟩))
set_option maxRecDepth 100000 in
theorem runder_tlo (g : Nat) (N : Nat) (hs : sz N < 1000000) (t : Int) (h1 : 1 ≤ bsz N) (hb : bsz N ≤ 1024) (hz : t < 1)  (w0 : World) :
    Calls Tryd.prog 48 #[pT g, sB (minB N), .int .i64 t] w0 fun e w' => e = .returned (.tuple #[sB [], iN 1]) ∧ Below w0.heap.size w0 w' := by
  refine enter_fr Tryd.func48 rfl Tryd.ntmps48 (by simp) fun ac (FF : Fr 59 ac [(0, pT g), (1, sB (minB N)), (2, .int .i64 (t : Int))]) => ?_
  have MM := MemS.start w0
  refine wp_seq (rg_seq FF MM [o_, o_] [0, 1, 2, 6, 7] (fun Kt => Kt [(7, iN 0), (6, sB []), (0, pT g), (1, sB (minB N)), (2, .int .i64 (t : Int))] []) (by kernel_rfl) (fun _ => by kernel_rfl) (fun ac1 wd1 FF1 MM1 => then_n ?_))
  refine wp_seq (rg_seq FF1 MM1 [o_, t_ (iN (bsz N)), o_] [7, 6, 0, 1, 2, 8] (fun Kt => CallP Tryd.prog 63 [sB (minB N)] [] (iN (bsz N)) ∧ Kt [(8, iN (bsz N)), (7, iN 0), (6, sB []), (0, pT g), (1, sB (minB N)), (2, .int .i64 (t : Int))] []) (by kernel_rfl) (fun _ => by kernel_rfl) (⟨(callP_of en_rbits (bits8_any N hs) _), fun ac2 wd2 FF2 MM2 => then_n ?_⟩))
  refine wp_seq ?_
  refine wp_seq (rg_seq FF2 MM2 [o_, w_ 3, o_, o_, w_ 3, o_, o_, o_, t_ (.bool false), o_, o_] [8, 7, 6, 0, 1, 2, 24] (fun Kt => ¬ ((bsz N) < 1) ∧ ¬ ((bsz N) > 1024) ∧ CallP Tryd.prog 64 [.int .i64 (t : Int)] [] (.bool false) ∧ Kt [(24, .bool true), (8, iN (bsz N)), (7, iN 0), (6, sB []), (0, pT g), (1, sB (minB N)), (2, .int .i64 (t : Int))] []) (by kernel_rfl) (fun _ => by kernel_rfl) (⟨(by omega), (by omega), (callP_of en_tries (tries_lo t hz) _), fun ac3 wd3 FF3 MM3 => then_n ?_⟩))
  refine wp_cond_true (FF3.ev 0 rfl) ?_
  refine wp_seq (rg_seq FF3 MM3 [o_, o_] [8, 7, 6, 0, 1, 2] (fun Kt => Kt [(7, iN 1), (6, sB []), (8, iN (bsz N)), (0, pT g), (1, sB (minB N)), (2, .int .i64 (t : Int))] []) (by kernel_rfl) (fun _ => by kernel_rfl) (fun ac4 wd4 FF4 MM4 => then_n ?_))
  refine wp_ret ?_
  repeat first | refine then_ret ?_ | refine inb_ret ?_
  exact (ret_tup2 FF4 1 0 Tryd.results48 rfl rfl ⟨rfl, MM4.below⟩)
set_option maxRecDepth 100000 in
theorem runder_thi (g : Nat) (N : Nat) (hs : sz N < 1000000) (t : Int) (h1 : 1 ≤ bsz N) (hb : bsz N ≤ 1024) (hz : t > 16)  (w0 : World) :
    Calls Tryd.prog 48 #[pT g, sB (minB N), .int .i64 t] w0 fun e w' => e = .returned (.tuple #[sB [], iN 1]) ∧ Below w0.heap.size w0 w' := by
  refine enter_fr Tryd.func48 rfl Tryd.ntmps48 (by simp) fun ac (FF : Fr 59 ac [(0, pT g), (1, sB (minB N)), (2, .int .i64 (t : Int))]) => ?_
  have MM := MemS.start w0
  refine wp_seq (rg_seq FF MM [o_, o_] [0, 1, 2, 6, 7] (fun Kt => Kt [(7, iN 0), (6, sB []), (0, pT g), (1, sB (minB N)), (2, .int .i64 (t : Int))] []) (by kernel_rfl) (fun _ => by kernel_rfl) (fun ac1 wd1 FF1 MM1 => then_n ?_))
  refine wp_seq (rg_seq FF1 MM1 [o_, t_ (iN (bsz N)), o_] [7, 6, 0, 1, 2, 8] (fun Kt => CallP Tryd.prog 63 [sB (minB N)] [] (iN (bsz N)) ∧ Kt [(8, iN (bsz N)), (7, iN 0), (6, sB []), (0, pT g), (1, sB (minB N)), (2, .int .i64 (t : Int))] []) (by kernel_rfl) (fun _ => by kernel_rfl) (⟨(callP_of en_rbits (bits8_any N hs) _), fun ac2 wd2 FF2 MM2 => then_n ?_⟩))
  refine wp_seq ?_
  refine wp_seq (rg_seq FF2 MM2 [o_, w_ 3, o_, o_, w_ 3, o_, o_, o_, t_ (.bool false), o_, o_] [8, 7, 6, 0, 1, 2, 24] (fun Kt => ¬ ((bsz N) < 1) ∧ ¬ ((bsz N) > 1024) ∧ CallP Tryd.prog 64 [.int .i64 (t : Int)] [] (.bool false) ∧ Kt [(24, .bool true), (8, iN (bsz N)), (7, iN 0), (6, sB []), (0, pT g), (1, sB (minB N)), (2, .int .i64 (t : Int))] []) (by kernel_rfl) (fun _ => by kernel_rfl) (⟨(by omega), (by omega), (callP_of en_tries (tries_hi t hz) _), fun ac3 wd3 FF3 MM3 => then_n ?_⟩))
  refine wp_cond_true (FF3.ev 0 rfl) ?_
  refine wp_seq (rg_seq FF3 MM3 [o_, o_] [8, 7, 6, 0, 1, 2] (fun Kt => Kt [(7, iN 1), (6, sB []), (8, iN (bsz N)), (0, pT g), (1, sB (minB N)), (2, .int .i64 (t : Int))] []) (by kernel_rfl) (fun _ => by kernel_rfl) (fun ac4 wd4 FF4 MM4 => then_n ?_))
  refine wp_ret ?_
  repeat first | refine then_ret ?_ | refine inb_ret ?_
  exact (ret_tup2 FF4 1 0 Tryd.results48 rfl rfl ⟨rfl, MM4.below⟩)
end Go.Proofs.YtlljedijldkcbaaDoor
namespace Go.Proofs.YtlljedijldkcbaaDoor
open Go.RowKit
/-- What may be a table: a ratio, a reach, a middle. -/
def TOk (a b r m : Nat) : Prop := 1 ≤ b ∧ b < a ∧ a ≤ 16 ∧ r ≤ m ∧ m + r ≤ 8
/-- .. of any whole numbers. -/
def TOz (a b r m : Int) : Prop := 1 ≤ b ∧ b < a ∧ a ≤ 16 ∧ 0 ≤ r ∧ r ≤ m ∧ m + r ≤ 8
theorem tok_of {a b r m : Int} (h : TOz a b r m) : ∃ a1 b1 r1 m1 : Nat, a = a1 ∧ b = b1 ∧ r = r1 ∧ m = m1 ∧ TOk a1 b1 r1 m1 := by
  obtain ⟨h1, h2, h3, h4, h5, h6⟩ := h
  exact ⟨a.toNat, b.toNat, r.toNat, m.toNat, by omega, by omega, by omega, by omega, by omega, by omega, by omega, by omega, by omega⟩
theorem tok_z {a b r m : Nat} (h : TOk a b r m) : TOz a b r m := by
  obtain ⟨h1, h2, h3, h4, h5⟩ := h
  exact ⟨by omega, by omega, by omega, by omega, by omega, by omega⟩
/-- The weight of a number. -/
def wgZ (a b r m : Nat) (n : Int) : Nat := if (m : Int) - r ≤ n ∧ n ≤ m + r then b ^ (n - m).natAbs * a ^ (r - (n - m).natAbs) else 0
/-- Those of the first i numbers together. -/
def toN (a b r m : Nat) : Nat → Nat
  | 0 => 0
  | i + 1 => toN a b r m i + wgZ a b r m ((m - r + i : Nat) : Int)
theorem wg_in {a b r m : Nat} {n : Int} (h : (m : Int) - r ≤ n) (h2 : n ≤ m + r) : wgZ a b r m n = b ^ (n - m).natAbs * a ^ (r - (n - m).natAbs) := if_pos ⟨h, h2⟩
theorem wg_lo {a b r m : Nat} {n : Int} (h : n < (m : Int) - r) : wgZ a b r m n = 0 := if_neg fun q => by omega
theorem wg_hi {a b r m : Nat} {n : Int} (h : n > (m : Int) + r) : wgZ a b r m n = 0 := if_neg fun q => by omega
theorem pow16 {a d : Nat} (h : a ≤ 16) : a ^ d ≤ 16 ^ d := Nat.pow_le_pow_left h d
theorem wg_le {a b r m : Nat} (hk : TOk a b r m) (n : Int) : wgZ a b r m n ≤ 65536 := by
  obtain ⟨h1, h2, h3, h4, h5⟩ := hk
  unfold wgZ
  split
  · rename_i h
    have e : 16 ^ (n - m).natAbs * 16 ^ (r - (n - m).natAbs) = 16 ^ r := by rw [← Nat.pow_add]; congr 1; omega
    have h6 : 16 ^ r ≤ 16 ^ 4 := Nat.pow_le_pow_right (by decide) (by omega)
    exact Nat.le_trans (Nat.mul_le_mul (pow16 (by omega)) (pow16 h3)) (by rw [e]; exact h6)
  · exact Nat.zero_le _
theorem wg_pos {a b r m : Nat} (hk : TOk a b r m) {n : Int} (h : (m : Int) - r ≤ n) (h2 : n ≤ m + r) : 0 < wgZ a b r m n := by
  rw [wg_in h h2]; exact Nat.mul_pos (Nat.pow_pos (by have := hk.1; omega)) (Nat.pow_pos (by have := hk.2.1; omega))
theorem wgi_pos {a b r m : Nat} (hk : TOk a b r m) {i : Nat} (h : i < 2 * r + 1) : 0 < wgZ a b r m ((m - r + i : Nat) : Int) := wg_pos hk (by have := hk.2.2.2.1; omega) (by have := hk.2.2.2.1; omega)
theorem to_le {a b r m : Nat} (hk : TOk a b r m) : ∀ i, toN a b r m i ≤ 65536 * i
  | 0 => Nat.le_refl _
  | i + 1 => by have := to_le hk i; have := wg_le hk ((m - r + i : Nat) : Int); rw [toN]; omega
theorem to_mono (a b r m : Nat) : ∀ {i j : Nat}, i ≤ j → toN a b r m i ≤ toN a b r m j
  | i, 0, h => by rw [Nat.le_zero.1 h]; exact Nat.le_refl _
  | i, j + 1, h => by
    rcases Nat.lt_or_ge j i with h1 | h1
    · rw [show i = j + 1 by omega]; exact Nat.le_refl _
    · exact Nat.le_trans (to_mono a b r m h1) (Nat.le_add_right _ _)
theorem to_pos {a b r m : Nat} (hk : TOk a b r m) : 1 ≤ toN a b r m (2 * r + 1) := Nat.le_trans (Nat.lt_of_lt_of_le (wgi_pos hk (i := 2 * r) (by omega)) (Nat.le_add_left _ _)) (Nat.le_refl _)
theorem to_small {a b r m : Nat} (hk : TOk a b r m) {i : Nat} (h : i ≤ 9) : toN a b r m i < 1048576 := by have := to_le hk i; omega
/-- At which number a word stands, the first i left out. -/
def atN (a b r m w : Nat) : Nat → Nat → Nat
  | 0, i => i
  | k + 1, i => if w < toN a b r m (i + 1) then i else atN a b r m w k (i + 1)
theorem atw_of {a b r m w i : Nat} (h1 : toN a b r m i ≤ w) (h2 : w < toN a b r m (i + 1)) : ∀ {k j : Nat}, j ≤ i → i < j + k → atN a b r m w k j = i
  | 0, j, hj, hk => by omega
  | k + 1, j, hj, hk => by
    rw [atN]
    rcases Nat.lt_or_ge j i with h | h
    · rw [if_neg (Nat.not_lt.2 (Nat.le_trans (to_mono a b r m h) h1))]; exact atw_of h1 h2 h (by omega)
    · obtain rfl : j = i := by omega
      exact if_pos h2
/-- The number of a word. -/
def aN (a b r m w : Nat) : Nat := if w < toN a b r m (2 * r + 1) then m - r + atN a b r m w (2 * r + 1) 0 else 0
theorem a_yes {a b r m w i : Nat} (hi : i < 2 * r + 1) (h1 : toN a b r m i ≤ w) (h2 : w < toN a b r m (i + 1)) : aN a b r m w = m - r + i := by
  rw [aN, if_pos (Nat.lt_of_lt_of_le h2 (to_mono a b r m hi)), atw_of h1 h2 (Nat.zero_le _) (by omega)]
theorem a_no {a b r m w : Nat} (h : toN a b r m (2 * r + 1) ≤ w) : aN a b r m w = 0 := if_neg (Nat.not_lt.2 h)
theorem atw_lt {a b r m w i : Nat} (hi : i < 2 * r + 1) (h2 : w < toN a b r m (i + 1)) : w < toN a b r m (2 * r + 1) := Nat.lt_of_lt_of_le h2 (to_mono a b r m hi)
end Go.Proofs.YtlljedijldkcbaaDoor
namespace Go.Proofs.YtlljedijldkcbaaDoor
open Go.RowKit
theorem qok {N : Nat} (h : N < 18446744073709551616 ^ 100) : qsz N < 1000000 := Nat.lt_of_le_of_lt (qsz_le h) (by decide)
theorem qok4 {N : Nat} (h : N < 18446744073709551616 ^ 100) : qsz N < 10000 := Nat.lt_of_le_of_lt (qsz_le h) (by decide)
theorem qok3 {N : Nat} (h : N < 18446744073709551616 ^ 100) : qsz N ≤ 1000 := Nat.le_trans (qsz_le h) (by decide)
theorem prN2 (a b : Nat) : prN [a, b] = a * b := by simp [prN]
theorem decN_of {N n : Nat} (h : N < 10 ^ n) (_hn : 0 < n) (h2 : 10 ^ (n - 1) ≤ N) : decN N = decK n N := by
  have h0 : N ≠ 0 := fun e => by have := dpw_pos (n - 1); omega
  rw [decN_K h0, ← dsz_of h (.inr h2)]
end Go.Proofs.YtlljedijldkcbaaDoor
namespace Go.Proofs.YtlljedijldkcbaaDoor
open Go.RowKit
theorem en_kleast : Enters Tryd.prog 11 := fun args w => by simp [go_sem]
theorem en_kmost : Enters Tryd.prog 13 := fun args w => by simp [go_sem]
theorem en_kcount : Enters Tryd.prog 38 := fun args w => by simp [go_sem]
theorem en_kpower : Enters Tryd.prog 43 := fun args w => by simp [go_sem]
theorem en_kweight : Enters Tryd.prog 20 := fun args w => by simp [go_sem]
theorem en_ktotal : Enters Tryd.prog 16 := fun args w => by simp [go_sem]
theorem en_kedge : Enters Tryd.prog 18 := fun args w => by simp [go_sem]
theorem en_kat : Enters Tryd.prog 21 := fun args w => by simp [go_sem]
theorem en_kdraw : Enters Tryd.prog 26 := fun args w => by simp [go_sem]
theorem en_knew : Enters Tryd.prog 36 := fun args w => by simp [go_sem]
theorem en_kratio : Enters Tryd.prog 56 := fun args w => by simp [go_sem]
theorem en_kspan : Enters Tryd.prog 57 := fun args w => by simp [go_sem]
/-- A table: its ratio, its reach, its middle. -/
abbrev KB (a b r m : Nat) : Obj := .cells #[iN a, iN b, iN r, iN m] 73
def KO (O : Blks) (g a b r m : Nat) : Prop := (g, KB a b r m) ∈ O
theorem KO.mono {O O' : Blks} {g a b r m : Nat} (h : KO O g a b r m) (hs : ∀ x ∈ O, x ∈ O') : KO O' g a b r m := hs _ h
theorem KO.at {w : World} {O : Blks} {g a b r m : Nat} (h : KO O g a b r m) (H : Has w O) : w.heap[g]? = some (KB a b r m) := Has.mem H h
set_option maxRecDepth 100000 in
theorem kleast_T (g : Nat) (a b r m : Nat) (hk : TOk a b r m)  (w0 : World) (hg : w0.heap[g]? = some (KB a b r m)) :
    Calls Tryd.prog 11 #[pT g] w0 fun e w' => e = .returned (iN (m - r)) ∧ Turn g (KB a b r m) w0 w' := by
  have ⟨k1, k2, k3, k4, k5⟩ := hk
  refine enter_fr Tryd.func11 rfl Tryd.ntmps11 (by simp) fun ac (FF : Fr 14 ac [(0, pT g)]) => ?_
  have MM : MemS (fun k => k < w0.heap.size ∧ ∀ x ∈ (g, oC #[iN a, iN b, iN r, iN m] 73) :: ([] : Blks), x.1 ≠ k) w0 w0 ((g, oC #[iN a, iN b, iN r, iN m] 73) :: ([] : Blks)) [] := MemS.startN (one_has hg) ⟨fun y hy => (nomatch hy), trivial⟩
  refine wp_seq (rg_seq FF MM [o_] [0, 2] (fun Kt => Kt [(2, iN 0), (0, pT g)] ((g, oC #[iN a, iN b, iN r, iN m] 73) :: ([] : Blks))) (by kernel_rfl) (fun _ => by kernel_rfl) (fun ac1 wd1 FF1 MM1 => then_n ?_))
  refine wp_seq ?_
  refine wp_seq (rg_seq FF1 MM1 [o_, f_ (.bool false)] [2, 0, 4] (fun Kt => RunV Tryd.prog [(3, pT g), (2, iN 0), (0, pT g)] ((g, oC #[iN a, iN b, iN r, iN m] 73) :: ([] : Blks)) (opAt Tryd.f11 1 1) (.bool false) ∧ Kt [(4, .bool false), (2, iN 0), (0, pT g)] ((g, oC #[iN a, iN b, iN r, iN m] 73) :: ([] : Blks))) (by kernel_rfl) (fun _ => by kernel_rfl) (⟨(ptrSome_ok (t := 28) (t' := 28) (x := (.tmp 3)) (y := (.const (.pointer none))) (by kernel_rfl) rfl rfl Tryd.underlying28), fun ac2 wd2 FF2 MM2 => then_n ?_⟩))
  refine wp_cond_false (FF2.ev 0 rfl) ?_
  refine wp_skip ?_
  refine then_n ?_
  refine wp_seq (rg_draw FF2 MM2 [.inl (pT g), .inl (pT g), .inl (.pointer (some ⟨g, 3, none⟩)), .inl (iN m), .inl (pT g), .inl (pT g), .inl (.pointer (some ⟨g, 2, none⟩)), .inl (iN r), .inl (iN (m - r)), .inl (iN (m - r))] [] [o_, o_, o_, l_ 0 (iN m), o_, o_, o_, l_ 0 (iN r), o_, o_] [] [2, 0] (fun nb => [g = g, (#[iN a, iN b, iN r, iN m] : Array Value)[3]? = some (iN m), g = g, (#[iN a, iN b, iN r, iN m] : Array Value)[2]? = some (iN r), r ≤ m, m - r < 9223372036854775808]) (fun nb Kt => Kt [(2, iN (m - r)), (0, pT g)] ((g, oC #[iN a, iN b, iN r, iN m] 73) :: ([] : Blks))) (by kernel_rfl) (by kernel_rfl) (by kernel_rfl) (fun _ => by kernel_rfl) (fun _ _ => by kernel_rfl) trivial (fun nb => ⟨rfl, rfl, rfl, rfl, (by omega), (by omega), trivial⟩) (fun nb => fun ac3 wd3 FF3 MM3 => then_n ?_))
  refine wp_ret ?_
  repeat first | refine then_ret ?_ | refine inb_ret ?_
  exact (ret_fr FF3 0 Tryd.results11 rfl ⟨rfl, MM3.turn (O := []) (fun i x hx => by simp at hx) 0 rfl (fun x hx => (nomatch hx))⟩)
theorem kleast_any (g : Nat) (a b r m : Nat) (hk : TOk a b r m) (w : World) (hg : w.heap[g]? = some (KB a b r m)) : Calls Tryd.prog 11 #[pT g] w fun e w' => e = .returned (iN (m - r)) ∧ Below w.heap.size w w' := (kleast_T g a b r m hk w hg).mono fun _ _ ⟨h1, h2⟩ => ⟨h1, turn_below hg h2⟩
set_option maxRecDepth 100000 in
theorem kmost_T (g : Nat) (a b r m : Nat) (hk : TOk a b r m)  (w0 : World) (hg : w0.heap[g]? = some (KB a b r m)) :
    Calls Tryd.prog 13 #[pT g] w0 fun e w' => e = .returned (iN (m + r)) ∧ Turn g (KB a b r m) w0 w' := by
  have ⟨k1, k2, k3, k4, k5⟩ := hk
  refine enter_fr Tryd.func13 rfl Tryd.ntmps13 (by simp) fun ac (FF : Fr 14 ac [(0, pT g)]) => ?_
  have MM : MemS (fun k => k < w0.heap.size ∧ ∀ x ∈ (g, oC #[iN a, iN b, iN r, iN m] 73) :: ([] : Blks), x.1 ≠ k) w0 w0 ((g, oC #[iN a, iN b, iN r, iN m] 73) :: ([] : Blks)) [] := MemS.startN (one_has hg) ⟨fun y hy => (nomatch hy), trivial⟩
  refine wp_seq (rg_seq FF MM [o_] [0, 2] (fun Kt => Kt [(2, iN 0), (0, pT g)] ((g, oC #[iN a, iN b, iN r, iN m] 73) :: ([] : Blks))) (by kernel_rfl) (fun _ => by kernel_rfl) (fun ac1 wd1 FF1 MM1 => then_n ?_))
  refine wp_seq ?_
  refine wp_seq (rg_seq FF1 MM1 [o_, f_ (.bool false)] [2, 0, 4] (fun Kt => RunV Tryd.prog [(3, pT g), (2, iN 0), (0, pT g)] ((g, oC #[iN a, iN b, iN r, iN m] 73) :: ([] : Blks)) (opAt Tryd.f13 1 1) (.bool false) ∧ Kt [(4, .bool false), (2, iN 0), (0, pT g)] ((g, oC #[iN a, iN b, iN r, iN m] 73) :: ([] : Blks))) (by kernel_rfl) (fun _ => by kernel_rfl) (⟨(ptrSome_ok (t := 28) (t' := 28) (x := (.tmp 3)) (y := (.const (.pointer none))) (by kernel_rfl) rfl rfl Tryd.underlying28), fun ac2 wd2 FF2 MM2 => then_n ?_⟩))
  refine wp_cond_false (FF2.ev 0 rfl) ?_
  refine wp_skip ?_
  refine then_n ?_
  refine wp_seq (rg_draw FF2 MM2 [.inl (pT g), .inl (pT g), .inl (.pointer (some ⟨g, 3, none⟩)), .inl (iN m), .inl (pT g), .inl (pT g), .inl (.pointer (some ⟨g, 2, none⟩)), .inl (iN r), .inl (iN (m + r)), .inl (iN (m + r))] [] [o_, o_, o_, l_ 0 (iN m), o_, o_, o_, l_ 0 (iN r), o_, o_] [] [2, 0] (fun nb => [g = g, (#[iN a, iN b, iN r, iN m] : Array Value)[3]? = some (iN m), g = g, (#[iN a, iN b, iN r, iN m] : Array Value)[2]? = some (iN r), m + r < 9223372036854775808]) (fun nb Kt => Kt [(2, iN (m + r)), (0, pT g)] ((g, oC #[iN a, iN b, iN r, iN m] 73) :: ([] : Blks))) (by kernel_rfl) (by kernel_rfl) (by kernel_rfl) (fun _ => by kernel_rfl) (fun _ _ => by kernel_rfl) trivial (fun nb => ⟨rfl, rfl, rfl, rfl, (by omega), trivial⟩) (fun nb => fun ac3 wd3 FF3 MM3 => then_n ?_))
  refine wp_ret ?_
  repeat first | refine then_ret ?_ | refine inb_ret ?_
  exact (ret_fr FF3 0 Tryd.results13 rfl ⟨rfl, MM3.turn (O := []) (fun i x hx => by simp at hx) 0 rfl (fun x hx => (nomatch hx))⟩)
theorem kmost_any (g : Nat) (a b r m : Nat) (hk : TOk a b r m) (w : World) (hg : w.heap[g]? = some (KB a b r m)) : Calls Tryd.prog 13 #[pT g] w fun e w' => e = .returned (iN (m + r)) ∧ Below w.heap.size w w' := (kmost_T g a b r m hk w hg).mono fun _ _ ⟨h1, h2⟩ => ⟨h1, turn_below hg h2⟩
set_option maxRecDepth 100000 in
theorem kcount_T (g : Nat) (a b r m : Nat) (hk : TOk a b r m)  (w0 : World) (hg : w0.heap[g]? = some (KB a b r m)) :
    Calls Tryd.prog 38 #[pT g] w0 fun e w' => e = .returned (iN (2 * r + 1)) ∧ Turn g (KB a b r m) w0 w' := by
  have ⟨k1, k2, k3, k4, k5⟩ := hk
  refine enter_fr Tryd.func38 rfl Tryd.ntmps38 (by simp) fun ac (FF : Fr 11 ac [(0, pT g)]) => ?_
  have MM : MemS (fun k => k < w0.heap.size ∧ ∀ x ∈ (g, oC #[iN a, iN b, iN r, iN m] 73) :: ([] : Blks), x.1 ≠ k) w0 w0 ((g, oC #[iN a, iN b, iN r, iN m] 73) :: ([] : Blks)) [] := MemS.startN (one_has hg) ⟨fun y hy => (nomatch hy), trivial⟩
  refine wp_seq (rg_seq FF MM [o_] [0, 2] (fun Kt => Kt [(2, iN 0), (0, pT g)] ((g, oC #[iN a, iN b, iN r, iN m] 73) :: ([] : Blks))) (by kernel_rfl) (fun _ => by kernel_rfl) (fun ac1 wd1 FF1 MM1 => then_n ?_))
  refine wp_seq ?_
  refine wp_seq (rg_seq FF1 MM1 [o_, f_ (.bool false)] [2, 0, 4] (fun Kt => RunV Tryd.prog [(3, pT g), (2, iN 0), (0, pT g)] ((g, oC #[iN a, iN b, iN r, iN m] 73) :: ([] : Blks)) (opAt Tryd.f38 1 1) (.bool false) ∧ Kt [(4, .bool false), (2, iN 0), (0, pT g)] ((g, oC #[iN a, iN b, iN r, iN m] 73) :: ([] : Blks))) (by kernel_rfl) (fun _ => by kernel_rfl) (⟨(ptrSome_ok (t := 28) (t' := 28) (x := (.tmp 3)) (y := (.const (.pointer none))) (by kernel_rfl) rfl rfl Tryd.underlying28), fun ac2 wd2 FF2 MM2 => then_n ?_⟩))
  refine wp_cond_false (FF2.ev 0 rfl) ?_
  refine wp_skip ?_
  refine then_n ?_
  refine wp_seq (rg_seq FF2 MM2 [o_, o_, o_, l_ 0 (iN r), o_, o_, o_] [2, 0] (fun Kt => g = g ∧ (#[iN a, iN b, iN r, iN m] : Array Value)[2]? = some (iN r) ∧ 2 * r < 9223372036854775808 ∧ (2 * r) + 1 < 9223372036854775808 ∧ Kt [(2, iN ((2 * r) + 1)), (0, pT g)] ((g, oC #[iN a, iN b, iN r, iN m] 73) :: ([] : Blks))) (by kernel_rfl) (fun _ => by kernel_rfl) (⟨rfl, rfl, (by omega), (by omega), fun ac3 wd3 FF3 MM3 => then_n ?_⟩))
  refine wp_ret ?_
  repeat first | refine then_ret ?_ | refine inb_ret ?_
  exact (ret_fr FF3 0 Tryd.results38 rfl ⟨rfl, MM3.turn (O := []) (fun i x hx => by simp at hx) 0 rfl (fun x hx => (nomatch hx))⟩)
theorem kcount_any (g : Nat) (a b r m : Nat) (hk : TOk a b r m) (w : World) (hg : w.heap[g]? = some (KB a b r m)) : Calls Tryd.prog 38 #[pT g] w fun e w' => e = .returned (iN (2 * r + 1)) ∧ Below w.heap.size w w' := (kcount_T g a b r m hk w hg).mono fun _ _ ⟨h1, h2⟩ => ⟨h1, turn_below hg h2⟩
end Go.Proofs.YtlljedijldkcbaaDoor
namespace Go.Proofs.YtlljedijldkcbaaDoor
open Go.RowKit
theorem bsz5 {a : Nat} (h : a ≤ 16) : bsz a ≤ 5 := bsz_le (by omega)
theorem pow_tab {a n : Nat} (ha : a ≤ 16) (hn : n ≤ 8) : PowOk a n := by
  have h := bsz5 ha
  rcases Nat.eq_zero_or_pos (bsz a) with e | e
  · exact .inl e
  · refine .inr (Nat.le_trans (Nat.le_trans hn (by decide : 8 ≤ 65536 / 5)) ?_)
    exact Nat.div_le_div_left h e
theorem b100 {N : Nat} (h : N < 18446744073709551616) : N < 18446744073709551616 ^ 100 := Nat.lt_of_lt_of_le h (Nat.le_self_pow (by decide) _)
theorem pow_lt16 {a n : Nat} (ha : a ≤ 16) (hn : n ≤ 8) : a ^ n < 18446744073709551616 := Nat.lt_of_le_of_lt (Nat.le_trans (pow16 ha) (Nat.pow_le_pow_right (by decide) hn)) (by decide)
set_option maxRecDepth 100000 in
theorem kpower_O (O : Blks) (hD : Distinct O) (a n : Nat) (ha : a ≤ 16) (hn : n ≤ 8) (w0 : World) (H : Has w0 O) :
    Calls Tryd.prog 43 #[iN a, iN n] w0 fun e w' => ∃ v, e = .returned (.agg #[nv (a ^ n) v]) ∧ Below w0.heap.size w0 w' ∧ NatNew w0.heap.size w' (nv (a ^ n) v) (a ^ n) := by
  refine enter_fr Tryd.func43 rfl Tryd.ntmps43 (by simp) fun ac (FF : Fr 16 ac [(0, iN a), (1, iN n)]) => ?_
  have MM : MemS (fun k => k < w0.heap.size ∧ ∀ x ∈ O, x.1 ≠ k) w0 w0 O [] := MemS.startN H hD
  refine wp_seq (rg_seq FF MM [o_] [0, 1, 4] (fun Kt => ∀ br, Kt [(4, pT br), (0, iN a), (1, iN n)] ((br, oC #[.slice none 0 0] 37) :: O)) (by kernel_rfl) (fun _ => by kernel_rfl) (fun br => fun ac1 wd1 FF1 MM1 => then_n ?_))
  refine wp_seq (wp_region_list ?_)
  refine rg_part 2 FF1 MM1 [o_, w_ 1] [4, 1, 9] (fun Kt => a < 18446744073709551616 ∧ Kt [(9, iW a), (4, pT br), (1, iN n)] ((br, oC #[.slice none 0 0] 37) :: O)) (by kernel_rfl) (fun _ => by kernel_rfl) (⟨(by omega), fun ac2 wd2 FF2 MM2 => ?_⟩)
  refine st_callE [4, 1, 10] FF2 (d := 10) (mk := fun v => .agg #[nv (a) v]) en_nof rfl rfl (nof_any a (by omega) _) rfl (by kernel_rfl) (by decide) fun ac4 wd4 lv3 (FF4 : Fr 16 ac4 [(10, aG #[nv a lv3]), (4, pT br), (1, iN n)]) hr5 => ?_
  obtain ⟨O6, MM70, hN8, hs9⟩ := MemS.addNats (K := [(br, oC #[.slice none 0 0] 37)]) (O := O) MM2 hr5.1 hr5.2 (Nats.nil O)
  have MM7 : MemS (fun k => k < w0.heap.size ∧ ∀ x ∈ O, x.1 ≠ k) w0 wd4 ((br, oC #[.slice none 0 0] 37) :: O6) [] := MM70
  refine rg_part 1 FF4 MM7 [o_] [10, 4, 11] (fun Kt => Kt [(11, iN n), (10, aG #[nv a lv3]), (4, pT br)] ((br, oC #[.slice none 0 0] 37) :: O6)) (by kernel_rfl) (fun _ => by kernel_rfl) (fun ac10 wd10 FF10 MM10 => ?_)
  refine st_callE [4, 12] FF10 (d := 12) (mk := fun v => .tuple #[.agg #[nv (a ^ n) v], iN 0]) en_npow rfl rfl (npow_ok a lv3 (qok4 (b100 (by omega))) n (pow_tab ha hn) (by omega) _ ((hN8.get 0 rfl).at (Has.tl MM10.hasL))) rfl (by kernel_rfl) (by decide) fun ac12 wd12 lv11 (FF12 : Fr 16 ac12 [(12, .tuple #[aG #[nv (a ^ n) lv11], iN 0]), (4, pT br)]) hr13 => ?_
  have hfr14 : ∀ g, (nv (a ^ n) lv11).ownBlock = some g → w0.heap.size ≤ g := fun g hg => Nat.le_trans MM10.size (hr13.2.2 g hg)
  obtain ⟨O15, MM160, hN17, hs18⟩ := MemS.addNats (K := [(br, oC #[.slice none 0 0] 37)]) (O := O6) MM10 hr13.1 hr13.2 hN8
  have MM16 : MemS (fun k => k < w0.heap.size ∧ ∀ x ∈ O, x.1 ≠ k) w0 wd12 ((br, oC #[.slice none 0 0] 37) :: O15) [] := MM160
  have hz19 : ∀ x ∈ O, x ∈ O15 := fun x hx => hs18 x (hs9 x hx)
  refine rg_part 6 FF12 MM16 [o_, o_, o_, o_, b_ 0, o_] [4, 5] (fun Kt => ∀ bp, bp = bp ∧ (#[.slice none 0 0] : Array Value).size = 1 ∧ (#[nv (a ^ n) lv11] : Array Value).size = 1 ∧ (#[nv (a ^ n) lv11] : Array Value).all (·.oneCell') = true ∧ (0, 0).2 = 0 ∧ Kt [(5, pT bp), (4, pT br)] ((bp, oC #[nv (a ^ n) lv11] 37) :: (br, oC #[.slice none 0 0] 37) :: O15)) (by kernel_rfl) (fun _ => by kernel_rfl) (fun bp => ⟨rfl, rfl, rfl, (by kernel_rfl), rfl, fun ac20 wd20 FF20 MM20 => ?_⟩)
  refine wpl_nil (then_n ?_)
  refine wp_seq (rg_seq FF20 MM20 [b_ 0, b_ 1] [5, 4] (fun Kt => bp = bp ∧ (#[nv (a ^ n) lv11] : Array Value).size = 1 ∧ br = br ∧ (#[.slice none 0 0] : Array Value).size = 1 ∧ (#[nv (a ^ n) lv11] : Array Value).size = 1 ∧ (#[nv (a ^ n) lv11] : Array Value).all (·.oneCell') = true ∧ (0, 0).2 = 0 ∧ Kt [(5, pT bp), (4, pT br)] ((bp, oC #[nv (a ^ n) lv11] 37) :: (br, oC #[nv (a ^ n) lv11] 37) :: O15)) (by kernel_rfl) (fun _ => by kernel_rfl) (⟨rfl, rfl, rfl, rfl, rfl, (by kernel_rfl), rfl, fun ac21 wd21 FF21 MM21 => then_n ?_⟩))
  refine wp_ret ?_
  repeat first | refine then_ret ?_ | refine inb_ret ?_
  exact (retc FF21 MM21 (k := 1) (i := 1) (j := 1) Tryd.results43 rfl rfl Tryd.underlying37 rfl (by kernel_rfl) rfl ⟨lv11, rfl, MM21.belowN H (fun _ hx => List.mem_cons_of_mem _ (List.mem_cons_of_mem _ (hz19 _ hx))), ⟨(hN17.get 0 rfl).at (Has.tl (Has.tl MM21.hasL)), hfr14⟩⟩)
theorem kpower_any (a n : Nat) (ha : a ≤ 16) (hn : n ≤ 8) (w0 : World) : Calls Tryd.prog 43 #[iN a, iN n] w0 fun e w' => ∃ v, e = .returned (.agg #[nv (a ^ n) v]) ∧ Below w0.heap.size w0 w' ∧ NatNew w0.heap.size w' (nv (a ^ n) v) (a ^ n) := kpower_O [] trivial a n ha hn w0 (fun i x hx => by simp at hx)
theorem max_ok {P : Program} {l : Slots} {L : Blks} {o : Oper} {t u : TypeId} {x y : Operand} {p q z : Int} (ho : o.op = .call ⟨.builtin .max, #[x, y], #[t, u]⟩) (hx : evO l x = some (.int .i64 p)) (hy : evO l y = some (.int .i64 q)) (hz : max p q = z) : RunV P l L o (.int .i64 z) := fun ρ w Ag _ => by
  have h1 := Ag x _ hx
  have h2 := Ag y _ hy
  simp [execOp, ho, resolve, invoke, builtin, h1, h2, Lib.run_max_ints, hz]
/-- A row of numbers. -/
def RowNs (w : World) (p : Option Addr) (ns : List Nat) : Prop := ∃ xs, NatsIn w p ns xs
theorem rowNs_st (ns : List Nat) : ∀ (v : Value) (w w' : World), RowNs w (pOf v) ns → Below w.heap.size w w' → RowNs w' (pOf v) ns := fun _ _ _ ⟨xs, h⟩ hb => ⟨xs, h.keep hb⟩
theorem nadd2r {p : Option Addr} (M N : Nat) (hs : M + N < 18446744073709551616 ^ 100) (w0 : World) (h : RowNs w0 p [M, N]) : Calls Tryd.prog 31 #[.slice p 2 2] w0 fun e w' => ∃ v, e = .returned (.agg #[nv (M + N) v]) ∧ Below w0.heap.size w0 w' ∧ NatNew w0.heap.size w' (nv (M + N) v) (M + N) := by
  obtain ⟨xs, h⟩ := h
  exact nadd_any p 2 [M, N] xs (qok (by simpa using hs)) (show 2 < 1000 by decide) w0 h
theorem nmul2r {p : Option Addr} (M N : Nat) (hM : M < 18446744073709551616 ^ 100) (hN : N < 18446744073709551616 ^ 100) (w0 : World) (h : RowNs w0 p [M, N]) : Calls Tryd.prog 34 #[.slice p 2 2] w0 fun e w' => ∃ v, e = .returned (.agg #[nv (M * N) v]) ∧ Below w0.heap.size w0 w' ∧ NatNew w0.heap.size w' (nv (M * N) v) (M * N) := by
  obtain ⟨xs, h⟩ := h
  have h := nmul_any p 2 [M, N] xs (fun j hj => by
    have : j = 0 ∨ j = 1 := by simp at hj; omega
    rcases this with rfl | rfl
    · exact qok3 hM
    · exact qok3 hN) (show 2 ≤ 100 by decide) w0 h
  rw [prN2] at h
  exact h
set_option maxRecDepth 100000 in
theorem kweight_lo (g : Nat) (a b r m : Nat) (hk : TOk a b r m) (n : Int) (hn : n < (m : Int) - r) (_h1 : -9223372036854775808 ≤ n) (w0 : World) (hg : w0.heap[g]? = some (KB a b r m)) :
    Calls Tryd.prog 20 #[pT g, .int .i64 (n : Int)] w0 fun e w' => ∃ v, e = .returned (.agg #[nv (0) v]) ∧ Turn g (KB a b r m) w0 w' ∧ NatNew w0.heap.size w' (nv (0) v) (0) := by
  have ⟨k1, k2, k3, k4, k5⟩ := hk
  refine enter_fr Tryd.func20 rfl Tryd.ntmps20 (by simp) fun ac (FF : Fr 53 ac [(0, pT g), (1, .int .i64 (n : Int))]) => ?_
  have MM : MemS (fun k => k < w0.heap.size ∧ ∀ x ∈ (g, oC #[iN a, iN b, iN r, iN m] 73) :: ([] : Blks), x.1 ≠ k) w0 w0 ((g, oC #[iN a, iN b, iN r, iN m] 73) :: ([] : Blks)) [] := MemS.startN (one_has hg) ⟨fun y hy => (nomatch hy), trivial⟩
  refine wp_seq (rg_seq FF MM [o_] [0, 1, 4] (fun Kt => ∀ br, Kt [(4, pT br), (0, pT g), (1, .int .i64 (n : Int))] ((br, oC #[.slice none 0 0] 37) :: (g, oC #[iN a, iN b, iN r, iN m] 73) :: ([] : Blks))) (by kernel_rfl) (fun _ => by kernel_rfl) (fun br => fun ac1 wd1 FF1 MM1 => then_n ?_))
  refine wp_seq ?_
  refine wp_seq (rg_seq FF1 MM1 [o_, f_ (.bool false), o_, o_, o_, u_ 1 (iN (m - r)), w_ 6, o_, o_, o_, o_, o_, o_, o_] [4, 0, 1, 19] (fun Kt => RunV Tryd.prog [(6, pT g), (4, pT br), (0, pT g), (1, .int .i64 (n : Int))] ((br, oC #[.slice none 0 0] 37) :: (g, oC #[iN a, iN b, iN r, iN m] 73) :: ([] : Blks)) (opAt Tryd.f20 1 1) (.bool false) ∧ CallP Tryd.prog 11 [pT g] ((br, oC #[.slice none 0 0] 37) :: (g, oC #[iN a, iN b, iN r, iN m] 73) :: ([] : Blks)) (iN (m - r)) ∧ n < ((m - r : Nat) : Int) ∧ Kt [(19, .bool true), (4, pT br), (0, pT g), (1, .int .i64 (n : Int))] ((br, oC #[.slice none 0 0] 37) :: (g, oC #[iN a, iN b, iN r, iN m] 73) :: ([] : Blks))) (by kernel_rfl) (fun _ => by kernel_rfl) (⟨(ptrSome_ok (t := 28) (t' := 28) (x := (.tmp 6)) (y := (.const (.pointer none))) (by kernel_rfl) rfl rfl Tryd.underlying28), ⟨en_kleast, fun w Hw => kleast_any g a b r m hk w (Hw 1 _ rfl)⟩, (by omega), fun ac2 wd2 FF2 MM2 => then_n ?_⟩))
  refine wp_cond_true (FF2.ev 0 rfl) ?_
  refine wp_seq (rg_seq FF2 MM2 [o_, b_ 0] [4, 0, 1] (fun Kt => br = br ∧ (#[.slice none 0 0] : Array Value).size = 1 ∧ (#[.slice none 0 0] : Array Value).size = 1 ∧ (#[.slice none 0 0] : Array Value).all (·.oneCell') = true ∧ (0, 0).2 = 0 ∧ Kt [(4, pT br), (0, pT g), (1, .int .i64 (n : Int))] ((br, oC #[.slice none 0 0] 37) :: (g, oC #[iN a, iN b, iN r, iN m] 73) :: ([] : Blks))) (by kernel_rfl) (fun _ => by kernel_rfl) (⟨rfl, rfl, rfl, (by kernel_rfl), rfl, fun ac3 wd3 FF3 MM3 => then_n ?_⟩))
  refine wp_ret ?_
  repeat first | refine then_ret ?_ | refine inb_ret ?_
  exact (retc FF3 MM3 (k := 1) (i := 0) (j := 0) Tryd.results20 rfl rfl Tryd.underlying37 rfl (by kernel_rfl) rfl ⟨.slice none 0 0, rfl, MM3.turn (O := []) (fun i x hx => by simp at hx) 1 rfl (fun x hx => (nomatch hx)), natNew_nil _ _⟩)
set_option maxRecDepth 100000 in
theorem kweight_hi (g : Nat) (a b r m : Nat) (hk : TOk a b r m) (n : Int) (hn : n > (m : Int) + r) (_h2 : n < 9223372036854775808) (w0 : World) (hg : w0.heap[g]? = some (KB a b r m)) :
    Calls Tryd.prog 20 #[pT g, .int .i64 (n : Int)] w0 fun e w' => ∃ v, e = .returned (.agg #[nv (0) v]) ∧ Turn g (KB a b r m) w0 w' ∧ NatNew w0.heap.size w' (nv (0) v) (0) := by
  have ⟨k1, k2, k3, k4, k5⟩ := hk
  refine enter_fr Tryd.func20 rfl Tryd.ntmps20 (by simp) fun ac (FF : Fr 53 ac [(0, pT g), (1, .int .i64 (n : Int))]) => ?_
  have MM : MemS (fun k => k < w0.heap.size ∧ ∀ x ∈ (g, oC #[iN a, iN b, iN r, iN m] 73) :: ([] : Blks), x.1 ≠ k) w0 w0 ((g, oC #[iN a, iN b, iN r, iN m] 73) :: ([] : Blks)) [] := MemS.startN (one_has hg) ⟨fun y hy => (nomatch hy), trivial⟩
  refine wp_seq (rg_seq FF MM [o_] [0, 1, 4] (fun Kt => ∀ br, Kt [(4, pT br), (0, pT g), (1, .int .i64 (n : Int))] ((br, oC #[.slice none 0 0] 37) :: (g, oC #[iN a, iN b, iN r, iN m] 73) :: ([] : Blks))) (by kernel_rfl) (fun _ => by kernel_rfl) (fun br => fun ac1 wd1 FF1 MM1 => then_n ?_))
  refine wp_seq ?_
  refine wp_seq (rg_seq FF1 MM1 [o_, f_ (.bool false), o_, o_, o_, u_ 1 (iN (m - r)), u_ 4 (.bool false), o_, o_, o_, o_, u_ 1 (iN (m + r)), w_ 6, o_] [4, 0, 1, 19] (fun Kt => RunV Tryd.prog [(6, pT g), (4, pT br), (0, pT g), (1, .int .i64 (n : Int))] ((br, oC #[.slice none 0 0] 37) :: (g, oC #[iN a, iN b, iN r, iN m] 73) :: ([] : Blks)) (opAt Tryd.f20 1 1) (.bool false) ∧ CallP Tryd.prog 11 [pT g] ((br, oC #[.slice none 0 0] 37) :: (g, oC #[iN a, iN b, iN r, iN m] 73) :: ([] : Blks)) (iN (m - r)) ∧ Value.bool (decide (n < ((m - r : Nat) : Int))) = .bool false ∧ CallP Tryd.prog 13 [pT g] ((br, oC #[.slice none 0 0] 37) :: (g, oC #[iN a, iN b, iN r, iN m] 73) :: ([] : Blks)) (iN (m + r)) ∧ n > ((m + r : Nat) : Int) ∧ Kt [(19, .bool true), (4, pT br), (0, pT g), (1, .int .i64 (n : Int))] ((br, oC #[.slice none 0 0] 37) :: (g, oC #[iN a, iN b, iN r, iN m] 73) :: ([] : Blks))) (by kernel_rfl) (fun _ => by kernel_rfl) (⟨(ptrSome_ok (t := 28) (t' := 28) (x := (.tmp 6)) (y := (.const (.pointer none))) (by kernel_rfl) rfl rfl Tryd.underlying28), ⟨en_kleast, fun w Hw => kleast_any g a b r m hk w (Hw 1 _ rfl)⟩, (dec_f (by omega)), ⟨en_kmost, fun w Hw => kmost_any g a b r m hk w (Hw 1 _ rfl)⟩, (by omega), fun ac2 wd2 FF2 MM2 => then_n ?_⟩))
  refine wp_cond_true (FF2.ev 0 rfl) ?_
  refine wp_seq (rg_seq FF2 MM2 [o_, b_ 0] [4, 0, 1] (fun Kt => br = br ∧ (#[.slice none 0 0] : Array Value).size = 1 ∧ (#[.slice none 0 0] : Array Value).size = 1 ∧ (#[.slice none 0 0] : Array Value).all (·.oneCell') = true ∧ (0, 0).2 = 0 ∧ Kt [(4, pT br), (0, pT g), (1, .int .i64 (n : Int))] ((br, oC #[.slice none 0 0] 37) :: (g, oC #[iN a, iN b, iN r, iN m] 73) :: ([] : Blks))) (by kernel_rfl) (fun _ => by kernel_rfl) (⟨rfl, rfl, rfl, (by kernel_rfl), rfl, fun ac3 wd3 FF3 MM3 => then_n ?_⟩))
  refine wp_ret ?_
  repeat first | refine then_ret ?_ | refine inb_ret ?_
  exact (retc FF3 MM3 (k := 1) (i := 0) (j := 0) Tryd.results20 rfl rfl Tryd.underlying37 rfl (by kernel_rfl) rfl ⟨.slice none 0 0, rfl, MM3.turn (O := []) (fun i x hx => by simp at hx) 1 rfl (fun x hx => (nomatch hx)), natNew_nil _ _⟩)
set_option maxRecDepth 100000 in
theorem kweight_up (g : Nat) (a b r m : Nat) (hk : TOk a b r m) (d : Nat) (hd : d ≤ r) (w0 : World) (hg : w0.heap[g]? = some (KB a b r m)) :
    Calls Tryd.prog 20 #[pT g, iN (m + d)] w0 fun e w' => ∃ v, e = .returned (.agg #[nv (b ^ d * a ^ (r - d)) v]) ∧ Turn g (KB a b r m) w0 w' ∧ NatNew w0.heap.size w' (nv (b ^ d * a ^ (r - d)) v) (b ^ d * a ^ (r - d)) := by
  have ⟨k1, k2, k3, k4, k5⟩ := hk
  refine enter_fr Tryd.func20 rfl Tryd.ntmps20 (by simp) fun ac (FF : Fr 53 ac [(0, pT g), (1, iN (m + d))]) => ?_
  have MM : MemS (fun k => k < w0.heap.size ∧ ∀ x ∈ (g, oC #[iN a, iN b, iN r, iN m] 73) :: ([] : Blks), x.1 ≠ k) w0 w0 ((g, oC #[iN a, iN b, iN r, iN m] 73) :: ([] : Blks)) [] := MemS.startN (one_has hg) ⟨fun y hy => (nomatch hy), trivial⟩
  refine wp_seq (rg_seq FF MM [o_] [0, 1, 4] (fun Kt => ∀ br, Kt [(4, pT br), (0, pT g), (1, iN (m + d))] ((br, oC #[.slice none 0 0] 37) :: (g, oC #[iN a, iN b, iN r, iN m] 73) :: ([] : Blks))) (by kernel_rfl) (fun _ => by kernel_rfl) (fun br => fun ac1 wd1 FF1 MM1 => then_n ?_))
  refine wp_seq ?_
  refine wp_seq (rg_seq FF1 MM1 [o_, f_ (.bool false), o_, o_, o_, u_ 1 (iN (m - r)), w_ 3, o_, o_, o_, o_, u_ 1 (iN (m + r)), w_ 3, o_] [4, 0, 1, 19] (fun Kt => RunV Tryd.prog [(6, pT g), (4, pT br), (0, pT g), (1, iN (m + d))] ((br, oC #[.slice none 0 0] 37) :: (g, oC #[iN a, iN b, iN r, iN m] 73) :: ([] : Blks)) (opAt Tryd.f20 1 1) (.bool false) ∧ CallP Tryd.prog 11 [pT g] ((br, oC #[.slice none 0 0] 37) :: (g, oC #[iN a, iN b, iN r, iN m] 73) :: ([] : Blks)) (iN (m - r)) ∧ ¬ ((m + d) < (m - r)) ∧ CallP Tryd.prog 13 [pT g] ((br, oC #[.slice none 0 0] 37) :: (g, oC #[iN a, iN b, iN r, iN m] 73) :: ([] : Blks)) (iN (m + r)) ∧ ¬ ((m + d) > (m + r)) ∧ Kt [(19, .bool false), (4, pT br), (0, pT g), (1, iN (m + d))] ((br, oC #[.slice none 0 0] 37) :: (g, oC #[iN a, iN b, iN r, iN m] 73) :: ([] : Blks))) (by kernel_rfl) (fun _ => by kernel_rfl) (⟨(ptrSome_ok (t := 28) (t' := 28) (x := (.tmp 6)) (y := (.const (.pointer none))) (by kernel_rfl) rfl rfl Tryd.underlying28), ⟨en_kleast, fun w Hw => kleast_any g a b r m hk w (Hw 1 _ rfl)⟩, (by omega), ⟨en_kmost, fun w Hw => kmost_any g a b r m hk w (Hw 1 _ rfl)⟩, (by omega), fun ac2 wd2 FF2 MM2 => then_n ?_⟩))
  refine wp_cond_false (FF2.ev 0 rfl) ?_
  refine wp_skip ?_
  refine then_n ?_
  refine wp_seq (rg_pred FF2 MM2 [.inl (iN (m + d)), .inl (pT g), .inl (pT g), .inl (.pointer (some ⟨g, 3, none⟩)), .inl (iN m), .inl (iN d), .inl (pT g), .inl (pT g), .inl (.pointer (some ⟨g, 3, none⟩)), .inl (iN m), .inl (iN (m + d)), .inl (.int .i64 (-((d : Nat) : Int) : Int)), .inl (iN d)] [some (o_), some (o_), some (o_), some (o_), some (l_ 1 (iN m)), some (t_ (iN d)), some (o_), some (o_), some (o_), some (l_ 1 (iN m)), some (o_), some (u_ 4 (.int .i64 (-((d : Nat) : Int) : Int))), some (f_ (iN d))] [33, 4, 0, 1] (fun lx wq => [(iN (m + d) = iN (m + d)), (pT g = pT g), (pT g = pT g), (Value.pointer (some ⟨g, 3, none⟩) = .pointer (some ⟨g, 3, none⟩)), (g = g ∧ (#[iN a, iN b, iN r, iN m] : Array Value)[3]? = some (iN m) ∧ iN m = iN m), (m ≤ (m + d) ∧ (m + d) - m < 9223372036854775808 ∧ iN ((m + d) - m) = iN d ∧ iN d = iN d), (pT g = pT g), (pT g = pT g), (Value.pointer (some ⟨g, 3, none⟩) = .pointer (some ⟨g, 3, none⟩)), (g = g ∧ (#[iN a, iN b, iN r, iN m] : Array Value)[3]? = some (iN m) ∧ iN m = iN m), (iN (m + d) = iN (m + d)), (-(9223372036854775808 : Int) ≤ ((m : Nat) : Int) - ((m + d : Nat) : Int) ∧ ((m : Nat) : Int) - ((m + d : Nat) : Int) < (9223372036854775808 : Nat) ∧ Value.int .i64 (((m : Nat) : Int) - ((m + d : Nat) : Int) : Int) = .int .i64 (-((d : Nat) : Int) : Int) ∧ Value.int .i64 (-((d : Nat) : Int) : Int) = .int .i64 (-((d : Nat) : Int) : Int)), (RunV Tryd.prog [(26, iN d), (32, .int .i64 (-((d : Nat) : Int) : Int)), (19, .bool false), (4, pT br), (0, pT g), (1, iN (m + d))] ((br, oC #[.slice none 0 0] 37) :: (g, oC #[iN a, iN b, iN r, iN m] 73) :: ([] : Blks)) (opAt Tryd.f20 3 12) (iN d) ∧ iN d = iN d)]) (fun lx => [(33, iN d), (4, pT br), (0, pT g), (1, iN (m + d))]) (by kernel_rfl) (by kernel_rfl) (by kernel_rfl) trivial (fun _ _ => by kernel_rfl) (fun _ => by kernel_rfl) (fun lx wq hB9 hH9 => ⟨(rfl), (rfl), (rfl), (rfl), (⟨rfl, rfl, rfl⟩), (⟨(by omega), (by omega), (vI (by omega)), rfl⟩), (rfl), (rfl), (rfl), (⟨rfl, rfl, rfl⟩), (rfl), (⟨(by omega), (by omega), (vZ (by omega)), rfl⟩), (⟨(max_ok (t := 3) (u := 3) (x := .tmp 26) (y := .tmp 32) (by kernel_rfl) rfl rfl (by omega)), rfl⟩), trivial⟩) (fun lx ac3 wd3 hx4 hB5 FF3 MM3 => ?_))
  clear hx4
  refine rg_part 1 FF3 MM3 [o_] [4, 0, 1, 5] (fun Kt => Kt [(5, iN d), (4, pT br), (0, pT g), (1, iN (m + d))] ((br, oC #[.slice none 0 0] 37) :: (g, oC #[iN a, iN b, iN r, iN m] 73) :: ([] : Blks))) (by kernel_rfl) (fun _ => by kernel_rfl) (fun ac6 wd6 FF6 MM6 => ?_)
  refine wpl_nil (then_n ?_)
  have h0w := MM6.size
  refine wp_seq (rg_pred FF6 MM6 [.inl (pT g), .inl (pT g), .inl (.pointer (some ⟨g, 1, none⟩)), .inl (iN b), .inl (iN d), (.inr (fun v => .agg #[nv (b ^ d) v], fun v w => NatNew wd6.heap.size w (nv (b ^ d) v) (b ^ d)) : Spec), .inl (pT g), .inl (pT g), .inl (pT g), .inl (iN a), .inl (pT g), .inl (pT g), .inl (.pointer (some ⟨g, 2, none⟩)), .inl (iN r), .inl (iN d), .inl (iN (r - d)), (.inr (fun v => .agg #[nv (a ^ (r - d)) v], fun v w => NatNew wd6.heap.size w (nv (a ^ (r - d)) v) (a ^ (r - d))) : Spec), (.inr (fun v => .slice (pOf v) 2 2, fun v w => RowNs w (pOf v) [b ^ d, a ^ (r - d)]) : Spec), (.inr (fun v => .agg #[nv ((b ^ d) * (a ^ (r - d))) v], fun v w => NatNew wd6.heap.size w (nv ((b ^ d) * (a ^ (r - d))) v) ((b ^ d) * (a ^ (r - d)))) : Spec)] [some (o_), some (o_), some (o_), some (l_ 1 (iN b)), some (o_), none, some (o_), some (o_), some (o_), some (l_ 1 (iN a)), some (o_), some (o_), some (o_), some (l_ 1 (iN r)), some (o_), some (o_), none, some (o_), none] [52, 4, 0, 1] (fun lx wq => [(pT g = pT g), (pT g = pT g), (Value.pointer (some ⟨g, 1, none⟩) = .pointer (some ⟨g, 1, none⟩)), (g = g ∧ (#[iN a, iN b, iN r, iN m] : Array Value)[1]? = some (iN b) ∧ iN b = iN b), (iN d = iN d), (CallQ Tryd.prog 43 [iN b, iN d] wq (.inr (fun v => .agg #[nv (b ^ d) v], fun v w => NatNew wd6.heap.size w (nv (b ^ d) v) (b ^ d)) : Spec)), (pT g = pT g), (pT g = pT g), (pT g = pT g), (g = g ∧ (#[iN a, iN b, iN r, iN m] : Array Value)[0]? = some (iN a) ∧ iN a = iN a), (pT g = pT g), (pT g = pT g), (Value.pointer (some ⟨g, 2, none⟩) = .pointer (some ⟨g, 2, none⟩)), (g = g ∧ (#[iN a, iN b, iN r, iN m] : Array Value)[2]? = some (iN r) ∧ iN r = iN r), (iN d = iN d), (d ≤ r ∧ r - d < 9223372036854775808 ∧ iN (r - d) = iN (r - d)), (NatNew wd6.heap.size wq (nv (b ^ d) (lx 5)) (b ^ d) → CallQ Tryd.prog 43 [iN a, iN (r - d)] wq (.inr (fun v => .agg #[nv (a ^ (r - d)) v], fun v w => NatNew wd6.heap.size w (nv (a ^ (r - d)) v) (a ^ (r - d))) : Spec)), (NatNew wd6.heap.size wq (nv (b ^ d) (lx 5)) (b ^ d) → NatNew wd6.heap.size wq (nv (a ^ (r - d)) (lx 16)) (a ^ (r - d)) → (∀ w', Below wq.heap.size wq w' → w'.heap[wq.heap.size]? = some (oC #[nv (b ^ d) (lx 5), nv (a ^ (r - d)) (lx 16)] 37) → ∃ y, Value.slice (some ⟨wq.heap.size, 0, none⟩) 2 2 = (fun v => .slice (pOf v) 2 2) y ∧ RowNs w' (pOf y) [b ^ d, a ^ (r - d)])), (RowNs wq (pOf (lx 17)) [b ^ d, a ^ (r - d)] → NatNew wd6.heap.size wq (nv (a ^ (r - d)) (lx 16)) (a ^ (r - d)) → CallQ Tryd.prog 34 [.slice (pOf (lx 17)) 2 2] wq (.inr (fun v => .agg #[nv ((b ^ d) * (a ^ (r - d))) v], fun v w => NatNew wd6.heap.size w (nv ((b ^ d) * (a ^ (r - d))) v) ((b ^ d) * (a ^ (r - d)))) : Spec))]) (fun lx => [(52, aG #[nv ((b ^ d) * (a ^ (r - d))) (lx 18)]), (4, pT br), (0, pT g), (1, iN (m + d))]) (by kernel_rfl) (by kernel_rfl) (by kernel_rfl) ⟨(fun v w w1 => natNew_st _ _ (nv _ v) w w1), (fun v w w1 => natNew_st _ _ (nv _ v) w w1), (rowNs_st [b ^ d, a ^ (r - d)]), (fun v w w1 => natNew_st _ _ (nv _ v) w w1), trivial⟩ (fun _ _ => by kernel_rfl) (fun _ => by kernel_rfl) (fun lx wq hB9 hH9 => ⟨(rfl), (rfl), (rfl), (⟨rfl, rfl, rfl⟩), (rfl), (⟨en_kpower, (kpower_any b d (by omega) (by omega) wq).mono fun _ _ ⟨v, h1, h2, h3⟩ => ⟨v, h1, h2, h3.mono hB9.size⟩⟩), (rfl), (rfl), (rfl), (⟨rfl, rfl, rfl⟩), (rfl), (rfl), (rfl), (⟨rfl, rfl, rfl⟩), (rfl), (⟨(by omega), (by omega), rfl⟩), (fun h5_0 => ⟨en_kpower, (kpower_any a (r - d) (by omega) (by omega) wq).mono fun _ _ ⟨v, h1, h2, h3⟩ => ⟨v, h1, h2, h3.mono hB9.size⟩⟩), (fun h5_0 h16_1 => fun w' hb hh => ⟨.slice (some ⟨wq.heap.size, 0, none⟩) 2 2, rfl, _, nats2 hh (h5_0.1.keep hb) (h16_1.1.keep hb)⟩), (fun h17_0 h16_1 => ⟨en_nmul, (nmul2r (b ^ d) (a ^ (r - d)) (b100 (pow_lt16 (by omega) (by omega)) : b ^ d < 18446744073709551616 ^ 100) (b100 (pow_lt16 (by omega) (by omega)) : a ^ (r - d) < 18446744073709551616 ^ 100) wq h17_0).mono fun _ _ ⟨v, h1, h2, h3⟩ => ⟨v, h1, h2, h3.mono hB9.size⟩⟩), trivial⟩) (fun lx ac7 wd7 hx8 hB9 FF7 MM7 => ?_))
  obtain ⟨hl5, hl16, hl17, hl18, -⟩ := hx8
  generalize lx 5 = lv10 at *
  generalize lx 16 = lv11 at *
  generalize lx 17 = lv12 at *
  generalize lx 18 = lv13 at *
  have hfrw : ∀ g, (nv (b ^ d * a ^ (r - d)) lv13).ownBlock = some g → w0.heap.size ≤ g := fun g hg => Nat.le_trans h0w (hl18.2 g hg)
  obtain ⟨O14, MM150, hN16, hs17⟩ := MemS.addNatsT (K := [(br, oC #[.slice none 0 0] 37), (g, oC #[iN a, iN b, iN r, iN m] 73)]) (O := ([] : Blks)) MM6 MM7 rfl hl18 (Nats.nil ([] : Blks))
  have MM15 : MemS (fun k => k < w0.heap.size ∧ ∀ x ∈ (g, oC #[iN a, iN b, iN r, iN m] 73) :: ([] : Blks), x.1 ≠ k) w0 wd7 ((br, oC #[.slice none 0 0] 37) :: (g, oC #[iN a, iN b, iN r, iN m] 73) :: O14) [] := MM150
  refine rg_part 1 FF7 MM15 [b_ 0] [4, 0, 1] (fun Kt => br = br ∧ (#[.slice none 0 0] : Array Value).size = 1 ∧ (#[nv ((b ^ d) * (a ^ (r - d))) lv13] : Array Value).size = 1 ∧ (#[nv ((b ^ d) * (a ^ (r - d))) lv13] : Array Value).all (·.oneCell') = true ∧ (0, 0).2 = 0 ∧ Kt [(4, pT br), (0, pT g), (1, iN (m + d))] ((br, oC #[nv ((b ^ d) * (a ^ (r - d))) lv13] 37) :: (g, oC #[iN a, iN b, iN r, iN m] 73) :: O14)) (by kernel_rfl) (fun _ => by kernel_rfl) (⟨rfl, rfl, rfl, (by kernel_rfl), rfl, fun ac18 wd18 FF18 MM18 => ?_⟩)
  refine wpl_nil (then_n ?_)
  refine wp_ret ?_
  repeat first | refine then_ret ?_ | refine inb_ret ?_
  exact (retc FF18 MM18 (k := 1) (i := 0) (j := 0) Tryd.results20 rfl rfl Tryd.underlying37 rfl (by kernel_rfl) rfl ⟨lv13, rfl, MM18.turn (O := []) (fun i x hx => by simp at hx) 1 rfl (fun x hx => (nomatch hx)), ⟨(hN16.get 0 rfl).at (Has.tl (Has.tl MM18.hasL)), hfrw⟩⟩)
set_option maxRecDepth 100000 in
theorem kweight_dn (g : Nat) (a b r m : Nat) (hk : TOk a b r m) (d : Nat) (hd : d ≤ r) (w0 : World) (hg : w0.heap[g]? = some (KB a b r m)) :
    Calls Tryd.prog 20 #[pT g, iN (m - d)] w0 fun e w' => ∃ v, e = .returned (.agg #[nv (b ^ d * a ^ (r - d)) v]) ∧ Turn g (KB a b r m) w0 w' ∧ NatNew w0.heap.size w' (nv (b ^ d * a ^ (r - d)) v) (b ^ d * a ^ (r - d)) := by
  have ⟨k1, k2, k3, k4, k5⟩ := hk
  refine enter_fr Tryd.func20 rfl Tryd.ntmps20 (by simp) fun ac (FF : Fr 53 ac [(0, pT g), (1, iN (m - d))]) => ?_
  have MM : MemS (fun k => k < w0.heap.size ∧ ∀ x ∈ (g, oC #[iN a, iN b, iN r, iN m] 73) :: ([] : Blks), x.1 ≠ k) w0 w0 ((g, oC #[iN a, iN b, iN r, iN m] 73) :: ([] : Blks)) [] := MemS.startN (one_has hg) ⟨fun y hy => (nomatch hy), trivial⟩
  refine wp_seq (rg_seq FF MM [o_] [0, 1, 4] (fun Kt => ∀ br, Kt [(4, pT br), (0, pT g), (1, iN (m - d))] ((br, oC #[.slice none 0 0] 37) :: (g, oC #[iN a, iN b, iN r, iN m] 73) :: ([] : Blks))) (by kernel_rfl) (fun _ => by kernel_rfl) (fun br => fun ac1 wd1 FF1 MM1 => then_n ?_))
  refine wp_seq ?_
  refine wp_seq (rg_seq FF1 MM1 [o_, f_ (.bool false), o_, o_, o_, u_ 1 (iN (m - r)), w_ 3, o_, o_, o_, o_, u_ 1 (iN (m + r)), w_ 3, o_] [4, 0, 1, 19] (fun Kt => RunV Tryd.prog [(6, pT g), (4, pT br), (0, pT g), (1, iN (m - d))] ((br, oC #[.slice none 0 0] 37) :: (g, oC #[iN a, iN b, iN r, iN m] 73) :: ([] : Blks)) (opAt Tryd.f20 1 1) (.bool false) ∧ CallP Tryd.prog 11 [pT g] ((br, oC #[.slice none 0 0] 37) :: (g, oC #[iN a, iN b, iN r, iN m] 73) :: ([] : Blks)) (iN (m - r)) ∧ ¬ ((m - d) < (m - r)) ∧ CallP Tryd.prog 13 [pT g] ((br, oC #[.slice none 0 0] 37) :: (g, oC #[iN a, iN b, iN r, iN m] 73) :: ([] : Blks)) (iN (m + r)) ∧ ¬ ((m - d) > (m + r)) ∧ Kt [(19, .bool false), (4, pT br), (0, pT g), (1, iN (m - d))] ((br, oC #[.slice none 0 0] 37) :: (g, oC #[iN a, iN b, iN r, iN m] 73) :: ([] : Blks))) (by kernel_rfl) (fun _ => by kernel_rfl) (⟨(ptrSome_ok (t := 28) (t' := 28) (x := (.tmp 6)) (y := (.const (.pointer none))) (by kernel_rfl) rfl rfl Tryd.underlying28), ⟨en_kleast, fun w Hw => kleast_any g a b r m hk w (Hw 1 _ rfl)⟩, (by omega), ⟨en_kmost, fun w Hw => kmost_any g a b r m hk w (Hw 1 _ rfl)⟩, (by omega), fun ac2 wd2 FF2 MM2 => then_n ?_⟩))
  refine wp_cond_false (FF2.ev 0 rfl) ?_
  refine wp_skip ?_
  refine then_n ?_
  refine wp_seq (rg_pred FF2 MM2 [.inl (iN (m - d)), .inl (pT g), .inl (pT g), .inl (.pointer (some ⟨g, 3, none⟩)), .inl (iN m), .inl (.int .i64 (-((d : Nat) : Int) : Int)), .inl (pT g), .inl (pT g), .inl (.pointer (some ⟨g, 3, none⟩)), .inl (iN m), .inl (iN (m - d)), .inl (iN d), .inl (iN d)] [some (o_), some (o_), some (o_), some (o_), some (l_ 1 (iN m)), some (u_ 4 (.int .i64 (-((d : Nat) : Int) : Int))), some (o_), some (o_), some (o_), some (l_ 1 (iN m)), some (o_), some (t_ (iN d)), some (f_ (iN d))] [33, 4, 0, 1] (fun lx wq => [(iN (m - d) = iN (m - d)), (pT g = pT g), (pT g = pT g), (Value.pointer (some ⟨g, 3, none⟩) = .pointer (some ⟨g, 3, none⟩)), (g = g ∧ (#[iN a, iN b, iN r, iN m] : Array Value)[3]? = some (iN m) ∧ iN m = iN m), (-(9223372036854775808 : Int) ≤ ((m - d : Nat) : Int) - ((m : Nat) : Int) ∧ ((m - d : Nat) : Int) - ((m : Nat) : Int) < (9223372036854775808 : Nat) ∧ Value.int .i64 (((m - d : Nat) : Int) - ((m : Nat) : Int) : Int) = .int .i64 (-((d : Nat) : Int) : Int) ∧ Value.int .i64 (-((d : Nat) : Int) : Int) = .int .i64 (-((d : Nat) : Int) : Int)), (pT g = pT g), (pT g = pT g), (Value.pointer (some ⟨g, 3, none⟩) = .pointer (some ⟨g, 3, none⟩)), (g = g ∧ (#[iN a, iN b, iN r, iN m] : Array Value)[3]? = some (iN m) ∧ iN m = iN m), (iN (m - d) = iN (m - d)), ((m - d) ≤ m ∧ m - (m - d) < 9223372036854775808 ∧ iN (m - (m - d)) = iN d ∧ iN d = iN d), (RunV Tryd.prog [(26, .int .i64 (-((d : Nat) : Int) : Int)), (32, iN d), (19, .bool false), (4, pT br), (0, pT g), (1, iN (m - d))] ((br, oC #[.slice none 0 0] 37) :: (g, oC #[iN a, iN b, iN r, iN m] 73) :: ([] : Blks)) (opAt Tryd.f20 3 12) (iN d) ∧ iN d = iN d)]) (fun lx => [(33, iN d), (4, pT br), (0, pT g), (1, iN (m - d))]) (by kernel_rfl) (by kernel_rfl) (by kernel_rfl) trivial (fun _ _ => by kernel_rfl) (fun _ => by kernel_rfl) (fun lx wq hB9 hH9 => ⟨(rfl), (rfl), (rfl), (rfl), (⟨rfl, rfl, rfl⟩), (⟨(by omega), (by omega), (vZ (by omega)), rfl⟩), (rfl), (rfl), (rfl), (⟨rfl, rfl, rfl⟩), (rfl), (⟨(by omega), (by omega), (vI (by omega)), rfl⟩), (⟨(max_ok (t := 3) (u := 3) (x := .tmp 26) (y := .tmp 32) (by kernel_rfl) rfl rfl (by omega)), rfl⟩), trivial⟩) (fun lx ac3 wd3 hx4 hB5 FF3 MM3 => ?_))
  clear hx4
  refine rg_part 1 FF3 MM3 [o_] [4, 0, 1, 5] (fun Kt => Kt [(5, iN d), (4, pT br), (0, pT g), (1, iN (m - d))] ((br, oC #[.slice none 0 0] 37) :: (g, oC #[iN a, iN b, iN r, iN m] 73) :: ([] : Blks))) (by kernel_rfl) (fun _ => by kernel_rfl) (fun ac6 wd6 FF6 MM6 => ?_)
  refine wpl_nil (then_n ?_)
  have h0w := MM6.size
  refine wp_seq (rg_pred FF6 MM6 [.inl (pT g), .inl (pT g), .inl (.pointer (some ⟨g, 1, none⟩)), .inl (iN b), .inl (iN d), (.inr (fun v => .agg #[nv (b ^ d) v], fun v w => NatNew wd6.heap.size w (nv (b ^ d) v) (b ^ d)) : Spec), .inl (pT g), .inl (pT g), .inl (pT g), .inl (iN a), .inl (pT g), .inl (pT g), .inl (.pointer (some ⟨g, 2, none⟩)), .inl (iN r), .inl (iN d), .inl (iN (r - d)), (.inr (fun v => .agg #[nv (a ^ (r - d)) v], fun v w => NatNew wd6.heap.size w (nv (a ^ (r - d)) v) (a ^ (r - d))) : Spec), (.inr (fun v => .slice (pOf v) 2 2, fun v w => RowNs w (pOf v) [b ^ d, a ^ (r - d)]) : Spec), (.inr (fun v => .agg #[nv ((b ^ d) * (a ^ (r - d))) v], fun v w => NatNew wd6.heap.size w (nv ((b ^ d) * (a ^ (r - d))) v) ((b ^ d) * (a ^ (r - d)))) : Spec)] [some (o_), some (o_), some (o_), some (l_ 1 (iN b)), some (o_), none, some (o_), some (o_), some (o_), some (l_ 1 (iN a)), some (o_), some (o_), some (o_), some (l_ 1 (iN r)), some (o_), some (o_), none, some (o_), none] [52, 4, 0, 1] (fun lx wq => [(pT g = pT g), (pT g = pT g), (Value.pointer (some ⟨g, 1, none⟩) = .pointer (some ⟨g, 1, none⟩)), (g = g ∧ (#[iN a, iN b, iN r, iN m] : Array Value)[1]? = some (iN b) ∧ iN b = iN b), (iN d = iN d), (CallQ Tryd.prog 43 [iN b, iN d] wq (.inr (fun v => .agg #[nv (b ^ d) v], fun v w => NatNew wd6.heap.size w (nv (b ^ d) v) (b ^ d)) : Spec)), (pT g = pT g), (pT g = pT g), (pT g = pT g), (g = g ∧ (#[iN a, iN b, iN r, iN m] : Array Value)[0]? = some (iN a) ∧ iN a = iN a), (pT g = pT g), (pT g = pT g), (Value.pointer (some ⟨g, 2, none⟩) = .pointer (some ⟨g, 2, none⟩)), (g = g ∧ (#[iN a, iN b, iN r, iN m] : Array Value)[2]? = some (iN r) ∧ iN r = iN r), (iN d = iN d), (d ≤ r ∧ r - d < 9223372036854775808 ∧ iN (r - d) = iN (r - d)), (NatNew wd6.heap.size wq (nv (b ^ d) (lx 5)) (b ^ d) → CallQ Tryd.prog 43 [iN a, iN (r - d)] wq (.inr (fun v => .agg #[nv (a ^ (r - d)) v], fun v w => NatNew wd6.heap.size w (nv (a ^ (r - d)) v) (a ^ (r - d))) : Spec)), (NatNew wd6.heap.size wq (nv (b ^ d) (lx 5)) (b ^ d) → NatNew wd6.heap.size wq (nv (a ^ (r - d)) (lx 16)) (a ^ (r - d)) → (∀ w', Below wq.heap.size wq w' → w'.heap[wq.heap.size]? = some (oC #[nv (b ^ d) (lx 5), nv (a ^ (r - d)) (lx 16)] 37) → ∃ y, Value.slice (some ⟨wq.heap.size, 0, none⟩) 2 2 = (fun v => .slice (pOf v) 2 2) y ∧ RowNs w' (pOf y) [b ^ d, a ^ (r - d)])), (RowNs wq (pOf (lx 17)) [b ^ d, a ^ (r - d)] → NatNew wd6.heap.size wq (nv (a ^ (r - d)) (lx 16)) (a ^ (r - d)) → CallQ Tryd.prog 34 [.slice (pOf (lx 17)) 2 2] wq (.inr (fun v => .agg #[nv ((b ^ d) * (a ^ (r - d))) v], fun v w => NatNew wd6.heap.size w (nv ((b ^ d) * (a ^ (r - d))) v) ((b ^ d) * (a ^ (r - d)))) : Spec))]) (fun lx => [(52, aG #[nv ((b ^ d) * (a ^ (r - d))) (lx 18)]), (4, pT br), (0, pT g), (1, iN (m - d))]) (by kernel_rfl) (by kernel_rfl) (by kernel_rfl) ⟨(fun v w w1 => natNew_st _ _ (nv _ v) w w1), (fun v w w1 => natNew_st _ _ (nv _ v) w w1), (rowNs_st [b ^ d, a ^ (r - d)]), (fun v w w1 => natNew_st _ _ (nv _ v) w w1), trivial⟩ (fun _ _ => by kernel_rfl) (fun _ => by kernel_rfl) (fun lx wq hB9 hH9 => ⟨(rfl), (rfl), (rfl), (⟨rfl, rfl, rfl⟩), (rfl), (⟨en_kpower, (kpower_any b d (by omega) (by omega) wq).mono fun _ _ ⟨v, h1, h2, h3⟩ => ⟨v, h1, h2, h3.mono hB9.size⟩⟩), (rfl), (rfl), (rfl), (⟨rfl, rfl, rfl⟩), (rfl), (rfl), (rfl), (⟨rfl, rfl, rfl⟩), (rfl), (⟨(by omega), (by omega), rfl⟩), (fun h5_0 => ⟨en_kpower, (kpower_any a (r - d) (by omega) (by omega) wq).mono fun _ _ ⟨v, h1, h2, h3⟩ => ⟨v, h1, h2, h3.mono hB9.size⟩⟩), (fun h5_0 h16_1 => fun w' hb hh => ⟨.slice (some ⟨wq.heap.size, 0, none⟩) 2 2, rfl, _, nats2 hh (h5_0.1.keep hb) (h16_1.1.keep hb)⟩), (fun h17_0 h16_1 => ⟨en_nmul, (nmul2r (b ^ d) (a ^ (r - d)) (b100 (pow_lt16 (by omega) (by omega)) : b ^ d < 18446744073709551616 ^ 100) (b100 (pow_lt16 (by omega) (by omega)) : a ^ (r - d) < 18446744073709551616 ^ 100) wq h17_0).mono fun _ _ ⟨v, h1, h2, h3⟩ => ⟨v, h1, h2, h3.mono hB9.size⟩⟩), trivial⟩) (fun lx ac7 wd7 hx8 hB9 FF7 MM7 => ?_))
  obtain ⟨hl5, hl16, hl17, hl18, -⟩ := hx8
  generalize lx 5 = lv10 at *
  generalize lx 16 = lv11 at *
  generalize lx 17 = lv12 at *
  generalize lx 18 = lv13 at *
  have hfrw : ∀ g, (nv (b ^ d * a ^ (r - d)) lv13).ownBlock = some g → w0.heap.size ≤ g := fun g hg => Nat.le_trans h0w (hl18.2 g hg)
  obtain ⟨O14, MM150, hN16, hs17⟩ := MemS.addNatsT (K := [(br, oC #[.slice none 0 0] 37), (g, oC #[iN a, iN b, iN r, iN m] 73)]) (O := ([] : Blks)) MM6 MM7 rfl hl18 (Nats.nil ([] : Blks))
  have MM15 : MemS (fun k => k < w0.heap.size ∧ ∀ x ∈ (g, oC #[iN a, iN b, iN r, iN m] 73) :: ([] : Blks), x.1 ≠ k) w0 wd7 ((br, oC #[.slice none 0 0] 37) :: (g, oC #[iN a, iN b, iN r, iN m] 73) :: O14) [] := MM150
  refine rg_part 1 FF7 MM15 [b_ 0] [4, 0, 1] (fun Kt => br = br ∧ (#[.slice none 0 0] : Array Value).size = 1 ∧ (#[nv ((b ^ d) * (a ^ (r - d))) lv13] : Array Value).size = 1 ∧ (#[nv ((b ^ d) * (a ^ (r - d))) lv13] : Array Value).all (·.oneCell') = true ∧ (0, 0).2 = 0 ∧ Kt [(4, pT br), (0, pT g), (1, iN (m - d))] ((br, oC #[nv ((b ^ d) * (a ^ (r - d))) lv13] 37) :: (g, oC #[iN a, iN b, iN r, iN m] 73) :: O14)) (by kernel_rfl) (fun _ => by kernel_rfl) (⟨rfl, rfl, rfl, (by kernel_rfl), rfl, fun ac18 wd18 FF18 MM18 => ?_⟩)
  refine wpl_nil (then_n ?_)
  refine wp_ret ?_
  repeat first | refine then_ret ?_ | refine inb_ret ?_
  exact (retc FF18 MM18 (k := 1) (i := 0) (j := 0) Tryd.results20 rfl rfl Tryd.underlying37 rfl (by kernel_rfl) rfl ⟨lv13, rfl, MM18.turn (O := []) (fun i x hx => by simp at hx) 1 rfl (fun x hx => (nomatch hx)), ⟨(hN16.get 0 rfl).at (Has.tl (Has.tl MM18.hasL)), hfrw⟩⟩)
end Go.Proofs.YtlljedijldkcbaaDoor
