/- Several texts in one: Products of words. No program in this text. Package nat: a row, and a number times a word. Package nat: a product of two rows. Package nat: products. Package nat: powers. Package nat: a number as a text. What is taken from a tape, what is drawn. No program in this text. Package tape: what is taken. Package tape: numbers below another one. Package tape: the number of some bits; numbers under another one. Package tape: draws that may not be. The numbers of a table. No program in this text. The laws of the table: numbers. Package table: least, most, how many. Package table: powers, weights. -/
import Derived.Test.YthgfjeljfiadmaaZ3
import Derived.Laws.StructEq
import Derived.Laws.Small
import Derived.Laws.BitsAllLaws
import Derived.Test.YthgfjeljfiadmaaZ2
import Derived.Lib.MinMax
namespace Go.Proofs.Ythgfjeljfiadmaa
open Go.RowKit
/-- What is carried behind k words of V + N * x. -/
def mc (V N x k : Nat) : Nat := (V % 18446744073709551616 ^ k + N % 18446744073709551616 ^ k * x) / 18446744073709551616 ^ k
theorem mc_zero (V N x : Nat) : mc V N x 0 = 0 := by simp [mc, Nat.mod_one]
theorem mod_next (X k : Nat) : X % 18446744073709551616 ^ (k + 1) = X % 18446744073709551616 ^ k + 18446744073709551616 ^ k * qd X k := by rw [Nat.pow_succ, Nat.mod_mul]; rfl
theorem mc_num (V N x k : Nat) : (V % 18446744073709551616 ^ (k + 1) + N % 18446744073709551616 ^ (k + 1) * x) / 18446744073709551616 ^ k = mc V N x k + (qd V k + qd N k * x) := by
  rw [mod_next V k, mod_next N k]
  have : V % 18446744073709551616 ^ k + 18446744073709551616 ^ k * qd V k + (N % 18446744073709551616 ^ k + 18446744073709551616 ^ k * qd N k) * x = (V % 18446744073709551616 ^ k + N % 18446744073709551616 ^ k * x) + 18446744073709551616 ^ k * (qd V k + qd N k * x) := by
    rw [Nat.add_mul, Nat.mul_add, Nat.mul_assoc]; omega
  rw [this, Nat.add_mul_div_left _ _ (qpw_pos k)]; rfl
theorem mc_step (V N x k : Nat) : (x * qd N k + mc V N x k + qd V k) / 18446744073709551616 = mc V N x (k + 1) := by
  have h := mc_num V N x k
  have e : mc V N x (k + 1) = (V % 18446744073709551616 ^ (k + 1) + N % 18446744073709551616 ^ (k + 1) * x) / 18446744073709551616 ^ k / 18446744073709551616 := by rw [mc, Nat.div_div_eq_div_mul, ← Nat.pow_succ]
  rw [e, h, Nat.mul_comm x]
  congr 1; omega
theorem mc_word (V N x k : Nat) : (x * qd N k + mc V N x k + qd V k) % 18446744073709551616 = qd (V + N * x) k := by
  have e : V + N * x = (V % 18446744073709551616 ^ k + N % 18446744073709551616 ^ k * x) + 18446744073709551616 ^ k * (V / 18446744073709551616 ^ k + N / 18446744073709551616 ^ k * x) := by
    have h1 := Nat.div_add_mod V (18446744073709551616 ^ k)
    have h2 := Nat.div_add_mod N (18446744073709551616 ^ k)
    conv => lhs; rw [← h1, ← h2]
    rw [Nat.add_mul, Nat.mul_add, Nat.mul_assoc]; omega
  unfold qd
  rw [e, Nat.add_mul_div_left _ _ (qpw_pos k)]
  have : N / 18446744073709551616 ^ k * x % 18446744073709551616 = (N / 18446744073709551616 ^ k % 18446744073709551616) * x % 18446744073709551616 := by rw [Nat.mod_mul_mod]
  have hm : (V % 18446744073709551616 ^ k + N % 18446744073709551616 ^ k * x) / 18446744073709551616 ^ k = mc V N x k := rfl
  rw [hm, Nat.mul_comm x]
  omega
theorem mc_lt {x : Nat} (hx : x < 18446744073709551616) (V N k : Nat) : mc V N x k < 18446744073709551616 := by
  refine Nat.div_lt_of_lt_mul ?_
  have h1 := Nat.mod_lt V (qpw_pos k)
  have h2 := Nat.mod_lt N (qpw_pos k)
  have h3 : N % 18446744073709551616 ^ k * x ≤ (18446744073709551616 ^ k - 1) * (18446744073709551616 - 1) := Nat.mul_le_mul (by omega) (by omega)
  have h4 : (18446744073709551616 ^ k - 1) * (18446744073709551616 - 1) + (18446744073709551616 ^ k - 1) = (18446744073709551616 ^ k - 1) * 18446744073709551616 := by rw [← Nat.mul_succ]
  have h5 : (18446744073709551616 ^ k - 1) * 18446744073709551616 + 18446744073709551616 = 18446744073709551616 ^ k * 18446744073709551616 := by rw [← Nat.succ_mul]; congr 1; omega
  omega
theorem mc_end {V N n : Nat} (x : Nat) (hV : V < 18446744073709551616 ^ n) (hN : N < 18446744073709551616 ^ n) : mc V N x n = (V + N * x) / 18446744073709551616 ^ n := by rw [mc, Nat.mod_eq_of_lt hV, Nat.mod_eq_of_lt hN]
/-- One step of a product: a word times a word, a word and a word more. -/
theorem mac {p c v : Nat} (hp : p ≤ 340282366920938463426481119284349108225) (hc : c < 18446744073709551616) (hv : v < 18446744073709551616) : (v + (p % 18446744073709551616 + c + 0) % 18446744073709551616 + 0) % 18446744073709551616 = (p + c + v) % 18446744073709551616 ∧ p / 18446744073709551616 + (p % 18446744073709551616 + c + 0) / 18446744073709551616 < 18446744073709551616 ∧ p / 18446744073709551616 + (p % 18446744073709551616 + c + 0) / 18446744073709551616 + (v + (p % 18446744073709551616 + c + 0) % 18446744073709551616 + 0) / 18446744073709551616 < 18446744073709551616 ∧ p / 18446744073709551616 + (p % 18446744073709551616 + c + 0) / 18446744073709551616 + (v + (p % 18446744073709551616 + c + 0) % 18446744073709551616 + 0) / 18446744073709551616 = (p + c + v) / 18446744073709551616 := by omega
theorem word_mul {x y : Nat} (hx : x < 18446744073709551616) (hy : y < 18446744073709551616) : x * y ≤ 340282366920938463426481119284349108225 := Nat.mul_le_mul (Nat.le_of_lt_succ hx) (Nat.le_of_lt_succ hy)
/-- The words of V + N * x, up to k; then those of V. -/
def mtL (n V N x k : Nat) : List Nat := (List.range n).map fun j => if j < k then qd (V + N * x) j else qd V j
theorem mtL_len (n V N x k : Nat) : (mtL n V N x k).length = n := by simp [mtL]
theorem mtL_get (n V N x k : Nat) {j : Nat} (h : j < n) : (mtL n V N x k).getD j 0 = if j < k then qd (V + N * x) j else qd V j := by simp [mtL, h]
theorem mtL_zero (n V N x : Nat) : mtL n V N x 0 = qleB n V := by
  refine ext_getD (by rw [mtL_len, qleB_len]) fun j hj => ?_
  rw [mtL_len] at hj
  rw [mtL_get _ _ _ _ _ hj, qleB_get hj, if_neg (by omega)]; rfl
theorem mtL_all (n V N x : Nat) : mtL n V N x n = qleB n (V + N * x) := by
  refine ext_getD (by rw [mtL_len, qleB_len]) fun j hj => ?_
  rw [mtL_len] at hj
  rw [mtL_get _ _ _ _ _ hj, qleB_get hj, if_pos hj]; rfl
theorem mtL_step (n V N x k : Nat) (h : k < n) : (mtL n V N x k).set k (qd (V + N * x) k) = mtL n V N x (k + 1) := by
  refine ext_getD (by simp [mtL]) fun j hj => ?_
  simp only [List.length_set, mtL_len] at hj
  rw [getD_set, mtL_get _ _ _ _ _ hj, mtL_get _ _ _ _ _ hj, mtL_len]
  by_cases e : k = j
  · subst e; rw [if_pos ⟨rfl, h⟩, if_pos (by omega)]
  · rw [if_neg (fun h => e h.1)]
    by_cases h1 : j < k
    · rw [if_pos h1, if_pos (by omega)]
    · rw [if_neg h1, if_neg (by omega)]
/-- Within a longer row. -/
def midL (A B C : List Nat) : List Nat := A ++ B ++ C
theorem midL_len (A B C : List Nat) : (midL A B C).length = A.length + B.length + C.length := by simp [midL]; omega
theorem midL_get {A B C : List Nat} {f k : Nat} (hA : A.length = f) (h : k < B.length) : (midL A B C).getD (f + k) 0 = B.getD k 0 := by
  rw [midL, getD_app_l _ _ _ (by simp; omega), getD_app_r _ _ _ (by omega), hA]; congr 1; omega
theorem midL_set {A B C : List Nat} {f k x : Nat} (hA : A.length = f) (h : k < B.length) : (midL A B C).set (f + k) x = midL A (B.set k x) C := by
  rw [midL, midL, List.set_append, if_pos (by simp; omega), List.set_append, if_neg (by omega), show f + k - A.length = k by omega]
theorem split3 {P n i k : Nat} (h : i + k ≤ n) (hP : P < 18446744073709551616 ^ (i + k)) : qleB n P = midL (qleB i P) (qleB k (P / 18446744073709551616 ^ i)) (List.replicate (n - i - k) 0) := by
  refine ext_getD (by rw [midL_len, qleB_len, qleB_len, qleB_len, List.length_replicate]; omega) fun j hj => ?_
  rw [qleB_len] at hj
  rw [qleB_get hj]
  rcases Nat.lt_or_ge j i with h1 | h1
  · rw [midL, getD_app_l _ _ _ (by simp [qleB_len]; omega), getD_app_l _ _ _ (by rw [qleB_len]; exact h1), qleB_get h1]
  · rcases Nat.lt_or_ge j (i + k) with h2 | h2
    · obtain ⟨t, rfl⟩ := Nat.exists_eq_add_of_le h1
      rw [midL_get (qleB_len _ _) (by rw [qleB_len]; omega), qleB_get (by omega), Nat.div_div_eq_div_mul, ← Nat.pow_add]
    · rw [midL, getD_app_r _ _ _ (by simp [qleB_len]; omega), rep_get, Nat.div_eq_of_lt (Nat.lt_of_lt_of_le hP (qpw_le h2))]
/-- The product of a number's first words. -/
def pr (M N i : Nat) : Nat := M % 18446744073709551616 ^ i * N
theorem pr_zero (M N : Nat) : pr M N 0 = 0 := by simp [pr, Nat.mod_one]
theorem pr_all (M N : Nat) : pr M N (qsz M) = M * N := by rw [pr, Nat.mod_eq_of_lt (qsz_ok M).1]
theorem pr_step (M N i : Nat) : pr M N (i + 1) = pr M N i + 18446744073709551616 ^ i * (N * qd M i) := by
  unfold pr
  rw [mod_next, Nat.add_mul, Nat.mul_assoc, Nat.mul_comm (qd M i) N]
theorem pr_lt (M N i : Nat) : pr M N i < 18446744073709551616 ^ (i + qsz N) := by
  rw [pr, Nat.pow_add]
  have h1 := Nat.mod_lt M (qpw_pos i)
  have h2 := (qsz_ok N).1
  rcases Nat.eq_zero_or_pos N with h | h
  · subst h; rw [Nat.mul_zero]; exact Nat.mul_pos (qpw_pos _) (qpw_pos _)
  · exact Nat.lt_of_lt_of_le (Nat.mul_lt_mul_of_pos_right h1 h) (Nat.mul_le_mul_left _ (Nat.le_of_lt h2))
theorem pr_div (M N i : Nat) : pr M N (i + 1) / 18446744073709551616 ^ i = pr M N i / 18446744073709551616 ^ i + N * qd M i := by rw [pr_step, Nat.add_mul_div_left _ _ (qpw_pos i)]
theorem pr_low (M N i : Nat) : qleB i (pr M N (i + 1)) = qleB i (pr M N i) := by
  refine ext_getD (by rw [qleB_len, qleB_len]) fun j hj => ?_
  rw [qleB_len] at hj
  rw [qleB_get hj, qleB_get hj, pr_step]
  have : 18446744073709551616 ^ i * (N * qd M i) = 18446744073709551616 ^ j * (18446744073709551616 * (18446744073709551616 ^ (i - j - 1) * (N * qd M i))) := by
    rw [show 18446744073709551616 ^ i = 18446744073709551616 ^ j * (18446744073709551616 * 18446744073709551616 ^ (i - j - 1)) by rw [← Nat.pow_succ', ← Nat.pow_add]; congr 1; omega]
    simp only [Nat.mul_assoc]
  rw [this, Nat.add_mul_div_left _ _ (qpw_pos j), Nat.add_mul_mod_self_left]
theorem pr_seg (M N i : Nat) : pr M N i / 18446744073709551616 ^ i < 18446744073709551616 ^ qsz N := Nat.div_lt_of_lt_mul (by rw [← Nat.pow_add]; exact pr_lt M N i)
theorem pr_top (M N i : Nat) : (pr M N i / 18446744073709551616 ^ i + N * qd M i) / 18446744073709551616 ^ qsz N = qd (pr M N (i + 1)) (i + qsz N) := by
  rw [← pr_div, Nat.div_div_eq_div_mul, ← Nat.pow_add, qd, Nat.mod_eq_of_lt]
  refine Nat.div_lt_of_lt_mul ?_
  rw [← Nat.pow_succ, show (i + qsz N).succ = i + 1 + qsz N by omega]
  exact pr_lt M N (i + 1)
theorem times_step {M N i n : Nat} (h : i + qsz N < n) : (midL (qleB i (pr M N i)) (qleB (qsz N) (pr M N i / 18446744073709551616 ^ i + N * qd M i)) (List.replicate (n - i - qsz N) 0)).set (i + qsz N) ((pr M N i / 18446744073709551616 ^ i + N * qd M i) / 18446744073709551616 ^ qsz N) = qleB n (pr M N (i + 1)) := by
  rw [split3 (P := pr M N (i + 1)) (n := n) (i := i + qsz N) (k := 1) (by omega) (by rw [show i + qsz N + 1 = i + 1 + qsz N by omega]; exact pr_lt M N (i + 1)), pr_top]
  have e : qleB (i + qsz N) (pr M N (i + 1)) = qleB i (pr M N i) ++ qleB (qsz N) (pr M N i / 18446744073709551616 ^ i + N * qd M i) := by
    refine ext_getD (by simp [qleB_len]) fun j hj => ?_
    rw [qleB_len] at hj
    rw [qleB_get hj]
    rcases Nat.lt_or_ge j i with h1 | h1
    · rw [getD_app_l _ _ _ (by rw [qleB_len]; exact h1), ← pr_low, qleB_get h1]
    · obtain ⟨t, rfl⟩ := Nat.exists_eq_add_of_le h1
      rw [getD_app_r _ _ _ (by rw [qleB_len]; exact h1), qleB_len, Nat.add_sub_cancel_left, qleB_get (by omega), ← pr_div, Nat.div_div_eq_div_mul, ← Nat.pow_add]
  rw [e]
  unfold midL
  rw [List.set_append, if_neg (by simp [qleB_len]), show i + qsz N - (qleB i (pr M N i) ++ qleB (qsz N) (pr M N i / 18446744073709551616 ^ i + N * qd M i)).length = 0 by simp [qleB_len]]
  obtain ⟨z, hz⟩ : ∃ z, n - i - qsz N = z + 1 := ⟨n - i - qsz N - 1, by omega⟩
  rw [hz, List.replicate_succ, List.set_cons_zero, show n - (i + qsz N) - 1 = z by omega]
  have e2 : qleB 1 (pr M N (i + 1) / 18446744073709551616 ^ (i + qsz N)) = [qd (pr M N (i + 1)) (i + qsz N)] := by simp [qleB, List.range_succ, qd]
  rw [e2]
  simp
end Go.Proofs.Ythgfjeljfiadmaa
namespace Go.Proofs.Ythgfjeljfiadmaa
open Go.RowKit
theorem mt_len {A C : List Nat} {f n V N x k : Nat} (hA : A.length = f) : (midL A (mtL n V N x k) C).length = f + n + C.length := by rw [midL_len, mtL_len, hA]
set_option maxRecDepth 100000 in
theorem addt_O (g f cp : Nat) (A C : List Nat) (V N x : Nat) (y : Value) (O : Blks) (hA : A.length = f) (hx : x < 18446744073709551616) (hV : V < 18446744073709551616 ^ qsz N) (hN : NatO O (nv N y) N) (hs : qsz N < 1000000) (w0 : World) (H : Has w0 ((g, Obj.cells (cn .u64 (midL A (qleB (qsz N) V) C)) 101) :: O)) (hD : Distinct ((g, Obj.cells (cn .u64 (midL A (qleB (qsz N) V) C)) 101) :: O)) :
    Calls Try.prog 77 #[.slice (some ⟨g, f, none⟩) (qsz N) cp, nv N y, iW x] w0 fun e w' => e = .returned (iW ((V + N * x) / 18446744073709551616 ^ qsz N)) ∧ Turn g (.cells (cn .u64 (midL A (qleB (qsz N) (V + N * x)) C)) 101) w0 w' := by
  refine enter_fr Try.func77 rfl Try.ntmps77 (by simp) fun ac (FF : Fr 54 ac [(0, .slice (some ⟨g, f, none⟩) (qsz N) cp), (1, nv N y), (2, iW x)]) => ?_
  have MM0 : MemS (fun k => k < w0.heap.size ∧ ∀ x ∈ (g, Obj.cells (cn .u64 (midL A (qleB (qsz N) V) C)) 101) :: O, x.1 ≠ k) w0 w0 ((g, .cells (cn .u64 (midL A (qleB (qsz N) V) C)) 101) :: O) [] := MemS.startN H hD
  have MM : MemS (fun k => k < w0.heap.size ∧ ∀ x ∈ (g, Obj.cells (cn .u64 (midL A (qleB (qsz N) V) C)) 101) :: O, x.1 ≠ k) w0 w0 ((g, .cells (cn .u64 (midL A (mtL (qsz N) V N x 0) C)) 101) :: O) [] := by rw [mtL_zero]; exact MM0
  refine wp_seq (rg_c FF MM [] 7 [] [] (fun _ _ FF1 MM1 => then_n ?_))
  refine wp_seq (rg_c FF1 MM1 [] 8 [] [] (fun _ _ FF2 MM2 => then_n ?_))
  refine wp_seq ?_
  refine wp_seq (rg_c FF2 MM2 [] 18 [] [1] (fun _ _ FF3 MM3 => then_n ?_))
  refine wp_for (fun a' w' => ∃ k : Nat, ∃ cc : Nat, k ≤ qsz N ∧ cc = mc V N x k ∧ Fr 54 a' [(17, iN k), (16, iN (qsz N)), (15, nv N y), (7, iW cc), (6, iW 0), (0, .slice (some ⟨g, f, none⟩) (qsz N) cp), (2, iW x)] ∧ MemS (fun k => k < w0.heap.size ∧ ∀ x ∈ (g, Obj.cells (cn .u64 (midL A (qleB (qsz N) V) C)) 101) :: O, x.1 ≠ k) w0 w' ((g, .cells (cn .u64 (midL A (mtL (qsz N) V N x k) C)) 101) :: O) []) (fun a' _ => (qsz N - cnt 17 a').toNat) ⟨0, 0, by omega, (mc_zero V N x).symm, FF3.pick [0, 1, 2, 3, 4, 5, 6], MM3⟩ ?_
  rintro ac4 wd4 ⟨k, cc, hk, hcc, FF4, MM4⟩
  have hc := cnt_of (FF4.get 0 rfl)
  refine rg_c FF4 MM4 [] 19 [] [] (fun _ _ FF5 MM5 => ?_)
  by_cases hlt : k < (qsz N)
  · skip
    refine then_n (.inl ⟨(FF5.ev 0 rfl).trans (dec_t hlt), ?_⟩)
    have hcl : cc < 18446744073709551616 := hcc ▸ mc_lt hx V N k
    obtain ⟨m1, m2, m3, m4⟩ := mac (word_mul hx (qd_lt N k)) hcl (qd_lt V k)
    have hw := mc_word V N x k
    have hy := mc_step V N x k
    rw [← hcc] at hw hy
    refine wp_seq (rg_c FF5 MM5 [(1, f_ (.pointer (some ⟨gOf (pOf y), k, none⟩))), (0, f_ (iW (qd N k)))] 18 [] [] (⟨(rowAddr_ok (x := (.tmp 15)) (y := (.tmp 17)) (by kernel_rfl) rfl rfl Try.underlying74 (by kernel_rfl) (natO_cells hN) (by omega)), (rowLoad_ok (x := (.tmp 20)) (i := k) (by kernel_rfl) rfl Try.underlying101 rfl (natO_cells hN) (fun _ hx => List.mem_cons_of_mem _ (hx)) (by omega)), fun _ _ FF6 MM6 => then_n ?_⟩))
    refine wp_seq (rg_c FF6 MM6 [(2, t_ (.tuple #[iW (x * (qd N k) / 18446744073709551616), iW (x * (qd N k) % 18446744073709551616)]))] 18 [] [] (⟨(callP_of en_mul64 (mul64_any x (qd N k) hx (qd_lt N k)) _), fun _ _ FF7 MM7 => then_n ?_⟩))
    refine wp_seq (rg_c FF7 MM7 [(2, f_ (.tuple #[iW (((x * (qd N k) % 18446744073709551616) + cc + 0) % 18446744073709551616), iW (((x * (qd N k) % 18446744073709551616) + cc + 0) / 18446744073709551616)]))] 18 [] [] (⟨(add64_ok (f := 73) (ts := #[101, 101, 101]) (x := (.tmp 29)) (y := (.tmp 30)) (z := (.const (iW 0))) (by decide) (by kernel_rfl) rfl rfl rfl Try.func73 (by kernel_rfl) (by kernel_rfl) (by kernel_rfl) (by kernel_rfl)), fun _ _ FF8 MM8 => then_n ?_⟩))
    refine wp_seq (rg_c FF8 MM8 [(3, l_ 0 (iW (qd V k))), (1, f_ (.tuple #[iW (((qd V k) + (((x * (qd N k) % 18446744073709551616) + cc + 0) % 18446744073709551616) + 0) % 18446744073709551616), iW (((qd V k) + (((x * (qd N k) % 18446744073709551616) + cc + 0) % 18446744073709551616) + 0) / 18446744073709551616)])), (1, t_ (iW (qd (V + N * x) k)))] 18 [] [] (⟨by omega, rfl, ((cn_get _ _ _ (by rw [mt_len hA]; omega)).trans (congrArg some (vI ((midL_get hA (by rw [mtL_len]; omega)).trans ((mtL_get _ _ _ _ _ (by omega)).trans (if_neg (by omega))))))), (add64_ok (f := 73) (ts := #[101, 101, 101]) (x := (.tmp 38)) (y := (.tmp 39)) (z := (.const (iW 0))) (by decide) (by kernel_rfl) rfl rfl rfl Try.func73 (by kernel_rfl) (by kernel_rfl) (by kernel_rfl) (by kernel_rfl)), (vI (m1.trans hw)), fun _ _ FF9 MM9 => then_n ?_⟩))
    refine wp_seq (rg_c FF9 MM9 [(4, s_ 0 (.cells (cn .u64 (midL A (mtL (qsz N) V N x (k + 1)) C)) 101))] 18 [] [] (⟨by omega, rfl, (by rw [cn_size, mt_len hA]; omega), (.inl rfl), ((cn_set _ _ _ _).trans (congrArg _ ((midL_set hA (by rw [mtL_len]; omega)).trans (congrArg (midL A · C) (mtL_step _ _ _ _ _ (by omega)))))), fun _ _ FF10 MM10 => then_n ?_⟩))
    refine rg_c FF10 MM10 [(2, w_ 1), (1, u_ 1 (iW (mc V N x (k + 1))))] 18 [] [] (⟨m2, m3, (vI (m4.trans hy)), fun _ _ FF11 MM11 => ?_⟩)
    refine inb_n (then_n ?_)
    refine rg_c FF11 MM11 [] 18 [] [] (⟨by omega, fun _ _ FF12 MM12 => ?_⟩)
    have hd := cnt_of (FF12.get 0 rfl)
    refine then_n ⟨⟨k + 1, mc V N x (k + 1), by omega, rfl, FF12.pick [0, 9, 10, 1, 11, 12, 13], MM12⟩, ?_⟩
    rw [hc, hd]; omega
  · skip
    refine then_n (.inr ⟨(FF5.ev 0 rfl).trans (dec_f hlt), ?_⟩)
    obtain rfl : k = qsz N := by omega
    refine then_n ?_
    refine wp_seq (rg_c FF5 MM5 [(1, t_ (iW ((V + N * x) / 18446744073709551616 ^ qsz N)))] 18 [] [] (⟨(vI (hcc.trans (mc_end x hV (qsz_ok N).1))), fun _ _ FF13 MM13 => then_n ?_⟩))
    refine wp_ret ?_
    repeat first | refine then_ret ?_ | refine inb_ret ?_
    exact (ret_fr FF13 0 Try.results77 rfl ⟨rfl, by have h9 := MM13.turn (Has.tl H) 0 rfl (fun _ hx => List.mem_cons_of_mem _ (hx)); rw [mtL_all] at h9; exact h9⟩)
theorem nat1_sep {w : World} {g N : Nat} {ob : Obj} {y : Value} (h : NatIn w (nv N y) N) (hg : w.heap[g]? = some ob) (hne : ∀ g', (nv N y).ownBlock = some g' → g' ≠ g) : ∃ O : Blks, Has w ((g, ob) :: O) ∧ Distinct ((g, ob) :: O) ∧ NatO O (nv N y) N := by
  obtain ⟨p, c, h1, h2, h2', h3, h4⟩ := h
  rcases h4 with h4 | ⟨b, cs, T, fr, rfl, h5, h6⟩
  · refine ⟨[], fun i x hx => ?_, ⟨fun y hy => (nomatch hy), trivial⟩, ⟨p, c, h1, h2, h2', h3, .inl h4⟩⟩
    cases i with
    | zero => simp at hx; subst hx; exact hg
    | succ i => simp at hx
  · have hb : b ≠ g := hne b (by rw [h1]; rfl)
    refine ⟨[(b, .cells cs T fr)], fun i x hx => ?_, ⟨fun y hy => by rw [List.mem_singleton] at hy; subst hy; exact hb, fun y hy => (nomatch hy), trivial⟩, ⟨_, c, h1, h2, h2', h3, .inr ⟨b, cs, T, fr, rfl, by simp, h6⟩⟩⟩
    cases i with
    | zero => simp at hx; subst hx; exact hg
    | succ i =>
      cases i with
      | zero => simp at hx; subst hx; exact h5
      | succ i => simp at hx
theorem addt_any (g f cp : Nat) (A C : List Nat) (V N x : Nat) (y : Value) (hA : A.length = f) (hx : x < 18446744073709551616) (hV : V < 18446744073709551616 ^ qsz N) (hs : qsz N < 1000000) (w0 : World) (hg : w0.heap[g]? = some (Obj.cells (cn .u64 (midL A (qleB (qsz N) V) C)) 101)) (hN : NatIn w0 (nv N y) N) (hne : ∀ g', (nv N y).ownBlock = some g' → g' ≠ g) :
    Calls Try.prog 77 #[.slice (some ⟨g, f, none⟩) (qsz N) cp, nv N y, iW x] w0 fun e w' => e = .returned (iW ((V + N * x) / 18446744073709551616 ^ qsz N)) ∧ Turn g (.cells (cn .u64 (midL A (qleB (qsz N) (V + N * x)) C)) 101) w0 w' := by
  obtain ⟨O, h1, h2, h3⟩ := nat1_sep hN hg hne
  exact addt_O g f cp A C V N x y O hA hx hV h3 hs w0 h1 h2
/-- A number that lies in the list is in none of its other blocks. -/
theorem natO_ne {O : Blks} {N g : Nat} {y : Value} (h : NatO O (nv N y) N) (hg : ∀ x ∈ O, x.1 ≠ g) : ∀ g', (nv N y).ownBlock = some g' → g' ≠ g := fun g' hg' => by
  obtain ⟨p, c, h1, h2, _, _, h4⟩ := h
  rw [h1] at hg'
  rcases h4 with h4 | ⟨b, cs, T, fr, rfl, h5, h6⟩
  · have := (h2 (qz0 h4)).1
    subst this
    cases hg'
  · obtain rfl : b = g' := by simpa [Value.ownBlock] using hg'
    exact hg _ h5
theorem MemS.headNe {S : Nat → Prop} {w0 w : World} {g : Nat} {ob : Obj} {L : Blks} {R : List Row} (M : MemS S w0 w ((g, ob) :: L) R) : ∀ x ∈ L, x.1 ≠ g := fun x hx => by
  obtain ⟨i, hi⟩ := List.mem_iff_getElem?.1 hx
  exact M.apart (i + 1) 0 x (g, ob) (by simpa using hi) rfl (by omega)
end Go.Proofs.Ythgfjeljfiadmaa
namespace Go.Proofs.Ythgfjeljfiadmaa
open Go.RowKit
theorem qleB_0 (n : Nat) : qleB n 0 = List.replicate n 0 := by
  refine ext_getD (by simp [qleB_len]) fun i hi => ?_
  rw [qleB_len] at hi
  rw [qleB_get hi, rep_get]; simp
theorem prod_fit (M N : Nat) : M * N < 18446744073709551616 ^ (qsz M + qsz N) := by have := pr_lt M N (qsz M); rwa [pr_all] at this
theorem qleV_prod (M N : Nat) : qleV (qleB (qsz M + qsz N) (M * N)) = M * N := by rw [qleV_leB, Nat.mod_eq_of_lt (prod_fit M N)]
theorem qsz_mul (M N : Nat) : qsz (M * N) ≤ qsz M + qsz N := qsz_le (prod_fit M N)
theorem MemS.sinkNat {S : Nat → Prop} {w0 w : World} {K O : Blks} {R : List Row} {b : Nat} {ob : Obj} {v : Value} {N : Nat} {l : List (Value × Nat)} (M : MemS S w0 w ((b, ob) :: (K ++ O)) R) (h : NatO [(b, ob)] v N) (hN : Nats O l) : ∃ O', MemS S w0 w (K ++ O') R ∧ Nats O' ((v, N) :: l) ∧ ∀ x ∈ O, x ∈ O' :=
  ⟨(b, ob) :: O, M.perm List.perm_middle.symm, .cons (h.mono fun x hx => by rw [List.mem_singleton] at hx; simp [hx]) (hN.mono fun _ h => List.mem_cons_of_mem _ h), fun _ h => List.mem_cons_of_mem _ h⟩
def oneV (b : Nat) : Value := .slice (some ⟨b, 0, none⟩) 1 1
theorem own_one {N b g : Nat} (h : (nv N (oneV b)).ownBlock = some g) : b = g := by simpa [nv, oneV, pOf, Value.ownBlock] using h
theorem nat_one (b : Nat) (T : TypeId) : NatO [(b, .cells (cn .u64 [1]) T)] (nv 1 (oneV b)) 1 :=
  ⟨some ⟨b, 0, none⟩, 1, rfl, fun h => (by cases h), fun _ => by simp, by decide, .inr ⟨b, cn .u64 [1], T, (0, 0), rfl, by simp, fun j hj => by
    have : j = 0 := by have : qsz 1 = 1 := by decide
                       omega
    subst this
    rfl⟩⟩
set_option maxRecDepth 100000 in
theorem times_O (O : Blks) (hD : Distinct O) (M N : Nat) (x y : Value) (hM : NatO O (nv M x) M) (hN : NatO O (nv N y) N) (hs : qsz M + qsz N < 1000000) (w0 : World) (H : Has w0 O) :
    Calls Try.prog 74 #[nv M x, nv N y] w0 fun e w' => ∃ v, e = .returned (nv (M * N) v) ∧ Below w0.heap.size w0 w' ∧ NatNew w0.heap.size w' (nv (M * N) v) (M * N) := by
  refine enter_fr Try.func74 rfl Try.ntmps74 (by simp) fun ac (FF : Fr 40 ac [(0, nv M x), (1, nv N y)]) => ?_
  have MM : MemS (fun k => k < w0.heap.size ∧ ∀ x ∈ O, x.1 ≠ k) w0 w0 O [] := MemS.startN H hD
  refine wp_seq (rg_c FF MM [] 5 [] [] (fun _ _ FF1 MM1 => then_n ?_))
  refine wp_seq (rg_c FF1 MM1 [(5, n_ (.slice none ((qsz M) + (qsz N)) ((qsz M) + (qsz N))) (.cells (cn .u64 (List.replicate ((qsz M) + (qsz N)) 0)) 101))] 6 [] [] (⟨by omega, (make64_ok (t := 74) (e := 101) (p := (.tmp 12)) (q := (.tmp 12)) (by kernel_rfl) rfl rfl Try.underlying74 (by kernel_rfl) (by omega)), fun bo => fun _ _ FF2 MM2 => then_n ?_⟩))
  have MMr : MemS _ _ _ ((bo, .cells (cn .u64 (qleB (qsz M + qsz N) (pr M N 0))) 101) :: _) _ := MM2.eqA 0 rfl (by rw [pr_zero, qleB_0] <;> rfl)
  refine wp_seq ?_
  refine wp_seq (rg_c FF2 MMr [] 17 [] [] (fun _ _ FF3 MM3 => then_n ?_))
  refine wp_for (fun a' w' => ∃ i : Nat, i ≤ qsz M ∧ Fr 40 a' [(16, iN i), (15, iN (qsz M)), (14, nv M x), (5, .slice (some ⟨bo, 0, none⟩) ((qsz M) + (qsz N)) ((qsz M) + (qsz N))), (4, .slice none 0 0), (0, nv M x), (1, nv N y)] ∧ MemS (fun k => k < w0.heap.size ∧ ∀ x ∈ O, x.1 ≠ k) w0 w' ((bo, .cells (cn .u64 (qleB (qsz M + qsz N) (pr M N i))) 101) :: O) []) (fun a' _ => (qsz M - cnt 16 a').toNat) ⟨0, by omega, FF3.pick [0, 1, 2, 3, 4, 5, 6], MM3⟩ ?_
  rintro ac4 wd4 ⟨i, hi, FF4, MM4⟩
  have hc := cnt_of (FF4.get 0 rfl)
  refine rg_c FF4 MM4 [] 18 [] [] (fun _ _ FF5 MM5 => ?_)
  by_cases hlt : i < (qsz M)
  · skip
    refine then_n (.inl ⟨(FF5.ev 0 rfl).trans (dec_t hlt), ?_⟩)
    refine wp_seq (rg_c FF5 MM5 [(1, f_ (.pointer (some ⟨gOf (pOf x), i, none⟩))), (0, f_ (iW (qd M i)))] 17 [] [] (⟨(rowAddr_ok (x := (.tmp 14)) (y := (.tmp 16)) (by kernel_rfl) rfl rfl Try.underlying74 (by kernel_rfl) (natO_cells hM) (by omega)), (rowLoad_ok (x := (.tmp 19)) (i := i) (by kernel_rfl) rfl Try.underlying101 rfl (natO_cells hM) (fun _ hx => List.mem_cons_of_mem _ (hx)) (by omega)), fun _ _ FF6 MM6 => then_n ?_⟩))
    refine wp_region_list ?_
    refine rp_c 14 FF6 MM6 [(11, t_ (.slice (some ⟨bo, i, none⟩) (qsz N) (qsz M + qsz N - i)))] 22 [25, 32, 33, 34] [] (⟨by omega, by omega, by omega, by omega, by omega, (by rw [Nat.zero_add, Nat.add_sub_cancel_left]), fun _ _ FF7 MM7 => ?_⟩)
    refine st_callM [25, 21, 7, 6, 16, 15, 14, 5, 4, 0, 1, 35] FF7 (d := 35) en_addt rfl rfl (addt_any bo i _ (qleB i (pr M N i)) (List.replicate (qsz M + qsz N - i - qsz N) 0) (pr M N i / 18446744073709551616 ^ i) N (qd M i) y (qleB_len _ _) (qd_lt _ _) (pr_seg M N i) (by omega) _ (by rw [← split3 (by omega) (pr_lt M N i)]; exact MM7.get 0 rfl) (hN.at (Has.tl MM7.hasL)) (natO_ne hN MM7.headNe)) rfl (by kernel_rfl) (by decide) fun ac8 wd8 FF8 hr9 => ?_
    have MM8t : MemS (fun k => k < w0.heap.size ∧ ∀ x ∈ O, x.1 ≠ k) w0 wd8 ((bo, .cells (cn .u64 (midL (qleB i (pr M N i)) (qleB (qsz N) (pr M N i / 18446744073709551616 ^ i + N * qd M i)) (List.replicate (qsz M + qsz N - i - qsz N) 0))) 101) :: O) [] := MM7.turned hr9
    refine rp_c 2 FF8 MM8t [(0, w_ 1), (0, s_ 0 (.cells (cn .u64 (qleB (qsz M + qsz N) (pr M N (i + 1)))) 101))] 17 [] [] (⟨by omega, rfl, (by rw [cn_size, midL_len, qleB_len, qleB_len, List.length_replicate]; omega), (.inl rfl), ((cn_set _ _ _ _).trans (congrArg _ (times_step (by omega)))), fun _ _ FF10 MM10 => ?_⟩)
    refine wpl_nil ?_
    refine inb_n (then_n ?_)
    refine rg_c FF10 MM10 [] 17 [] [] (⟨by omega, fun _ _ FF11 MM11 => ?_⟩)
    have hd := cnt_of (FF11.get 0 rfl)
    refine then_n ⟨⟨i + 1, by omega, FF11.pick [0, 3, 4, 5, 6, 7, 8], MM11⟩, ?_⟩
    rw [hc, hd]; omega
  · skip
    refine then_n (.inr ⟨(FF5.ev 0 rfl).trans (dec_f hlt), ?_⟩)
    obtain rfl : i = qsz M := by omega
    have MMl : MemS _ _ _ ((bo, .cells (cn .u64 (qleB (qsz M + qsz N) (M * N))) 101) :: _) _ := MM5.eqA 0 rfl (by rw [← pr_all] <;> rfl)
    refine then_n ?_
    refine wp_seq (rg_c FF5 MMl [(1, u_ 1 (trimV (some ⟨bo, 0, none⟩) (M * N) ((qsz M) + (qsz N))))] 17 [] [] (⟨⟨en_trimd, fun w Hw => by have h0 := trimd_any (some ⟨bo, 0, none⟩) ((qsz M) + (qsz N)) (qleB (qsz M + qsz N) (M * N)) (qleB_lt _ _) (by rw [qleB_len]; exact Nat.le_refl _) (by rw [qleB_len]; omega) w (.inr ⟨bo, _, _, _, rfl, Hw 0 _ rfl, fun j hj => cn_get _ _ _ hj⟩); rw [show (qleB (qsz M + qsz N) (M * N)).length = (qsz M) + (qsz N) from (qleB_len _ _), qleV_prod] at h0; exact h0⟩, fun _ _ FF12 MM12 => then_n ?_⟩))
    refine wp_ret ?_
    repeat first | refine then_ret ?_ | refine inb_ret ?_
    exact (ret_fr FF12 0 Try.results74 rfl ⟨trimV (some ⟨bo, 0, none⟩) (M * N) (qsz M + qsz N), rfl, MM12.belowN H (fun _ hx => List.mem_cons_of_mem _ (hx)), by have h0 := trim_new0 (c := qsz M + qsz N) (X := qleB (qsz M + qsz N) (M * N)) (base := w0.heap.size) (qleB_lt _ _) (by rw [qleB_len]; exact Nat.le_refl _) (MM12.get 0 rfl) (MM12.newest (fun _ h => h)); rw [qleV_prod] at h0; exact h0⟩)
theorem times_any (M N : Nat) (x y : Value) (hs : qsz M + qsz N < 1000000) (w0 : World) (hM : NatIn w0 (nv M x) M) (hN : NatIn w0 (nv N y) N) : Calls Try.prog 74 #[nv M x, nv N y] w0 fun e w' => ∃ v, e = .returned (nv (M * N) v) ∧ Below w0.heap.size w0 w' ∧ NatNew w0.heap.size w' (nv (M * N) v) (M * N) := by
  obtain ⟨O, h1, h2, h3, h4⟩ := nat2_O hM hN
  exact times_O O h2 M N x y h3 h4 hs w0 h1
/-- The product of the first i. -/
def prI (ns : List Nat) (i : Nat) : Nat := (ns.take i).foldl (· * ·) 1
def prN (ns : List Nat) : Nat := ns.foldl (· * ·) 1
theorem prI_step (ns : List Nat) (i : Nat) (h : i < ns.length) : prI ns i * ns.getD i 0 = prI ns (i + 1) := by
  rw [prI, prI, List.take_add_one, List.foldl_append, List.getElem?_eq_getElem h]
  simp [List.getD_eq_getElem?_getD, List.getElem?_eq_getElem h]
theorem prI_all (ns : List Nat) : prI ns ns.length = prN ns := by rw [prI, List.take_length]; rfl
theorem prI_sz {ns : List Nat} (h : ∀ j, j < ns.length → qsz (ns.getD j 0) ≤ 1000) : ∀ i, i ≤ ns.length → qsz (prI ns i) ≤ 1 + 1000 * i
  | 0, _ => by rw [show prI ns 0 = 1 from rfl]; decide
  | i + 1, hi => by
    rw [← prI_step ns i (by omega)]
    have h1 := qsz_mul (prI ns i) (ns.getD i 0)
    have h2 := prI_sz h i (by omega)
    have h3 := h i (by omega)
    omega
end Go.Proofs.Ythgfjeljfiadmaa
namespace Go.Proofs.Ythgfjeljfiadmaa
open Go.RowKit
set_option maxRecDepth 100000 in
theorem nmul_O (O : Blks) (hD : Distinct O) (p : Option Addr) (cp : Nat) (ns : List Nat) (xs : List Value) (hA : NatsO O p ns xs) (h1 : ∀ j, j < ns.length → qsz (ns.getD j 0) ≤ 1000) (hl : ns.length ≤ 100) (w0 : World) (H : Has w0 O) :
    Calls Try.prog 63 #[.slice p ns.length cp] w0 fun e w' => ∃ v, e = .returned (.agg #[nv (prN ns) v]) ∧ Below w0.heap.size w0 w' ∧ NatNew w0.heap.size w' (nv (prN ns) v) (prN ns) := by
  refine enter_fr Try.func63 rfl Try.ntmps63 (by simp) fun ac (FF : Fr 20 ac [(0, .slice p ns.length cp)]) => ?_
  have MM : MemS (fun k => k < w0.heap.size ∧ ∀ x ∈ O, x.1 ≠ k) w0 w0 O [] := MemS.startN H hD
  refine wp_seq (rg_c FF MM [] 3 [] [] (fun br => fun _ _ FF1 MM1 => then_n ?_))
  refine wp_seq (rg_c FF1 MM1 [(0, s_ 0 (.cells (cn .u64 [1]) 101))] 4 [] [] (⟨(by kernel_rfl), fun b1 => fun _ wd2 FF2 MM2 => then_n ?_⟩))
  have hb1 : w0.heap.size ≤ b1 := MM2.newest (fun _ hx => List.mem_cons_of_mem _ (hx))
  obtain ⟨O3, MM40, hN5, hs6⟩ := MemS.sinkNat (K := [(br, oC #[.slice none 0 0] 76)]) (O := O) (v := (nv 1 (oneV b1))) (N := 1) MM2 (nat_one b1 101) (Nats.nil O)
  have MM4 : MemS (fun k => k < w0.heap.size ∧ ∀ x ∈ O, x.1 ≠ k) w0 wd2 ((br, oC #[.slice none 0 0] 76) :: O3) [] := MM40
  have hA_7 := hA.mono hs6
  refine wp_seq ?_
  refine wp_seq (rg_c FF2 MM4 [] 9 [9] [0] (fun _ _ FF8 MM8 => then_n ?_))
  refine wp_for (fun a' w' => ∃ O1 : Blks, ∃ i : Nat, ∃ v : Value, i ≤ ns.length ∧ (∀ x ∈ O, x ∈ O1) ∧ Nats O1 [(nv (prI ns i) v, prI ns i)] ∧ (∀ g, (nv (prI ns i) v).ownBlock = some g → w0.heap.size ≤ g) ∧ Fr 20 a' [(9, iN i), (8, iN ns.length), (7, .slice p ns.length cp), (3, nv (prI ns i) v), (2, pT br)] ∧ MemS (fun k => k < w0.heap.size ∧ ∀ x ∈ O, x.1 ≠ k) w0 w' ((br, oC #[.slice none 0 0] 76) :: O1) []) (fun a' _ => (ns.length - cnt 9 a').toNat) ⟨O3, 0, (oneV b1), by omega, hs6, hN5, (fun g hg => own_one hg ▸ hb1), FF8.pick [0, 1, 2, 3, 4], MM8⟩ ?_
  rintro ac9 wd9 ⟨O1, i, v, hi, hsb, hN1, hfr, FF9, MM9⟩
  have hA1 := hA.mono hsb
  have hc := cnt_of (FF9.get 0 rfl)
  refine rg_c FF9 MM9 [] 11 [] [] (fun _ _ FF10 MM10 => ?_)
  by_cases hlt : i < ns.length
  · skip
    refine then_n (.inl ⟨(FF10.ev 0 rfl).trans (dec_t hlt), ?_⟩)
    refine wp_seq (rg_c FF10 MM10 [(0, f_ (.pointer (some ⟨gOf p, i, none⟩))), (0, f_ (aG #[nv (ns.getD i 0) (xs.getD i undef)])), (1, b_ 0)] 9 [9] [] (⟨(rowAddr_ok (x := (.tmp 7)) (y := (.tmp 9)) (by kernel_rfl) rfl rfl Try.underlying108 (by kernel_rfl) hA1.1 (by omega)), (rowLoadA_ok (x := (.tmp 11)) (i := i) (by kernel_rfl) rfl Try.underlying76 rfl (by kernel_rfl) hA1.1 (fun _ hx => List.mem_cons_of_mem _ (hx)) (by omega)), fun b1 => ⟨rfl, rfl, rfl, (by kernel_rfl), rfl, fun _ _ FF11 MM11 => then_n ?_⟩⟩))
    refine wp_region_list ?_
    refine rp_c 3 FF11 MM11 [(2, l_ 0 (nv (ns.getD i 0) (xs.getD i undef)))] 14 [15] [] (⟨rfl, rfl, fun _ _ FF12 MM12 => ?_⟩)
    refine st_callE [5, 9, 8, 7, 3, 2, 16] FF12 (d := 16) (mk := fun v => nv ((prI ns i) * (ns.getD i 0)) v) en_times rfl rfl (times_any (prI ns i) (ns.getD i 0) v (xs.getD i undef) (by have := prI_sz h1 i (by omega); have := h1 i (by omega); omega) _ ((hN1.get 0 rfl).at (Has.tl (Has.tl MM12.hasL))) ((hA1.2 i (by omega)).at (Has.tl (Has.tl MM12.hasL)))) rfl (by kernel_rfl) (by decide) fun ac14 wd14 lv13 FF14 hr15 => ?_
    rw [prI_step ns i (by omega)] at FF14 hr15
    have hfr2 : ∀ g, (nv (prI ns (i + 1)) lv13).ownBlock = some g → w0.heap.size ≤ g := fun g hg => Nat.le_trans MM12.size (hr15.2.2 g hg)
    obtain ⟨O16, MM170, hN18, hs19⟩ := MemS.addNats (K := [(b1, oC #[nv (ns.getD i 0) (xs.getD i undef)] 76), (br, oC #[.slice none 0 0] 76)]) (O := O1) MM12 hr15.1 hr15.2 hN1
    have MM17 : MemS (fun k => k < w0.heap.size ∧ ∀ x ∈ O, x.1 ≠ k) w0 wd14 ((b1, oC #[nv (ns.getD i 0) (xs.getD i undef)] 76) :: (br, oC #[.slice none 0 0] 76) :: O16) [] := MM170
    have hA_20 := hA1.mono hs19
    have hz21 : ∀ x ∈ O, x ∈ O16 := fun x hx => hs19 x (hsb x hx)
    have hN9 : Nats O16 [(nv (prI ns (i + 1)) lv13, prI ns (i + 1))] := .cons (hN18.get 0 rfl) (.nil _)
    refine rp_c 1 FF14 MM17 [] 9 [9] [] (fun _ _ FF22 MM22 => ?_)
    refine wpl_nil ?_
    refine inb_n (then_n ?_)
    refine rg_c FF22 MM22 [] 9 [9] [] (⟨by omega, fun _ _ FF23 MM23 => ?_⟩)
    have hd := cnt_of (FF23.get 0 rfl)
    refine then_n ⟨⟨O16, i + 1, lv13, by omega, hz21, hN9, hfr2, FF23.pick [0, 3, 4, 1, 5], (MM23.dropAt 0)⟩, ?_⟩
    rw [hc, hd]; omega
  · skip
    refine then_n (.inr ⟨(FF10.ev 0 rfl).trans (dec_f hlt), ?_⟩)
    obtain rfl : i = ns.length := by omega
    refine then_n ?_
    refine wp_seq (rg_c FF10 MM10 [(1, t_ (aG #[nv (prI ns ns.length) v])), (0, b_ 0)] 9 [9] [] (⟨(by kernel_rfl), rfl, rfl, rfl, (by kernel_rfl), rfl, fun _ _ FF24 MM24 => then_n ?_⟩))
    refine wp_ret ?_
    repeat first | refine then_ret ?_ | refine inb_ret ?_
    exact (retc FF24 MM24 (k := 1) (i := 0) (j := 4) Try.results63 rfl rfl Try.underlying76 rfl (by kernel_rfl) rfl (by have h9 : NatNew w0.heap.size _ (nv (prI ns ns.length) v) (prI ns ns.length) := ⟨(hN1.get 0 rfl).at (Has.tl MM24.hasL), hfr⟩; rw [prI_all] at h9 ⊢; exact ⟨v, rfl, MM24.belowN H (fun _ hx => List.mem_cons_of_mem _ (hsb _ hx)), h9⟩))
theorem nmul_any (p : Option Addr) (cp : Nat) (ns : List Nat) (xs : List Value) (h1 : ∀ j, j < ns.length → qsz (ns.getD j 0) ≤ 1000) (hl : ns.length ≤ 100) (w0 : World) (hA : NatsIn w0 p ns xs) : Calls Try.prog 63 #[.slice p ns.length cp] w0 fun e w' => ∃ v, e = .returned (.agg #[nv (prN ns) v]) ∧ Below w0.heap.size w0 w' ∧ NatNew w0.heap.size w' (nv (prN ns) v) (prN ns) := by
  obtain ⟨O, g1, g2, g3⟩ := natsIn_O hA
  exact nmul_O O g2 p cp ns xs g3 h1 hl w0 g1
end Go.Proofs.Ythgfjeljfiadmaa
namespace Go.Proofs.Ythgfjeljfiadmaa
open Go.RowKit
theorem bsz_pos {M : Nat} (h : M ≠ 0) : 0 < bsz M := by
  rcases Nat.eq_zero_or_pos (bsz M) with h0 | h0
  · have := (bsz_ok M).1; rw [h0] at this; simp at this; omega
  · exact h0
theorem bz0 {M : Nat} (h : bsz M = 0) : M = 0 := by have := (bsz_ok M).1; rw [h] at this; simpa using this
theorem q_pow2 (k : Nat) : 18446744073709551616 ^ k = 2 ^ (64 * k) := by rw [Nat.pow_mul]
theorem one_lt_q (k : Nat) (h : 1 ≤ k) : 1 < 18446744073709551616 ^ k := Nat.lt_of_lt_of_le (show 1 < 18446744073709551616 ^ 1 by decide) (qpw_le h)
theorem pow_lt2 (M k : Nat) : M ^ k ≤ 2 ^ (bsz M * k) := by rw [Nat.pow_mul]; exact Nat.pow_le_pow_left (Nat.le_of_lt (bsz_ok M).1) k
/-- A power that is not too long. -/
def PowOk (M n : Nat) : Prop := bsz M = 0 ∨ n ≤ 65536 / bsz M
theorem pow_szK {M n k K : Nat} (hK : 65536 < 64 * K) (h : PowOk M n) (hk : k ≤ n) : qsz (M ^ k) ≤ K := by
  refine qsz_le ?_
  rcases h with h | h
  · have hM := bz0 h
    subst hM
    have : 0 ^ k ≤ 1 := by cases k <;> simp
    exact Nat.lt_of_le_of_lt this (one_lt_q K (by omega))
  · refine Nat.lt_of_le_of_lt (pow_lt2 M k) ?_
    rw [q_pow2]
    refine Nat.pow_lt_pow_right (by decide) ?_
    have h1 : bsz M * k ≤ bsz M * (65536 / bsz M) := Nat.mul_le_mul_left _ (Nat.le_trans hk h)
    have h2 := Nat.mul_div_le 65536 (bsz M)
    omega
theorem pow_sz {M n k : Nat} (h : PowOk M n) (hk : k ≤ n) : qsz (M ^ k) ≤ 1025 := pow_szK (by decide) h hk
theorem half_le2 (n j : Nat) : n / 2 ^ j ≤ n := Nat.div_le_self _ _
theorem pow_bit0 {M n j : Nat} (h : ¬ n / 2 ^ j % 2 = 1) : M ^ (n / 2 ^ (j + 1)) * M ^ (n / 2 ^ (j + 1)) = M ^ (n / 2 ^ j) := by
  have e : n / 2 ^ j = n / 2 ^ (j + 1) + n / 2 ^ (j + 1) := by rw [Nat.pow_succ, ← Nat.div_div_eq_div_mul]; omega
  rw [e]
  exact (Nat.pow_add M _ _).symm
theorem pow_bit1 {M n j : Nat} (h : n / 2 ^ j % 2 = 1) : M ^ (n / 2 ^ (j + 1)) * M ^ (n / 2 ^ (j + 1)) * M = M ^ (n / 2 ^ j) := by
  have e : n / 2 ^ j = n / 2 ^ (j + 1) + n / 2 ^ (j + 1) + 1 := by rw [Nat.pow_succ, ← Nat.div_div_eq_div_mul]; omega
  rw [e]
  exact ((Nat.pow_succ M _).trans (congrArg (· * M) (Nat.pow_add M _ _))).symm
theorem pow_top (M n : Nat) : M ^ (n / 2 ^ bsz n) = 1 := by rw [Nat.div_eq_of_lt (bsz_ok n).1, Nat.pow_zero]
theorem pow_two_sz {M n j : Nat} (h : PowOk M n) : qsz (M ^ (n / 2 ^ (j + 1)) * M ^ (n / 2 ^ (j + 1))) ≤ 2050 := by
  have h1 := qsz_mul (M ^ (n / 2 ^ (j + 1))) (M ^ (n / 2 ^ (j + 1)))
  have h2 := pow_sz h (half_le2 n (j + 1))
  omega
theorem natNew_nil (base : Nat) (w : World) : NatNew base w (nv 0 (.slice none 0 0)) 0 := ⟨⟨none, 0, rfl, fun _ => ⟨rfl, rfl⟩, fun h => (h rfl).elim, Nat.le_refl _, .inl rfl⟩, fun g hg => by cases hg⟩
theorem bsz_qsz {M : Nat} (h : qsz M < 10000) : bsz M < 1000000 := by
  have h1 := bsz_le (N := M) (n := 64 * qsz M) (by have := (qsz_ok M).1; rwa [show 18446744073709551616 = 2 ^ 64 by rfl, ← Nat.pow_mul] at this)
  omega
set_option maxRecDepth 100000 in
theorem npow_ok_O (O : Blks) (hD : Distinct O) (M : Nat) (x : Value) (hM : NatO O (nv M x) M) (hs : qsz M < 1000000) (hs0 : qsz M < 10000) (n : Nat) (hP : PowOk M n) (hn2 : n < 9223372036854775808) (w0 : World) (H : Has w0 O) :
    Calls Try.prog 75 #[.agg #[nv M x], iN n] w0 fun e w' => ∃ v, e = .returned (.tuple #[.agg #[nv (M ^ n) v], iN 0]) ∧ Below w0.heap.size w0 w' ∧ NatNew w0.heap.size w' (nv (M ^ n) v) (M ^ n) := by
  refine enter_fr Try.func75 rfl Try.ntmps75 (by simp) fun ac (FF : Fr 46 ac [(0, aG #[nv M x]), (1, iN n)]) => ?_
  have MM : MemS (fun k => k < w0.heap.size ∧ ∀ x ∈ O, x.1 ≠ k) w0 w0 O [] := MemS.startN H hD
  have hbM := bsz_qsz hs0
  refine wp_seq (rg_c FF MM [] 6 [] [0] (fun ba => fun br => fun _ _ FF1 MM1 => then_n ?_))
  refine wp_seq ?_
  refine wp_seq (rg_c FF1 MM1 [(1, w_ 3)] 6 [10] [] (⟨by omega, fun _ _ FF2 MM2 => then_n ?_⟩))
  refine wp_cond_false (FF2.ev 0 rfl) ?_
  refine wp_skip ?_
  refine then_n ?_
  refine wp_seq ?_
  refine wp_seq (rg_c FF2 MM2 [(0, b_ 1), (0, u_ 1 (iN (bsz M)))] 7 [] [] (⟨rfl, rfl, ⟨en_nbits, fun w Hw => nbits_any M x hs w (hM.at (Has.tl (Has.tl Hw)))⟩, fun _ _ FF3 MM3 => then_n ?_⟩))
  by_cases h4 : bsz M > 0
  · skip
    refine wp_seq (rg_c FF3 MM3 [(1, w_ 2), (4, w_ 3)] 6 [21] [] (⟨h4, (by have := hbM; omega), (Nat.lt_of_le_of_lt (Nat.div_le_self _ _) (by decide)), (Nat.not_lt.2 (hP.resolve_left (by omega))), fun _ _ FF4 MM4 => then_n ?_⟩))
    refine wp_cond_false (FF4.ev 0 rfl) ?_
    refine wp_skip ?_
    refine then_n ?_
    refine wp_seq (rg_c FF4 MM4 [(0, s_ 0 (.cells (cn .u64 [1]) 101))] 8 [] [] (⟨(by kernel_rfl), fun b1 => fun ac5 wd5 FF5 MM5 => then_n ?_⟩))
    have hb1 : w0.heap.size ≤ b1 := MM5.newest (fun _ hx => List.mem_cons_of_mem _ (List.mem_cons_of_mem _ (hx)))
    obtain ⟨O6, MM70, hN8, hs9⟩ := MemS.sinkNat (K := [(br, oC #[.slice none 0 0] 76), (ba, oC #[nv M x] 76)]) (O := O) (v := (nv 1 (oneV b1))) (N := 1) MM5 (nat_one b1 101) (Nats.nil O)
    have MM7 : MemS (fun k => k < w0.heap.size ∧ ∀ x ∈ O, x.1 ≠ k) w0 wd5 ((br, oC #[.slice none 0 0] 76) :: (ba, oC #[nv M x] 76) :: O6) [] := MM70
    have hM_10 := hM.mono hs9
    have hN0 : Nats O6 [(nv (M ^ (n / 2 ^ bsz n)) (oneV b1), M ^ (n / 2 ^ bsz n))] := by rw [pow_top]; exact hN8
    have hf0 : ∀ g, (nv (M ^ (n / 2 ^ bsz n)) (oneV b1)).ownBlock = some g → w0.heap.size ≤ g := fun g hg => own_one hg ▸ hb1
    have FFp : Fr 46 ac5 [(7, nv (M ^ (n / 2 ^ bsz n)) (oneV b1)), (5, iN 0), (4, pT br), (2, pT ba), (1, iN n)] := by rw [pow_top]; exact FF5
    refine wp_seq ?_
    have hbn := bsz64 (x := n) (by omega)
    refine wp_seq (rg_c FFp MM7 [(1, w_ 1), (0, t_ (iN (bsz n))), (0, u_ 4 (.int .i64 (((bsz n : Nat) : Int) - 1 : Int)))] 9 [] [] (⟨by omega, (callP_of en_blen (blen_any n (by omega)) _), (by have := bsz64 (show n < 18446744073709551616 from (by omega)); omega), (by have := bsz64 (show n < 18446744073709551616 from (by omega)); omega), (vZ (by omega)), fun _ _ FF11 MM11 => then_n ?_⟩))
    refine wp_for2 (fun a' w' => ∃ O1 : Blks, ∃ j : Nat, ∃ v : Value, j ≤ 64 ∧ (∀ x ∈ O, x ∈ O1) ∧ Nats O1 [(nv (M ^ (n / 2 ^ j)) v, M ^ (n / 2 ^ j))] ∧ (∀ g, (nv (M ^ (n / 2 ^ j)) v).ownBlock = some g → w0.heap.size ≤ g) ∧ Fr 46 a' [(8, .int .i64 (((j : Nat) : Int) - 1 : Int)), (7, nv (M ^ (n / 2 ^ j)) v), (5, iN 0), (4, pT br), (2, pT ba), (1, iN n)] ∧ MemS (fun k => k < w0.heap.size ∧ ∀ x ∈ O, x.1 ≠ k) w0 w' ((br, oC #[.slice none 0 0] 76) :: (ba, oC #[nv M x] 76) :: O1) []) (fun a' _ => (cnt 8 a' + 1).toNat) ⟨O6, bsz n, (oneV b1), by omega, hs9, hN0, hf0, FF11.pick [0, 1, 2, 3, 4, 5], MM11⟩ ?_
    rintro ac12 wd12 ⟨O1, j, v, hj, hsb, hN1, hfr, FF12, MM12⟩
    have hM1 := hM.mono hsb
    have hc := cnt_of (FF12.get 0 rfl)
    refine rg_c FF12 MM12 [(1, w_ 4)] 9 [29] [] (fun _ _ FF13 MM13 => ?_)
    by_cases hlt : (((j : Nat) : Int) - 1) ≥ ((0 : Nat) : Int)
    · skip
      refine then_n (.inl ⟨(FF13.ev 0 rfl).trans (dec_t hlt), ?_⟩)
      obtain ⟨j, rfl⟩ : ∃ z, j = z + 1 := ⟨j - 1, by omega⟩
      refine wp_seq (wp_region_list ?_)
      refine rp_c 2 FF13 MM13 [] 34 [] [29] (fun _ _ FF14 MM14 => ?_)
      refine st_callE [8, 7, 5, 4, 2, 1, 34] FF14 (d := 34) (mk := fun v => nv ((M ^ (n / 2 ^ (j + 1))) * (M ^ (n / 2 ^ (j + 1)))) v) en_times rfl rfl (times_any (M ^ (n / 2 ^ (j + 1))) (M ^ (n / 2 ^ (j + 1))) v v (by have := pow_sz hP (half_le2 n (j + 1)); omega) _ ((hN1.get 0 rfl).at (Has.tl (Has.tl MM14.hasL))) ((hN1.get 0 rfl).at (Has.tl (Has.tl MM14.hasL)))) rfl (by kernel_rfl) (by decide) fun ac16 wd16 lv15 FF16 hr17 => ?_
      have hfr18 : ∀ g, (nv ((M ^ (n / 2 ^ (j + 1))) * (M ^ (n / 2 ^ (j + 1)))) lv15).ownBlock = some g → w0.heap.size ≤ g := fun g hg => Nat.le_trans MM14.size (hr17.2.2 g hg)
      obtain ⟨O19, MM200, hN21, hs22⟩ := MemS.addNats (K := [(br, oC #[.slice none 0 0] 76), (ba, oC #[nv M x] 76)]) (O := O1) MM14 hr17.1 hr17.2 hN1
      have MM20 : MemS (fun k => k < w0.heap.size ∧ ∀ x ∈ O, x.1 ≠ k) w0 wd16 ((br, oC #[.slice none 0 0] 76) :: (ba, oC #[nv M x] 76) :: O19) [] := MM200
      have hM_23 := hM1.mono hs22
      have hz24 : ∀ x ∈ O, x ∈ O19 := fun x hx => hs22 x (hsb x hx)
      refine rp_c 1 FF16 MM20 [] 9 [] [] (fun _ _ FF25 MM25 => ?_)
      refine wpl_nil (then_n ?_)
      refine wp_seq (rg_c FF25 MM25 [(1, t_ (iN j)), (1, t_ (iN ((n / (2 ^ j)) % 2)))] 9 [39] [] (⟨(vZ (by omega)), (by show _ ≤ 64; omega), (Nat.lt_of_le_of_lt (Nat.div_le_self _ _) hn2), by decide, (vI (and_low 1 _)), fun _ _ FF26 MM26 => then_n ?_⟩))
      by_cases hs39 : ((n / (2 ^ j)) % 2) = 1
      · refine wp_cond_true ((FF26.ev 0 rfl).trans (dec_t hs39)) ?_
        refine wp_region_list ?_
        refine rp_c 3 FF26 MM26 [(2, l_ 1 (nv M x))] 41 [42] [39] (⟨rfl, rfl, fun _ _ FF27 MM27 => ?_⟩)
        refine st_callE [7, 8, 5, 4, 2, 1, 43] FF27 (d := 43) (mk := fun v => nv ((M ^ (n / 2 ^ (j + 1))) * (M ^ (n / 2 ^ (j + 1))) * M) v) en_times rfl rfl (times_any ((M ^ (n / 2 ^ (j + 1))) * (M ^ (n / 2 ^ (j + 1)))) M lv15 x (by have := pow_two_sz (j := j) hP; omega) _ ((hN21.get 0 rfl).at (Has.tl (Has.tl MM27.hasL))) (hM_23.at (Has.tl (Has.tl MM27.hasL)))) rfl (by kernel_rfl) (by decide) fun ac29 wd29 lv28 FF29 hr30 => ?_
        have hfr31 : ∀ g, (nv ((M ^ (n / 2 ^ (j + 1))) * (M ^ (n / 2 ^ (j + 1))) * M) lv28).ownBlock = some g → w0.heap.size ≤ g := fun g hg => Nat.le_trans MM27.size (hr30.2.2 g hg)
        obtain ⟨O32, MM330, hN34, hs35⟩ := MemS.addNats (K := [(br, oC #[.slice none 0 0] 76), (ba, oC #[nv M x] 76)]) (O := O19) MM27 hr30.1 hr30.2 hN21
        have MM33 : MemS (fun k => k < w0.heap.size ∧ ∀ x ∈ O, x.1 ≠ k) w0 wd29 ((br, oC #[.slice none 0 0] 76) :: (ba, oC #[nv M x] 76) :: O32) [] := MM330
        have hM_36 := hM_23.mono hs35
        have hz37 : ∀ x ∈ O, x ∈ O32 := fun x hx => hs35 x (hz24 x hx)
        refine rp_c 1 FF29 MM33 [] 9 [] [] (fun _ _ FF38 MM38 => ?_)
        refine wpl_nil ?_
        refine inb_n (then_n ?_)
        refine rg_c FF38 MM38 [(1, u_ 4 (.int .i64 (((j : Nat) : Int) - 1 : Int)))] 9 [] [] (⟨by omega, by omega, (vZ (by omega)), fun _ _ FF39 MM39 => ?_⟩)
        have hd := cnt_of (FF39.get 0 rfl)
        rw [pow_bit1 hs39] at FF39
        have hN9 : Nats O32 [(nv (M ^ (n / 2 ^ j)) lv28, M ^ (n / 2 ^ j))] := by rw [← pow_bit1 hs39]; exact .cons (hN34.get 0 rfl) (.nil _)
        rw [pow_bit1 hs39] at hfr31
        refine then_n ⟨⟨O32, j, lv28, by omega, hz37, hN9, hfr31, FF39.pick [0, 1, 2, 3, 4, 5], MM39⟩, ?_⟩
        rw [hc, hd]; omega
      · refine wp_cond_false ((FF26.ev 0 rfl).trans (dec_f hs39)) ?_
        refine wp_skip ?_
        refine inb_n (then_n ?_)
        refine rg_c FF26 MM26 [(1, u_ 4 (.int .i64 (((j : Nat) : Int) - 1 : Int)))] 9 [] [] (⟨by omega, by omega, (vZ (by omega)), fun _ _ FF40 MM40 => ?_⟩)
        have hd := cnt_of (FF40.get 0 rfl)
        rw [pow_bit0 hs39] at FF40
        have hN9 : Nats O19 [(nv (M ^ (n / 2 ^ j)) lv15, M ^ (n / 2 ^ j))] := by rw [← pow_bit0 hs39]; exact .cons (hN21.get 0 rfl) (.nil _)
        rw [pow_bit0 hs39] at hfr18
        refine then_n ⟨⟨O19, j, lv15, by omega, hz24, hN9, hfr18, FF40.pick [0, 1, 2, 3, 4, 5], MM40⟩, ?_⟩
        rw [hc, hd]; omega
    · skip
      refine then_n (.inr ⟨(FF13.ev 0 rfl).trans (dec_f hlt), ?_⟩)
      obtain rfl : j = 0 := by omega
      refine then_n ?_
      refine wp_seq (rg_c FF13 MM13 [(1, t_ (aG #[nv (M ^ (n / 2 ^ 0)) v])), (0, b_ 0)] 9 [] [] (⟨(by kernel_rfl), rfl, rfl, rfl, (by kernel_rfl), rfl, fun _ _ FF41 MM41 => then_n ?_⟩))
      refine wp_ret ?_
      repeat first | refine then_ret ?_ | refine inb_ret ?_
      exact (ret_ct FF41 MM41 (k := 1) (i := 0) (j := 3) (m := 0) Try.results75 rfl rfl rfl Try.underlying76 rfl (by kernel_rfl) rfl (by have h9 : NatNew w0.heap.size _ (nv (M ^ (n / 2 ^ 0)) v) (M ^ (n / 2 ^ 0)) := ⟨(hN1.get 0 rfl).at (Has.tl (Has.tl MM41.hasL)), hfr⟩; rw [Nat.pow_zero, Nat.div_one] at h9 ⊢; exact ⟨v, rfl, MM41.belowN H (fun _ hx => List.mem_cons_of_mem _ (List.mem_cons_of_mem _ (hsb _ hx))), h9⟩))
  · skip
    refine wp_seq (rg_c FF3 MM3 [(1, w_ 3)] 6 [21] [] (⟨h4, fun _ _ FF42 MM42 => then_n ?_⟩))
    refine wp_cond_false (FF42.ev 0 rfl) ?_
    refine wp_skip ?_
    refine then_n ?_
    refine wp_seq (rg_c FF42 MM42 [(0, s_ 0 (.cells (cn .u64 [1]) 101))] 8 [] [] (⟨(by kernel_rfl), fun b1 => fun ac43 wd43 FF43 MM43 => then_n ?_⟩))
    have hb1 : w0.heap.size ≤ b1 := MM43.newest (fun _ hx => List.mem_cons_of_mem _ (List.mem_cons_of_mem _ (hx)))
    obtain ⟨O44, MM450, hN46, hs47⟩ := MemS.sinkNat (K := [(br, oC #[.slice none 0 0] 76), (ba, oC #[nv M x] 76)]) (O := O) (v := (nv 1 (oneV b1))) (N := 1) MM43 (nat_one b1 101) (Nats.nil O)
    have MM45 : MemS (fun k => k < w0.heap.size ∧ ∀ x ∈ O, x.1 ≠ k) w0 wd43 ((br, oC #[.slice none 0 0] 76) :: (ba, oC #[nv M x] 76) :: O44) [] := MM450
    have hM_48 := hM.mono hs47
    have hN0 : Nats O44 [(nv (M ^ (n / 2 ^ bsz n)) (oneV b1), M ^ (n / 2 ^ bsz n))] := by rw [pow_top]; exact hN46
    have hf0 : ∀ g, (nv (M ^ (n / 2 ^ bsz n)) (oneV b1)).ownBlock = some g → w0.heap.size ≤ g := fun g hg => own_one hg ▸ hb1
    have FFp : Fr 46 ac43 [(7, nv (M ^ (n / 2 ^ bsz n)) (oneV b1)), (5, iN 0), (4, pT br), (2, pT ba), (1, iN n)] := by rw [pow_top]; exact FF43
    refine wp_seq ?_
    have hbn := bsz64 (x := n) (by omega)
    refine wp_seq (rg_c FFp MM45 [(1, w_ 1), (0, t_ (iN (bsz n))), (0, u_ 4 (.int .i64 (((bsz n : Nat) : Int) - 1 : Int)))] 9 [] [] (⟨by omega, (callP_of en_blen (blen_any n (by omega)) _), (by have := bsz64 (show n < 18446744073709551616 from (by omega)); omega), (by have := bsz64 (show n < 18446744073709551616 from (by omega)); omega), (vZ (by omega)), fun _ _ FF49 MM49 => then_n ?_⟩))
    refine wp_for2 (fun a' w' => ∃ O1 : Blks, ∃ j : Nat, ∃ v : Value, j ≤ 64 ∧ (∀ x ∈ O, x ∈ O1) ∧ Nats O1 [(nv (M ^ (n / 2 ^ j)) v, M ^ (n / 2 ^ j))] ∧ (∀ g, (nv (M ^ (n / 2 ^ j)) v).ownBlock = some g → w0.heap.size ≤ g) ∧ Fr 46 a' [(8, .int .i64 (((j : Nat) : Int) - 1 : Int)), (7, nv (M ^ (n / 2 ^ j)) v), (5, iN 0), (4, pT br), (2, pT ba), (1, iN n)] ∧ MemS (fun k => k < w0.heap.size ∧ ∀ x ∈ O, x.1 ≠ k) w0 w' ((br, oC #[.slice none 0 0] 76) :: (ba, oC #[nv M x] 76) :: O1) []) (fun a' _ => (cnt 8 a' + 1).toNat) ⟨O44, bsz n, (oneV b1), by omega, hs47, hN0, hf0, FF49.pick [0, 1, 2, 3, 4, 5], MM49⟩ ?_
    rintro ac50 wd50 ⟨O1, j, v, hj, hsb, hN1, hfr, FF50, MM50⟩
    have hM1 := hM.mono hsb
    have hc := cnt_of (FF50.get 0 rfl)
    refine rg_c FF50 MM50 [(1, w_ 4)] 9 [29] [] (fun _ _ FF51 MM51 => ?_)
    by_cases hlt : (((j : Nat) : Int) - 1) ≥ ((0 : Nat) : Int)
    · skip
      refine then_n (.inl ⟨(FF51.ev 0 rfl).trans (dec_t hlt), ?_⟩)
      obtain ⟨j, rfl⟩ : ∃ z, j = z + 1 := ⟨j - 1, by omega⟩
      refine wp_seq (wp_region_list ?_)
      refine rp_c 2 FF51 MM51 [] 34 [] [29] (fun _ _ FF52 MM52 => ?_)
      refine st_callE [8, 7, 5, 4, 2, 1, 34] FF52 (d := 34) (mk := fun v => nv ((M ^ (n / 2 ^ (j + 1))) * (M ^ (n / 2 ^ (j + 1)))) v) en_times rfl rfl (times_any (M ^ (n / 2 ^ (j + 1))) (M ^ (n / 2 ^ (j + 1))) v v (by have := pow_sz hP (half_le2 n (j + 1)); omega) _ ((hN1.get 0 rfl).at (Has.tl (Has.tl MM52.hasL))) ((hN1.get 0 rfl).at (Has.tl (Has.tl MM52.hasL)))) rfl (by kernel_rfl) (by decide) fun ac54 wd54 lv53 FF54 hr55 => ?_
      have hfr56 : ∀ g, (nv ((M ^ (n / 2 ^ (j + 1))) * (M ^ (n / 2 ^ (j + 1)))) lv53).ownBlock = some g → w0.heap.size ≤ g := fun g hg => Nat.le_trans MM52.size (hr55.2.2 g hg)
      obtain ⟨O57, MM580, hN59, hs60⟩ := MemS.addNats (K := [(br, oC #[.slice none 0 0] 76), (ba, oC #[nv M x] 76)]) (O := O1) MM52 hr55.1 hr55.2 hN1
      have MM58 : MemS (fun k => k < w0.heap.size ∧ ∀ x ∈ O, x.1 ≠ k) w0 wd54 ((br, oC #[.slice none 0 0] 76) :: (ba, oC #[nv M x] 76) :: O57) [] := MM580
      have hM_61 := hM1.mono hs60
      have hz62 : ∀ x ∈ O, x ∈ O57 := fun x hx => hs60 x (hsb x hx)
      refine rp_c 1 FF54 MM58 [] 9 [] [] (fun _ _ FF63 MM63 => ?_)
      refine wpl_nil (then_n ?_)
      refine wp_seq (rg_c FF63 MM63 [(1, t_ (iN j)), (1, t_ (iN ((n / (2 ^ j)) % 2)))] 9 [39] [] (⟨(vZ (by omega)), (by show _ ≤ 64; omega), (Nat.lt_of_le_of_lt (Nat.div_le_self _ _) hn2), by decide, (vI (and_low 1 _)), fun _ _ FF64 MM64 => then_n ?_⟩))
      by_cases hs39 : ((n / (2 ^ j)) % 2) = 1
      · refine wp_cond_true ((FF64.ev 0 rfl).trans (dec_t hs39)) ?_
        refine wp_region_list ?_
        refine rp_c 3 FF64 MM64 [(2, l_ 1 (nv M x))] 41 [42] [39] (⟨rfl, rfl, fun _ _ FF65 MM65 => ?_⟩)
        refine st_callE [7, 8, 5, 4, 2, 1, 43] FF65 (d := 43) (mk := fun v => nv ((M ^ (n / 2 ^ (j + 1))) * (M ^ (n / 2 ^ (j + 1))) * M) v) en_times rfl rfl (times_any ((M ^ (n / 2 ^ (j + 1))) * (M ^ (n / 2 ^ (j + 1)))) M lv53 x (by have := pow_two_sz (j := j) hP; omega) _ ((hN59.get 0 rfl).at (Has.tl (Has.tl MM65.hasL))) (hM_61.at (Has.tl (Has.tl MM65.hasL)))) rfl (by kernel_rfl) (by decide) fun ac67 wd67 lv66 FF67 hr68 => ?_
        have hfr69 : ∀ g, (nv ((M ^ (n / 2 ^ (j + 1))) * (M ^ (n / 2 ^ (j + 1))) * M) lv66).ownBlock = some g → w0.heap.size ≤ g := fun g hg => Nat.le_trans MM65.size (hr68.2.2 g hg)
        obtain ⟨O70, MM710, hN72, hs73⟩ := MemS.addNats (K := [(br, oC #[.slice none 0 0] 76), (ba, oC #[nv M x] 76)]) (O := O57) MM65 hr68.1 hr68.2 hN59
        have MM71 : MemS (fun k => k < w0.heap.size ∧ ∀ x ∈ O, x.1 ≠ k) w0 wd67 ((br, oC #[.slice none 0 0] 76) :: (ba, oC #[nv M x] 76) :: O70) [] := MM710
        have hM_74 := hM_61.mono hs73
        have hz75 : ∀ x ∈ O, x ∈ O70 := fun x hx => hs73 x (hz62 x hx)
        refine rp_c 1 FF67 MM71 [] 9 [] [] (fun _ _ FF76 MM76 => ?_)
        refine wpl_nil ?_
        refine inb_n (then_n ?_)
        refine rg_c FF76 MM76 [(1, u_ 4 (.int .i64 (((j : Nat) : Int) - 1 : Int)))] 9 [] [] (⟨by omega, by omega, (vZ (by omega)), fun _ _ FF77 MM77 => ?_⟩)
        have hd := cnt_of (FF77.get 0 rfl)
        rw [pow_bit1 hs39] at FF77
        have hN9 : Nats O70 [(nv (M ^ (n / 2 ^ j)) lv66, M ^ (n / 2 ^ j))] := by rw [← pow_bit1 hs39]; exact .cons (hN72.get 0 rfl) (.nil _)
        rw [pow_bit1 hs39] at hfr69
        refine then_n ⟨⟨O70, j, lv66, by omega, hz75, hN9, hfr69, FF77.pick [0, 1, 2, 3, 4, 5], MM77⟩, ?_⟩
        rw [hc, hd]; omega
      · refine wp_cond_false ((FF64.ev 0 rfl).trans (dec_f hs39)) ?_
        refine wp_skip ?_
        refine inb_n (then_n ?_)
        refine rg_c FF64 MM64 [(1, u_ 4 (.int .i64 (((j : Nat) : Int) - 1 : Int)))] 9 [] [] (⟨by omega, by omega, (vZ (by omega)), fun _ _ FF78 MM78 => ?_⟩)
        have hd := cnt_of (FF78.get 0 rfl)
        rw [pow_bit0 hs39] at FF78
        have hN9 : Nats O57 [(nv (M ^ (n / 2 ^ j)) lv53, M ^ (n / 2 ^ j))] := by rw [← pow_bit0 hs39]; exact .cons (hN59.get 0 rfl) (.nil _)
        rw [pow_bit0 hs39] at hfr56
        refine then_n ⟨⟨O57, j, lv53, by omega, hz62, hN9, hfr56, FF78.pick [0, 1, 2, 3, 4, 5], MM78⟩, ?_⟩
        rw [hc, hd]; omega
    · skip
      refine then_n (.inr ⟨(FF51.ev 0 rfl).trans (dec_f hlt), ?_⟩)
      obtain rfl : j = 0 := by omega
      refine then_n ?_
      refine wp_seq (rg_c FF51 MM51 [(1, t_ (aG #[nv (M ^ (n / 2 ^ 0)) v])), (0, b_ 0)] 9 [] [] (⟨(by kernel_rfl), rfl, rfl, rfl, (by kernel_rfl), rfl, fun _ _ FF79 MM79 => then_n ?_⟩))
      refine wp_ret ?_
      repeat first | refine then_ret ?_ | refine inb_ret ?_
      exact (ret_ct FF79 MM79 (k := 1) (i := 0) (j := 3) (m := 0) Try.results75 rfl rfl rfl Try.underlying76 rfl (by kernel_rfl) rfl (by have h9 : NatNew w0.heap.size _ (nv (M ^ (n / 2 ^ 0)) v) (M ^ (n / 2 ^ 0)) := ⟨(hN1.get 0 rfl).at (Has.tl (Has.tl MM79.hasL)), hfr⟩; rw [Nat.pow_zero, Nat.div_one] at h9 ⊢; exact ⟨v, rfl, MM79.belowN H (fun _ hx => List.mem_cons_of_mem _ (List.mem_cons_of_mem _ (hsb _ hx))), h9⟩))
theorem npow_ok (M : Nat) (x : Value) (hs : qsz M < 10000) (n : Nat) (hP : PowOk M n) (hn2 : n < 9223372036854775808) (w0 : World) (hM : NatIn w0 (nv M x) M) : Calls Try.prog 75 #[.agg #[nv M x], iN n] w0 fun e w' => ∃ v, e = .returned (.tuple #[.agg #[nv (M ^ n) v], iN 0]) ∧ Below w0.heap.size w0 w' ∧ NatNew w0.heap.size w' (nv (M ^ n) v) (M ^ n) := by
  obtain ⟨O, h1, h2, h3⟩ := nat1_O hM
  exact npow_ok_O O h2 M x h3 (by omega) hs n hP hn2 w0 h1
end Go.Proofs.Ythgfjeljfiadmaa
namespace Go.Proofs.Ythgfjeljfiadmaa
open Go.RowKit
theorem one_has {w : World} {g : Nat} {ob : Obj} (h : w.heap[g]? = some ob) : Has w [(g, ob)] := fun i x hx => by
  cases i with
  | zero => simp at hx; subst hx; exact h
  | succ i => simp at hx
end Go.Proofs.Ythgfjeljfiadmaa
namespace Go.Proofs.Ythgfjeljfiadmaa
open Go.RowKit
/-- The next n bytes of a tape: its own, then noughts. -/
def takN (n : Nat) (X : List Nat) : List Nat := X.take n ++ List.replicate (n - X.length) 0
theorem takN_len (n : Nat) (X : List Nat) : (takN n X).length = n := by simp [takN]; omega
theorem dropD (X : List Nat) (k i : Nat) : (X.drop k).getD i 0 = X.getD (k + i) 0 := by simp [List.getD_eq_getElem?_getD]
theorem takN_get {n i : Nat} (X : List Nat) (h : i < n) : (takN n X).getD i 0 = X.getD i 0 := by
  rw [takN]
  rcases Nat.lt_or_ge i X.length with h1 | h1
  · rw [getD_app_l _ _ _ (by simp; omega), List.getD_eq_getElem?_getD, List.getElem?_take, if_pos h, List.getD_eq_getElem?_getD]
  · rw [getD_app_r _ _ _ (by simp; omega), rep_get, getD_out h1]
theorem takN_lt {X : List Nat} (hX : ∀ i, X.getD i 0 < 256) (n : Nat) : ∀ i, (takN n X).getD i 0 < 256 := fun i => by
  rcases Nat.lt_or_ge i n with h | h
  · rw [takN_get X h]; exact hX i
  · rw [getD_out (by rw [takN_len]; exact h)]; decide
theorem dropX_min (X : List Nat) (n : Nat) : X.drop (min X.length n) = X.drop n := by
  rcases Nat.le_total X.length n with h | h
  · rw [Nat.min_eq_left h, List.drop_length, List.drop_of_length_le h]
  · rw [Nat.min_eq_right h]
theorem dropX_lt {X : List Nat} (hX : ∀ i, X.getD i 0 < 256) (n : Nat) : ∀ i, (X.drop n).getD i 0 < 256 := fun i => by rw [dropD]; exact hX _
theorem tak_cells (n : Nat) (X : List Nat) : setFrom (cn .u8 (List.replicate n 0)) 0 (bcells (X.take n)) = cn .u8 (takN n X) := by
  apply Array.ext_getElem?
  intro j
  rw [setFrom_get]
  have hb : (bcells (X.take n)).length = min n X.length := by simp [bcells]
  rcases Nat.lt_or_ge j n with h | h
  · rw [show (cn .u8 (takN n X))[j]? = some (iB (X.getD j 0)) by rw [cn_get _ _ _ (by rw [takN_len]; exact h), takN_get X h]]
    by_cases h1 : j < X.length
    · rw [if_pos ⟨Nat.zero_le _, by rw [hb]; omega, by rw [cn_size, List.length_replicate]; exact h⟩]
      simp [bcells, h, List.getD_eq_getElem?_getD, List.getElem?_eq_getElem h1]
    · rw [if_neg (fun q => by have := q.2.1; rw [hb] at this; omega), cn_get _ _ _ (by rw [List.length_replicate]; exact h), rep_get, getD_out (by omega)]
  · rw [if_neg (fun q => by have := q.2.2; rw [cn_size, List.length_replicate] at this; omega), Array.getElem?_eq_none (by rw [cn_size, List.length_replicate]; exact h), Array.getElem?_eq_none (by rw [cn_size, takN_len]; exact h)]
/-- The lowest b bits of the next bytes. -/
def bitN (b : Nat) (X : List Nat) : Nat := leV (takN ((b + 7) / 8) X) % 2 ^ b
theorem mask_last {Y : List Nat} {m c : Nat} (hY : ∀ i, Y.getD i 0 < 256) (hl : Y.length = m + 1) : leV (Y.set m (Y.getD m 0 % 2 ^ c)) = leV Y % 2 ^ (8 * m + c) := by
  have e1 : Y = Y.take m ++ [Y.getD m 0] := by
    refine ext_getD (by simp [hl]) fun i hi => ?_
    rcases Nat.lt_or_ge i m with h | h
    · rw [getD_app_l _ _ _ (by simp; omega), List.getD_eq_getElem?_getD, List.getD_eq_getElem?_getD, List.getElem?_take, if_pos h]
    · obtain rfl : i = m := by omega
      rw [getD_app_r _ _ _ (by simp; omega)]
      simp [hl]
  have hA : leV (Y.take m) < 256 ^ m := leV_take hY m
  have e2 : Y.set m (Y.getD m 0 % 2 ^ c) = Y.take m ++ [Y.getD m 0 % 2 ^ c] := by
    refine ext_getD (by simp [hl]) fun i hi => ?_
    simp only [List.length_set] at hi
    rw [getD_set]
    rcases Nat.lt_or_ge i m with h | h
    · rw [if_neg (by omega), getD_app_l _ _ _ (by simp; omega), List.getD_eq_getElem?_getD, List.getD_eq_getElem?_getD, List.getElem?_take, if_pos h]
    · obtain rfl : m = i := by omega
      rw [if_pos ⟨rfl, by omega⟩, getD_app_r _ _ _ (by simp; omega)]
      simp [hl]
  have e3 : ∀ y, leV (Y.take m ++ [y]) = leV (Y.take m) + 256 ^ m * y := fun y => by
    rw [leV_app]; simp [leV, hl]
  have ep : 2 ^ (8 * m + c) = 256 ^ m * 2 ^ c := by rw [Nat.pow_add, Nat.pow_mul]
  have hv : leV Y = leV (Y.take m) + 256 ^ m * Y.getD m 0 := (congrArg leV e1).trans (e3 _)
  rw [e2, e3, hv, ep, Nat.mod_mul, Nat.add_mul_mod_self_left, Nat.mod_eq_of_lt hA, Nat.add_mul_div_left _ _ (Nat.pow_pos (by decide)), Nat.div_eq_of_lt hA, Nat.zero_add]
theorem and_shr {x k : Nat} (hk : k ≤ 7) : x &&& 255 / 2 ^ k = x % 2 ^ (8 - k) := by
  have e : 255 / 2 ^ k = 2 ^ (8 - k) - 1 := by
    have : ∀ k : Fin 8, 255 / 2 ^ k.val = 2 ^ (8 - k.val) - 1 := by decide
    exact this ⟨k, by omega⟩
  rw [e]; exact Nat.and_two_pow_sub_one_eq_mod x (8 - k)
theorem bit_tape {X : List Nat} {b : Nat} (hX : ∀ i, X.getD i 0 < 256) (hb : 1 ≤ b) : leV ((takN ((b + 7) / 8) X).set ((b + 7) / 8 - 1) ((takN ((b + 7) / 8) X).getD ((b + 7) / 8 - 1) 0 &&& 255 / 2 ^ (8 * ((b + 7) / 8) - b))) = bitN b X := by
  rw [and_shr (by omega)]
  have := mask_last (Y := takN ((b + 7) / 8) X) (m := (b + 7) / 8 - 1) (c := 8 - (8 * ((b + 7) / 8) - b)) (takN_lt hX _) (by rw [takN_len]; omega)
  rw [this, bitN]
  congr 2; omega
theorem bitN_lt (b : Nat) (X : List Nat) : bitN b X < 2 ^ b := Nat.mod_lt _ (Nat.pow_pos (by decide))
/-- What is drawn under W by k tries, s bytes each. -/
def undN (W b : Nat) : Nat → List Nat → Nat × Nat × Nat
  | 0, _ => (0, 3, 0)
  | k + 1, X => if bitN b X < W then (bitN b X, 0, (b + 7) / 8) else ((undN W b k (X.drop ((b + 7) / 8))).1, (undN W b k (X.drop ((b + 7) / 8))).2.1, (b + 7) / 8 + (undN W b k (X.drop ((b + 7) / 8))).2.2)
def UndI (W b k : Nat) (X : List Nat) (i : Nat) : Prop := undN W b k X = ((undN W b (k - i) (X.drop ((b + 7) / 8 * i))).1, (undN W b (k - i) (X.drop ((b + 7) / 8 * i))).2.1, (b + 7) / 8 * i + (undN W b (k - i) (X.drop ((b + 7) / 8 * i))).2.2)
theorem und_start (W b k : Nat) (X : List Nat) : UndI W b k X 0 := by unfold UndI; simp
theorem und_no {W b k i : Nat} {X : List Nat} (h : UndI W b k X i) (hi : i < k) (hv : ¬ bitN b (X.drop ((b + 7) / 8 * i)) < W) : UndI W b k X (i + 1) := by
  unfold UndI at *
  obtain ⟨m, hm⟩ : ∃ m, k - i = m + 1 := ⟨k - i - 1, by omega⟩
  rw [hm] at h
  rw [show k - (i + 1) = m by omega, h]
  simp only [undN, if_neg hv, List.drop_drop, Nat.mul_add, Nat.mul_one]
  simp only [Nat.add_assoc]
theorem und_yes {W b k i : Nat} {X : List Nat} (h : UndI W b k X i) (hi : i < k) (hv : bitN b (X.drop ((b + 7) / 8 * i)) < W) : undN W b k X = (bitN b (X.drop ((b + 7) / 8 * i)), 0, (b + 7) / 8 * i + (b + 7) / 8) := by
  unfold UndI at h
  obtain ⟨m, hm⟩ : ∃ m, k - i = m + 1 := ⟨k - i - 1, by omega⟩
  rw [hm] at h
  rw [h]
  simp only [undN, if_pos hv]
theorem und_end {W b k : Nat} {X : List Nat} (h : UndI W b k X k) : undN W b k X = (0, 3, (b + 7) / 8 * k) := by
  unfold UndI at h
  rw [h, Nat.sub_self]
  rfl
theorem und_bd (W b : Nat) : ∀ (k : Nat) (X : List Nat), (undN W b k X).2.2 ≤ (b + 7) / 8 * k
  | 0, _ => Nat.le_refl _
  | k + 1, X => by
    have := und_bd W b k (X.drop ((b + 7) / 8))
    simp only [undN]
    rw [Nat.mul_succ]
    split <;> simp only <;> omega
theorem und_lt {W b : Nat} (hW : W < 2 ^ b) : ∀ (k : Nat) (X : List Nat), (undN W b k X).1 < 2 ^ b
  | 0, _ => Nat.pow_pos (by decide)
  | k + 1, X => by
    simp only [undN]
    split
    · exact bitN_lt b X
    · exact und_lt hW k _
/-- Either none was, or the last one is, and is below. -/
theorem und_ways (W b : Nat) : ∀ (k : Nat) (X : List Nat), (undN W b k X = (0, 3, (b + 7) / 8 * k)) ∨ ((undN W b k X).1 < W ∧ (undN W b k X).2.1 = 0 ∧ ∃ i, i < k ∧ (undN W b k X).2.2 = (b + 7) / 8 * (i + 1))
  | 0, _ => .inl rfl
  | k + 1, X => by
    simp only [undN]
    split
    · rename_i h
      exact .inr ⟨h, rfl, 0, by omega, by simp⟩
    · rcases und_ways W b k (X.drop ((b + 7) / 8)) with h | ⟨h1, h2, i, h3, h4⟩
      · left
        rw [h]
        simp only [Nat.mul_succ, Nat.add_comm]
      · right
        refine ⟨h1, h2, i + 1, by omega, ?_⟩
        simp only [h4, Nat.mul_succ]
        omega
end Go.Proofs.Ythgfjeljfiadmaa
namespace Go.Proofs.Ythgfjeljfiadmaa
open Go.RowKit
theorem en_tnew : Enters Try.prog 10 := fun args w => by simp [go_sem]
theorem en_take : Enters Try.prog 20 := fun args w => by simp [go_sem]
theorem en_tid : Enters Try.prog 36 := fun args w => by simp [go_sem]
theorem en_tunder : Enters Try.prog 30 := fun args w => by simp [go_sem]
theorem en_maybe : Enters Try.prog 42 := fun args w => by simp [go_sem]
theorem en_tbits : Enters Try.prog 43 := fun args w => by simp [go_sem]
/-- A tape: the bytes that are left, how many were taken. -/
abbrev TB (X : List Nat) (u : Nat) : Obj := .cells #[sB X, iN u] 56
set_option maxRecDepth 100000 in
theorem take_any (g n : Nat) (X : List Nat) (u : Nat) (hX : ∀ i, X.getD i 0 < 256) (hu : u < 4611686018427387904) (hn : n ≤ 65536) (w0 : World) (hg : w0.heap[g]? = some (TB X u)) :
    Calls Try.prog 20 #[pT g, iN n] w0 fun e w' => e = .returned (sB (takN n X)) ∧ Turn g (TB (X.drop n) (u + n)) w0 w' := by
  refine enter_fr Try.func20 rfl Try.ntmps20 (by simp) fun ac (FF : Fr 42 ac [(0, pT g), (1, iN n)]) => ?_
  have MM : MemS (fun k => k < w0.heap.size ∧ ∀ x ∈ (g, oC #[sB X, iN u] 56) :: ([] : Blks), x.1 ≠ k) w0 w0 ((g, oC #[sB X, iN u] 56) :: ([] : Blks)) [] := MemS.startN (one_has hg) ⟨fun y hy => (nomatch hy), trivial⟩
  refine wp_seq (rg_c FF MM [(0, t_ (sB []))] 5 [] [] (⟨(by kernel_rfl), fun _ _ FF1 MM1 => then_n ?_⟩))
  refine wp_seq ?_
  refine wp_seq (rg_c FF1 MM1 [(1, f_ (.bool false)), (2, w_ 3), (3, w_ 3)] 5 [15] [] (⟨(ptrSome_ok (t := 31) (t' := 31) (x := (.tmp 6)) (y := (.const (.pointer none))) (by kernel_rfl) rfl rfl Try.underlying31), (by have := hn; omega), (by have := hn; omega), fun _ _ FF2 MM2 => then_n ?_⟩))
  refine wp_cond_false (FF2.ev 0 rfl) ?_
  refine wp_skip ?_
  refine then_n ?_
  refine wp_seq (rg_c FF2 MM2 [(1, n_ (.slice none n n) (.cells (cn .u8 (List.replicate n 0)) 5))] 6 [] [] (⟨(make_ok (t := 63) (e := 5) (p := (.tmp 16)) (q := (.tmp 16)) (by kernel_rfl) rfl rfl Try.underlying63 (by kernel_rfl) (by have := hn; omega)), fun bo => fun _ _ FF3 MM3 => then_n ?_⟩))
  refine wp_mid (fun a' w' => Fr 42 a' [(5, .slice (some ⟨bo, 0, none⟩) n n), (4, sB []), (0, pT g), (1, iN n)] ∧ MemS (fun k => k < w0.heap.size ∧ ∀ x ∈ (g, oC #[sB X, iN u] 56) :: ([] : Blks), x.1 ≠ k) w0 w' ((bo, .cells (cn .u8 (takN n X)) 5) :: (g, oC #[sB (X.drop n), iN u] 56) :: ([] : Blks)) []) ?_ ?_
  · skip
    refine draw_open (N := 15) (by kernel_rfl) (by kernel_rfl) MM3 fun wq4 (MM5 : MemS (fun k => k < w0.heap.size ∧ ∀ x ∈ (g, oC #[sB X, iN u] 56) :: ([] : Blks), x.1 ≠ k) w0 wq4 ((bo, .cells (cn .u8 (List.replicate n 0)) 5) :: (g, oC #[sB X, iN u] 56) :: ([] : Blks)) []) => ?_
    refine take_op FF3 (i := 0) (oi := (opAt Try.f20 4 0)) (v := (pT g)) (d := 18) (by kernel_rfl) (by kernel_rfl) (by kernel_rfl) (by kernel_rfl) (fun _ _ _ _ _ h => h) (by kernel_rfl) (by decide) (by kernel_rfl) (mvV (x := (.tmp 0)) (by kernel_rfl) rfl) fun _ FF6 => ?_
    refine take_op FF6 (i := 1) (oi := (opAt Try.f20 4 1)) (v := (pT g)) (d := 19) (by kernel_rfl) (by kernel_rfl) (by kernel_rfl) (by kernel_rfl) (fun _ _ _ _ _ h => h) (by kernel_rfl) (by decide) (by kernel_rfl) (mvV (x := (.tmp 0)) (by kernel_rfl) rfl) fun _ FF7 => ?_
    refine take_op FF7 (i := 2) (oi := (opAt Try.f20 4 2)) (v := (pT g)) (d := 20) (by kernel_rfl) (by kernel_rfl) (by kernel_rfl) (by kernel_rfl) (fun _ _ _ _ _ h => h) (by kernel_rfl) (by decide) (by kernel_rfl) (nilV (x := (.tmp 19)) (by kernel_rfl) rfl) fun _ FF8 => ?_
    refine take_op FF8 (i := 3) (oi := (opAt Try.f20 4 3)) (v := (pT g)) (d := 21) (by kernel_rfl) (by kernel_rfl) (by kernel_rfl) (by kernel_rfl) (fun _ _ _ _ _ h => h) (by kernel_rfl) (by decide) (by kernel_rfl) (fldV (x := (.tmp 20)) (t := 56) (k := 0) (cs := []) (by kernel_rfl) rfl (by kernel_rfl)) fun _ FF9 => ?_
    refine take_op FF9 (i := 5) (oi := (opAt Try.f20 4 5)) (v := (.slice (some ⟨bo, 0, none⟩) n n)) (d := 23) (by kernel_rfl) (by kernel_rfl) (by kernel_rfl) (by kernel_rfl) (fun _ _ _ _ _ h => h) (by kernel_rfl) (by decide) (by kernel_rfl) (mvV (x := (.tmp 5)) (by kernel_rfl) rfl) fun _ FF10 => ?_
    refine take_op FF10 (i := 6) (oi := (opAt Try.f20 4 6)) (v := (pT g)) (d := 24) (by kernel_rfl) (by kernel_rfl) (by kernel_rfl) (by kernel_rfl) (fun _ _ _ _ _ h => h) (by kernel_rfl) (by decide) (by kernel_rfl) (mvV (x := (.tmp 0)) (by kernel_rfl) rfl) fun _ FF11 => ?_
    refine take_op FF11 (i := 7) (oi := (opAt Try.f20 4 7)) (v := (pT g)) (d := 25) (by kernel_rfl) (by kernel_rfl) (by kernel_rfl) (by kernel_rfl) (fun _ _ _ _ _ h => h) (by kernel_rfl) (by decide) (by kernel_rfl) (nilV (x := (.tmp 24)) (by kernel_rfl) rfl) fun _ FF12 => ?_
    refine take_op FF12 (i := 8) (oi := (opAt Try.f20 4 8)) (v := (pT g)) (d := 26) (by kernel_rfl) (by kernel_rfl) (by kernel_rfl) (by kernel_rfl) (fun _ _ _ _ _ h => h) (by kernel_rfl) (by decide) (by kernel_rfl) (fldV (x := (.tmp 25)) (t := 56) (k := 0) (cs := []) (by kernel_rfl) rfl (by kernel_rfl)) fun _ FF13 => ?_
    refine any_two (i := 4) (oi := (opAt Try.f20 4 4)) (j := 9) (oj := (opAt Try.f20 4 9)) (by kernel_rfl) (by kernel_rfl) (by kernel_rfl) ?_ ?_
    · skip
      refine rp_c 1 FF13 MM5 [(0, l_ 1 (sB X))] 19 [26, 23, 22] [] (⟨rfl, rfl, fun _ _ FF14 MM14 => ?_⟩)
      refine wpl_nil (onN_n ?_)
      refine any_one (i := 9) (o := (opAt Try.f20 4 9)) (by kernel_rfl) (by kernel_rfl) ?_
      refine rp_c 1 FF14 MM14 [(0, l_ 1 (sB X))] 24 [27] [] (⟨rfl, rfl, fun _ _ FF15 MM15 => ?_⟩)
      refine wpl_nil (onN_n ?_)
      refine any_one (i := 10) (o := (opAt Try.f20 4 10)) (by kernel_rfl) (by kernel_rfl) ?_
      refine rp_c 1 FF15 MM15 [(0, r_ (iN (min X.length n)) [(0, .cells (cn .u8 (takN n X)) 5)])] 23 [28] [] (⟨(copyStr_ok (p := .tmp 23) (q := .tmp 27) (t := 63) (tq := 9) (e := 5) (T := 5) (off := 0) (len := n) (X := X) (cs := cn .u8 (List.replicate n 0)) (i := 0) (by kernel_rfl) rfl rfl hX Try.underlying63 (by kernel_rfl) rfl (by rw [cn_size, List.length_replicate, Nat.zero_add]; exact Nat.le_refl _) (tak_cells n X)), fun _ _ FF16 MM16 => ?_⟩)
      refine wpl_nil (onN_n ?_)
      refine any_one (i := 11) (o := (opAt Try.f20 4 11)) (by kernel_rfl) (by kernel_rfl) ?_
      refine rp_c 1 FF16 MM16 [(0, t_ (sB (X.drop n)))] 19 [29] [] (⟨(by simp only [bs_size]; omega), (Nat.zero_le _), (vS2 ((bs_from _ _).trans (congrArg bs (dropX_min X n)))), fun _ _ FF17 MM17 => ?_⟩)
      refine wpl_nil (onN_n ?_)
      refine take_op FF17 (i := 12) (oi := (opAt Try.f20 4 12)) (v := (pT g)) (d := 30) (by kernel_rfl) (by kernel_rfl) (by kernel_rfl) (by kernel_rfl) (fun _ _ _ _ _ h => h) (by kernel_rfl) (by decide) (by kernel_rfl) (nilV (x := (.tmp 18)) (by kernel_rfl) rfl) fun _ FF18 => ?_
      refine take_op FF18 (i := 13) (oi := (opAt Try.f20 4 13)) (v := (pT g)) (d := 31) (by kernel_rfl) (by kernel_rfl) (by kernel_rfl) (by kernel_rfl) (fun _ _ _ _ _ h => h) (by kernel_rfl) (by decide) (by kernel_rfl) (fldV (x := (.tmp 30)) (t := 56) (k := 0) (cs := []) (by kernel_rfl) rfl (by kernel_rfl)) fun _ FF19 => ?_
      refine any_one (i := 14) (o := (opAt Try.f20 4 14)) (by kernel_rfl) (by kernel_rfl) ?_
      refine rp_c 1 FF19 MM17 [(0, s_ 1 (oC #[sB (X.drop n), iN u] 56))] 6 [] [] (⟨rfl, (by simp), (.inl rfl), rfl, fun _ _ FF20 MM20 => ?_⟩)
      refine wpl_nil (onN_n ?_)
      refine any_none (by kernel_rfl) (then_n ?_)
      exact ⟨FF20.pick [0, 1, 2, 3], MM20⟩
    · skip
      refine rp_c 1 FF13 MM5 [(0, l_ 1 (sB X))] 24 [27] [20, 19] (⟨rfl, rfl, fun _ _ FF21 MM21 => ?_⟩)
      refine wpl_nil (onN_n ?_)
      refine any_two (i := 4) (oi := (opAt Try.f20 4 4)) (j := 10) (oj := (opAt Try.f20 4 10)) (by kernel_rfl) (by kernel_rfl) (by kernel_rfl) ?_ ?_
      · skip
        refine rp_c 1 FF21 MM21 [(0, l_ 1 (sB X))] 28 [] [21] (⟨rfl, rfl, fun _ _ FF22 MM22 => ?_⟩)
        refine wpl_nil (onN_n ?_)
        refine any_one (i := 10) (o := (opAt Try.f20 4 10)) (by kernel_rfl) (by kernel_rfl) ?_
        refine rp_c 1 FF22 MM22 [(0, r_ (iN (min X.length n)) [(0, .cells (cn .u8 (takN n X)) 5)])] 23 [28] [] (⟨(copyStr_ok (p := .tmp 23) (q := .tmp 27) (t := 63) (tq := 9) (e := 5) (T := 5) (off := 0) (len := n) (X := X) (cs := cn .u8 (List.replicate n 0)) (i := 0) (by kernel_rfl) rfl rfl hX Try.underlying63 (by kernel_rfl) rfl (by rw [cn_size, List.length_replicate, Nat.zero_add]; exact Nat.le_refl _) (tak_cells n X)), fun _ _ FF23 MM23 => ?_⟩)
        refine wpl_nil (onN_n ?_)
        refine any_one (i := 11) (o := (opAt Try.f20 4 11)) (by kernel_rfl) (by kernel_rfl) ?_
        refine rp_c 1 FF23 MM23 [(0, t_ (sB (X.drop n)))] 19 [29] [] (⟨(by simp only [bs_size]; omega), (Nat.zero_le _), (vS2 ((bs_from _ _).trans (congrArg bs (dropX_min X n)))), fun _ _ FF24 MM24 => ?_⟩)
        refine wpl_nil (onN_n ?_)
        refine take_op FF24 (i := 12) (oi := (opAt Try.f20 4 12)) (v := (pT g)) (d := 30) (by kernel_rfl) (by kernel_rfl) (by kernel_rfl) (by kernel_rfl) (fun _ _ _ _ _ h => h) (by kernel_rfl) (by decide) (by kernel_rfl) (nilV (x := (.tmp 18)) (by kernel_rfl) rfl) fun _ FF25 => ?_
        refine take_op FF25 (i := 13) (oi := (opAt Try.f20 4 13)) (v := (pT g)) (d := 31) (by kernel_rfl) (by kernel_rfl) (by kernel_rfl) (by kernel_rfl) (fun _ _ _ _ _ h => h) (by kernel_rfl) (by decide) (by kernel_rfl) (fldV (x := (.tmp 30)) (t := 56) (k := 0) (cs := []) (by kernel_rfl) rfl (by kernel_rfl)) fun _ FF26 => ?_
        refine any_one (i := 14) (o := (opAt Try.f20 4 14)) (by kernel_rfl) (by kernel_rfl) ?_
        refine rp_c 1 FF26 MM24 [(0, s_ 1 (oC #[sB (X.drop n), iN u] 56))] 6 [] [] (⟨rfl, (by simp), (.inl rfl), rfl, fun _ _ FF27 MM27 => ?_⟩)
        refine wpl_nil (onN_n ?_)
        refine any_none (by kernel_rfl) (then_n ?_)
        exact ⟨FF27.pick [0, 1, 2, 3], MM27⟩
      · skip
        refine rp_c 1 FF21 MM21 [(0, r_ (iN (min X.length n)) [(0, .cells (cn .u8 (takN n X)) 5)])] 22 [28] [] (⟨(copyStr_ok (p := .tmp 23) (q := .tmp 27) (t := 63) (tq := 9) (e := 5) (T := 5) (off := 0) (len := n) (X := X) (cs := cn .u8 (List.replicate n 0)) (i := 0) (by kernel_rfl) rfl rfl hX Try.underlying63 (by kernel_rfl) rfl (by rw [cn_size, List.length_replicate, Nat.zero_add]; exact Nat.le_refl _) (tak_cells n X)), fun _ _ FF28 MM28 => ?_⟩)
        refine wpl_nil (onN_n ?_)
        refine any_one (i := 4) (o := (opAt Try.f20 4 4)) (by kernel_rfl) (by kernel_rfl) ?_
        refine rp_c 1 FF28 MM28 [(0, l_ 1 (sB X))] 29 [] [21] (⟨rfl, rfl, fun _ _ FF29 MM29 => ?_⟩)
        refine wpl_nil (onN_n ?_)
        refine any_one (i := 11) (o := (opAt Try.f20 4 11)) (by kernel_rfl) (by kernel_rfl) ?_
        refine rp_c 1 FF29 MM29 [(0, t_ (sB (X.drop n)))] 19 [29] [] (⟨(by simp only [bs_size]; omega), (Nat.zero_le _), (vS2 ((bs_from _ _).trans (congrArg bs (dropX_min X n)))), fun _ _ FF30 MM30 => ?_⟩)
        refine wpl_nil (onN_n ?_)
        refine take_op FF30 (i := 12) (oi := (opAt Try.f20 4 12)) (v := (pT g)) (d := 30) (by kernel_rfl) (by kernel_rfl) (by kernel_rfl) (by kernel_rfl) (fun _ _ _ _ _ h => h) (by kernel_rfl) (by decide) (by kernel_rfl) (nilV (x := (.tmp 18)) (by kernel_rfl) rfl) fun _ FF31 => ?_
        refine take_op FF31 (i := 13) (oi := (opAt Try.f20 4 13)) (v := (pT g)) (d := 31) (by kernel_rfl) (by kernel_rfl) (by kernel_rfl) (by kernel_rfl) (fun _ _ _ _ _ h => h) (by kernel_rfl) (by decide) (by kernel_rfl) (fldV (x := (.tmp 30)) (t := 56) (k := 0) (cs := []) (by kernel_rfl) rfl (by kernel_rfl)) fun _ FF32 => ?_
        refine any_one (i := 14) (o := (opAt Try.f20 4 14)) (by kernel_rfl) (by kernel_rfl) ?_
        refine rp_c 1 FF32 MM30 [(0, s_ 1 (oC #[sB (X.drop n), iN u] 56))] 6 [] [] (⟨rfl, (by simp), (.inl rfl), rfl, fun _ _ FF33 MM33 => ?_⟩)
        refine wpl_nil (onN_n ?_)
        refine any_none (by kernel_rfl) (then_n ?_)
        exact ⟨FF33.pick [0, 1, 2, 3], MM33⟩
  · rintro ac34 wd34 ⟨FF34, MM34⟩
    refine wp_seq (rg_c FF34 MM34 [(3, l_ 1 (iN u)), (4, s_ 1 (oC #[sB (X.drop n), iN (u + n)] 56))] 6 [] [] (⟨rfl, rfl, (by have := hn; omega), rfl, (by simp), (.inl rfl), rfl, fun _ _ FF35 MM35 => then_n ?_⟩))
    refine wp_seq (rg_c FF35 MM35 [(1, l_ 0 (sB (takN n X)))] 6 [] [] (⟨rfl, (str_all (takN_len _ _) (takN_lt hX n)), fun _ _ FF36 MM36 => then_n ?_⟩))
    refine wp_ret ?_
    repeat first | refine then_ret ?_ | refine inb_ret ?_
    exact (ret_fr FF36 0 Try.results20 rfl ⟨rfl, MM36.turn (O := []) (fun i x hx => by simp at hx) 1 rfl (fun x hx => (nomatch hx))⟩)
theorem turn_below {w w' : World} {g : Nat} {ob : Obj} (hg : w.heap[g]? = some ob) (t : Turn g ob w w') : Below w.heap.size w w' := ⟨t.os, t.tape, t.output, t.size, fun k hk => by
  by_cases e : k = g
  · subst e; exact t.now.trans hg.symm
  · exact t.block k hk e⟩
set_option maxRecDepth 100000 in
theorem tid_any (g : Nat) (X : List Nat) (u : Nat) (hX : ∀ i, X.getD i 0 < 256) (hu : u < 4611686018427387904)  (w0 : World) (hg : w0.heap[g]? = some (TB X u)) :
    Calls Try.prog 36 #[pT g] w0 fun e w' => e = .returned (.agg (cn .u8 (takN 16 X))) ∧ Turn g (TB (X.drop 16) (u + 16)) w0 w' := by
  refine enter_fr Try.func36 rfl Try.ntmps36 (by simp) fun ac (FF : Fr 9 ac [(0, pT g)]) => ?_
  have MM : MemS (fun k => k < w0.heap.size ∧ ∀ x ∈ (g, oC #[sB X, iN u] 56) :: ([] : Blks), x.1 ≠ k) w0 w0 ((g, oC #[sB X, iN u] 56) :: ([] : Blks)) [] := MemS.startN (one_has hg) ⟨fun y hy => (nomatch hy), trivial⟩
  refine wp_seq (rg_c FF MM [(0, s_ 0 (.cells (cn .u8 (List.replicate 16 0)) 68))] 3 [] [] (⟨(by kernel_rfl), fun br => fun _ _ FF1 MM1 => then_n ?_⟩))
  refine wp_seq (rg_c FF1 MM1 [(0, s_ 0 (.cells (cn .u8 (List.replicate 16 0)) 68))] 4 [] [] (⟨(by kernel_rfl), fun bk => fun _ _ FF2 MM2 => then_n ?_⟩))
  refine wp_mid (fun a' w' => Fr 9 a' [(3, pT bk), (2, pT br)] ∧ MemS (fun k => k < w0.heap.size ∧ ∀ x ∈ (g, oC #[sB X, iN u] 56) :: ([] : Blks), x.1 ≠ k) w0 w' ((bk, .cells (cn .u8 (takN 16 X)) 68) :: (br, .cells (cn .u8 (List.replicate 16 0)) 68) :: (g, oC #[sB (X.drop 16), iN (u + 16)] 56) :: ([] : Blks)) []) ?_ ?_
  · skip
    refine draw_open (N := 4) (by kernel_rfl) (by kernel_rfl) MM2 fun wq3 (MM4 : MemS (fun k => k < w0.heap.size ∧ ∀ x ∈ (g, oC #[sB X, iN u] 56) :: ([] : Blks), x.1 ≠ k) w0 wq3 ((bk, .cells (cn .u8 (List.replicate 16 0)) 68) :: (br, .cells (cn .u8 (List.replicate 16 0)) 68) :: (g, oC #[sB X, iN u] 56) :: ([] : Blks)) []) => ?_
    refine take_op FF2 (i := 1) (oi := (opAt Try.f36 2 1)) (v := (pT g)) (d := 5) (by kernel_rfl) (by kernel_rfl) (by kernel_rfl) (by kernel_rfl) (fun _ _ _ _ _ h => h) (by kernel_rfl) (by decide) (by kernel_rfl) (mvV (x := (.tmp 0)) (by kernel_rfl) rfl) fun _ FF5 => ?_
    refine any_two (i := 0) (oi := (opAt Try.f36 2 0)) (j := 2) (oj := (opAt Try.f36 2 2)) (by kernel_rfl) (by kernel_rfl) (by kernel_rfl) ?_ ?_
    · skip
      refine rp_c 1 FF5 MM4 [] 6 [] [0] (⟨by decide, by decide, by decide, fun _ _ FF6 MM6 => ?_⟩)
      refine wpl_nil (onN_n ?_)
      refine any_one (i := 2) (o := (opAt Try.f36 2 2)) (by kernel_rfl) (by kernel_rfl) ?_
      refine rp_c 1 FF6 MM6 [(0, c_ (sB (takN 16 X)) [(2, oC #[sB (X.drop 16), iN (u + 16)] 56)])] 5 [6] [] (⟨(callU_turn en_take (g := g) (ob := TB X u) rfl fun w hg => by have h0 := take_any g 16 X u hX (by omega) (by decide) w hg; exact h0), fun _ _ FF7 MM7 => ?_⟩)
      refine wpl_nil (onN_n ?_)
      refine any_one (i := 3) (o := (opAt Try.f36 2 3)) (by kernel_rfl) (by kernel_rfl) ?_
      refine rp_c 1 FF7 MM7 [(0, r_ (iN (min (takN 16 X).length 16)) [(0, .cells (cn .u8 (takN 16 X)) 68)])] 4 [] [] (⟨(copyStr_ok (p := .tmp 4) (q := .tmp 6) (t := 63) (tq := 9) (e := 5) (T := 68) (off := 0) (len := 16) (X := takN 16 X) (cs := cn .u8 (List.replicate 16 0)) (i := 0) (by kernel_rfl) rfl rfl (takN_lt hX 16) Try.underlying63 (by kernel_rfl) rfl (by rw [cn_size, List.length_replicate]; decide) (by rw [List.take_of_length_le (by rw [takN_len]; decide)]; exact setFrom_new8 (by rw [List.length_replicate, takN_len]))), fun _ _ FF8 MM8 => ?_⟩)
      refine wpl_nil (onN_n ?_)
      refine any_none (by kernel_rfl) (then_n ?_)
      exact ⟨FF8.pick [0, 1], MM8⟩
    · skip
      refine rp_c 1 FF5 MM4 [(0, c_ (sB (takN 16 X)) [(2, oC #[sB (X.drop 16), iN (u + 16)] 56)])] 4 [6] [0] (⟨(callU_turn en_take (g := g) (ob := TB X u) rfl fun w hg => by have h0 := take_any g 16 X u hX (by omega) (by decide) w hg; exact h0), fun _ _ FF9 MM9 => ?_⟩)
      refine wpl_nil (onN_n ?_)
      refine any_one (i := 0) (o := (opAt Try.f36 2 0)) (by kernel_rfl) (by kernel_rfl) ?_
      refine rp_c 1 FF9 MM9 [] 7 [] [] (⟨by decide, by decide, by decide, fun _ _ FF10 MM10 => ?_⟩)
      refine wpl_nil (onN_n ?_)
      refine any_one (i := 3) (o := (opAt Try.f36 2 3)) (by kernel_rfl) (by kernel_rfl) ?_
      refine rp_c 1 FF10 MM10 [(0, r_ (iN (min (takN 16 X).length 16)) [(0, .cells (cn .u8 (takN 16 X)) 68)])] 4 [] [] (⟨(copyStr_ok (p := .tmp 4) (q := .tmp 6) (t := 63) (tq := 9) (e := 5) (T := 68) (off := 0) (len := 16) (X := takN 16 X) (cs := cn .u8 (List.replicate 16 0)) (i := 0) (by kernel_rfl) rfl rfl (takN_lt hX 16) Try.underlying63 (by kernel_rfl) rfl (by rw [cn_size, List.length_replicate]; decide) (by rw [List.take_of_length_le (by rw [takN_len]; decide)]; exact setFrom_new8 (by rw [List.length_replicate, takN_len]))), fun _ _ FF11 MM11 => ?_⟩)
      refine wpl_nil (onN_n ?_)
      refine any_none (by kernel_rfl) (then_n ?_)
      exact ⟨FF11.pick [0, 1], MM11⟩
  · rintro ac12 wd12 ⟨FF12, MM12⟩
    refine wp_seq (rg_c FF12 MM12 [(0, b_ 0), (0, b_ 1)] 4 [] [] (⟨rfl, ((cn_size _ _).trans (takN_len _ _)), rfl, ((cn_size _ _).trans (List.length_replicate ..)), ((cn_size _ _).trans (takN_len _ _)), (cn_one _ _), rfl, fun _ _ FF13 MM13 => then_n ?_⟩))
    refine wp_ret ?_
    repeat first | refine then_ret ?_ | refine inb_ret ?_
    exact (retc FF13 MM13 (k := 16) (i := 1) (j := 1) Try.results36 rfl rfl Try.underlying68 rfl (by kernel_rfl) ((cn_size _ _).trans (takN_len _ _)) ⟨rfl, MM13.turn (O := []) (fun i x hx => by simp at hx) 2 rfl (fun x hx => (nomatch hx))⟩)
end Go.Proofs.Ythgfjeljfiadmaa
namespace Go.Proofs.Ythgfjeljfiadmaa
open Go.RowKit
/-- A tape that was made. -/
def NewT (X : List Nat) (w w' : World) (v : Value) : Prop := ∃ g, v = pT g ∧ Below w.heap.size w w' ∧ w.heap.size ≤ g ∧ w'.heap[g]? = some (TB X 0)
set_option maxRecDepth 100000 in
theorem tnew_any (X : List Nat) (w0 : World) : Calls Try.prog 10 #[sB X] w0 fun e w' => ∃ v, e = .returned v ∧ NewT X w0 w' v := by
  refine enter_fr Try.func10 rfl Try.ntmps10 (by simp) fun ac (FF : Fr 6 ac [(0, sB X)]) => ?_
  have MM := MemS.start w0
  refine wp_seq (rg_c FF MM [] 3 [] [] (fun _ _ FF1 MM1 => then_n ?_))
  refine wp_seq (rg_c FF1 MM1 [(1, t_ (aG #[sB X, iN 0]))] 0 [2] [] (⟨(by kernel_rfl), fun bt => fun _ _ FF2 MM2 => then_n ?_⟩))
  refine wp_ret ?_
  repeat first | refine then_ret ?_ | refine inb_ret ?_
  exact (ret_fr FF2 0 Try.results10 rfl ⟨_, rfl, bt, rfl, MM2.below, MM2.fresh 0 rfl, MM2.get 0 rfl⟩)
set_option maxRecDepth 100000 in
theorem maybe_yes (k : Nat) (h1 : k ≥ 1) (hk : k ≤ 16) (w0 : World) :
    Calls Try.prog 42 #[iN k] w0 fun e w' => e = .returned (.bool true) ∧ Below w0.heap.size w0 w' := by
  refine enter_fr Try.func42 rfl Try.ntmps42 (by simp) fun ac (FF : Fr 9 ac [(0, iN k)]) => ?_
  have MM := MemS.start w0
  refine wp_seq (rg_c FF MM [] 3 [] [] (fun _ _ FF1 MM1 => then_n ?_))
  refine wp_seq (rg_c FF1 MM1 [(1, w_ 2), (2, w_ 2)] 0 [2] [] (⟨h1, hk, fun _ _ FF2 MM2 => then_n ?_⟩))
  refine wp_ret ?_
  repeat first | refine then_ret ?_ | refine inb_ret ?_
  exact (ret_fr FF2 0 Try.results42 rfl ⟨rfl, MM2.below⟩)
set_option maxRecDepth 100000 in
theorem maybe_lo (z : Int) (hz : z < 1) (w0 : World) :
    Calls Try.prog 42 #[.int .i64 z] w0 fun e w' => e = .returned (.bool false) ∧ Below w0.heap.size w0 w' := by
  refine enter_fr Try.func42 rfl Try.ntmps42 (by simp) fun ac (FF : Fr 9 ac [(0, .int .i64 (z : Int))]) => ?_
  have MM := MemS.start w0
  refine wp_seq (rg_c FF MM [] 3 [] [] (fun _ _ FF1 MM1 => then_n ?_))
  refine wp_seq (rg_c FF1 MM1 [(1, u_ 4 (.bool false))] 0 [2] [] (⟨(dec_f (by omega)), fun _ _ FF2 MM2 => then_n ?_⟩))
  refine wp_ret ?_
  repeat first | refine then_ret ?_ | refine inb_ret ?_
  exact (ret_fr FF2 0 Try.results42 rfl ⟨rfl, MM2.below⟩)
set_option maxRecDepth 100000 in
theorem maybe_hi (z : Int) (hz : z > 16) (w0 : World) :
    Calls Try.prog 42 #[.int .i64 z] w0 fun e w' => e = .returned (.bool false) ∧ Below w0.heap.size w0 w' := by
  refine enter_fr Try.func42 rfl Try.ntmps42 (by simp) fun ac (FF : Fr 9 ac [(0, .int .i64 (z : Int))]) => ?_
  have MM := MemS.start w0
  refine wp_seq (rg_c FF MM [] 3 [] [] (fun _ _ FF1 MM1 => then_n ?_))
  refine wp_seq (rg_c FF1 MM1 [(1, w_ 6), (2, u_ 4 (.bool false))] 0 [2] [] (⟨by omega, (dec_f (by omega)), fun _ _ FF2 MM2 => then_n ?_⟩))
  refine wp_ret ?_
  repeat first | refine then_ret ?_ | refine inb_ret ?_
  exact (ret_fr FF2 0 Try.results42 rfl ⟨rfl, MM2.below⟩)
end Go.Proofs.Ythgfjeljfiadmaa
namespace Go.Proofs.Ythgfjeljfiadmaa
open Go.RowKit
theorem strY_rep {Y : List Nat} {c n : Nat} (hl : Y.length = n) (hY : ∀ i, Y.getD i 0 < 256) : StrAt (cn .u8 (Y ++ List.replicate c 0)) 0 n (bs Y) := by
  have h5 := str_part (X := Y ++ List.replicate c 0) (n := Y.length + c) (off := 0) (len := n) (by simp) (rep_lt hY c) (by omega)
  rw [List.drop_zero, ← hl, List.take_left] at h5
  rw [hl] at h5
  exact h5
theorem setY_rep {Y : List Nat} {c i x : Nat} (h : i < Y.length) : (Y ++ List.replicate c 0).set i x = Y.set i x ++ List.replicate c 0 := List.set_append_left _ _ h
theorem setY_lt {Y : List Nat} {i x : Nat} (hY : ∀ i, Y.getD i 0 < 256) (hx : x < 256) : ∀ j, (Y.set i x).getD j 0 < 256 := fun j => by
  rw [getD_set]; split
  · exact hx
  · exact hY j
set_option maxRecDepth 100000 in
theorem tbits_any (g : Nat) (X : List Nat) (u : Nat) (hX : ∀ i, X.getD i 0 < 256) (hu : u < 4611686018427387904) (b : Nat) (hb1 : 1 ≤ b) (hb : b ≤ 1024) (w0 : World) (hg : w0.heap[g]? = some (TB X u)) :
    Calls Try.prog 43 #[pT g, iN b] w0 fun e w' => ∃ v, e = .returned (.agg #[nv (bitN b X) v]) ∧ Turn g (TB (X.drop ((b + 7) / 8)) (u + (b + 7) / 8)) w0 w' ∧ NatNew w0.heap.size w' (nv (bitN b X) v) (bitN b X) := by
  refine enter_fr Try.func43 rfl Try.ntmps43 (by simp) fun ac (FF : Fr 29 ac [(0, pT g), (1, iN b)]) => ?_
  have MM : MemS (fun k => k < w0.heap.size ∧ ∀ x ∈ (g, oC #[sB X, iN u] 56) :: ([] : Blks), x.1 ≠ k) w0 w0 ((g, oC #[sB X, iN u] 56) :: ([] : Blks)) [] := MemS.startN (one_has hg) ⟨fun y hy => (nomatch hy), trivial⟩
  have hmk : (takN ((b + 7) / 8) X).getD ((b + 7) / 8 - 1) 0 &&& 255 / 2 ^ (8 * ((b + 7) / 8) - b) < 256 := Nat.lt_of_le_of_lt Nat.and_le_left (takN_lt hX _ _)
  have hY2 := setY_lt (i := (b + 7) / 8 - 1) (takN_lt hX ((b + 7) / 8)) hmk
  refine wp_seq (rg_c FF MM [] 5 [] [] (fun br => fun _ _ FF1 MM1 => then_n ?_))
  refine wp_seq (wp_region_list ?_)
  refine rp_c 5 FF1 MM1 [(4, c_ (sB (takN ((b + 7) / 8) X)) [(1, oC #[sB (X.drop ((b + 7) / 8)), iN (u + ((b + 7) / 8))] 56)])] 5 [10] [0] (⟨(by have := hb; omega), by decide, (by have := hb; omega), (callU_turn en_take (g := g) (ob := TB X u) rfl fun w hg => by have h0 := take_any g ((b + 7) / 8) X u hX (by omega) (by omega) w hg; exact h0), fun _ _ FF2 MM2 => ?_⟩)
  refine st_new [4, 1, 11] FF2 MM2 (d := 11) (bytes_ok (e := 5) (x := (.tmp 10)) (by kernel_rfl) rfl (takN_lt hX ((b + 7) / 8)) Try.underlying9 Try.underlying63 Try.underlying5) rfl rfl (by decide) fun ac3 wd3 bs_ cz FF3 MM3 => ?_
  refine rp_c 1 FF3 MM3 [] 6 [] [] (fun _ _ FF4 MM4 => ?_)
  refine wpl_nil (then_n ?_)
  refine wp_seq (rg_dc 14 FF4 MM4 [(2, t_ (iN ((b + 7) / 8))), (1, w_ 1), (0, l_ 0 (iB ((takN ((b + 7) / 8) X).getD ((b + 7) / 8 - 1) 0))), (1, t_ (iN ((b + 7) / 8))), (5, w_ 1)] [(0, s_ 0 (.cells (cn .u8 ((takN ((b + 7) / 8) X).set ((b + 7) / 8 - 1) ((takN ((b + 7) / 8) X).getD ((b + 7) / 8 - 1) 0 &&& 255 / 2 ^ (8 * ((b + 7) / 8) - b)) ++ List.replicate cz 0)) 5))] 6 [] [] (⟨(vI (takN_len _ _)), by omega, by omega, (by rw [takN_len]; omega), rfl, ((cn_get _ _ _ (by rw [List.length_append, takN_len]; omega)).trans (congrArg some (vI (getD_app_l _ _ _ (by rw [takN_len]; omega))))), (vI (takN_len _ _)), by omega, (by have := hb; omega), (by have := hb; omega), (by show _ ≤ 8; have := hb; omega), (takN_lt hX _ _), (Nat.lt_of_le_of_lt (Nat.div_le_self _ _) (by decide)), (by rw [takN_len]; omega), rfl, (by rw [cn_size, List.length_append, takN_len]; omega), (.inr (by rw [takN_len]; show _ < _; omega)), ((cn_set _ _ _ _).trans (congrArg _ (setY_rep (by rw [takN_len]; omega)))), fun _ _ FF5 MM5 => then_n ?_⟩))
  refine wp_seq (wp_region_list ?_)
  refine rp_c 2 FF5 MM5 [(1, l_ 0 (sB ((takN ((b + 7) / 8) X).set ((b + 7) / 8 - 1) ((takN ((b + 7) / 8) X).getD ((b + 7) / 8 - 1) 0 &&& 255 / 2 ^ (8 * ((b + 7) / 8) - b)))))] 6 [27] [] (⟨rfl, (strY_rep (by rw [List.length_set]) hY2), fun _ wd6 FF6 MM6 => ?_⟩)
  refine st_callE [5, 4, 1, 28] FF6 (d := 28) (mk := fun v => .agg #[nv (bitN b X) v]) en_nbytes rfl rfl (by have h0 := nbytes_any ((takN ((b + 7) / 8) X).set ((b + 7) / 8 - 1) ((takN ((b + 7) / 8) X).getD ((b + 7) / 8 - 1) 0 &&& 255 / 2 ^ (8 * ((b + 7) / 8) - b))) hY2 (by rw [List.length_set, takN_len]; omega) wd6; rw [bit_tape hX hb1] at h0; exact h0) rfl (by kernel_rfl) (by decide) fun ac8 wd8 lv7 FF8 hr9 => ?_
  have hfr := hr9.2.2
  have hsz := MM6.size
  obtain ⟨O10, MM110, hN12, hs13⟩ := MemS.addNats (K := [(bs_, .cells (cn .u8 ((takN ((b + 7) / 8) X).set ((b + 7) / 8 - 1) ((takN ((b + 7) / 8) X).getD ((b + 7) / 8 - 1) 0 &&& 255 / 2 ^ (8 * ((b + 7) / 8) - b)) ++ List.replicate cz 0)) 5 ((takN ((b + 7) / 8) X).length + cz, (takN ((b + 7) / 8) X).length + cz + 1)), (br, oC #[.slice none 0 0] 76), (g, oC #[sB (X.drop ((b + 7) / 8)), iN (u + ((b + 7) / 8))] 56)]) (O := ([] : Blks)) MM6 hr9.1 hr9.2 (Nats.nil ([] : Blks))
  have MM11 : MemS (fun k => k < w0.heap.size ∧ ∀ x ∈ (g, oC #[sB X, iN u] 56) :: ([] : Blks), x.1 ≠ k) w0 wd8 ((bs_, .cells (cn .u8 ((takN ((b + 7) / 8) X).set ((b + 7) / 8 - 1) ((takN ((b + 7) / 8) X).getD ((b + 7) / 8 - 1) 0 &&& 255 / 2 ^ (8 * ((b + 7) / 8) - b)) ++ List.replicate cz 0)) 5 ((takN ((b + 7) / 8) X).length + cz, (takN ((b + 7) / 8) X).length + cz + 1)) :: (br, oC #[.slice none 0 0] 76) :: (g, oC #[sB (X.drop ((b + 7) / 8)), iN (u + ((b + 7) / 8))] 56) :: O10) [] := MM110
  refine rp_c 1 FF8 MM11 [(0, b_ 1)] 6 [] [] (⟨rfl, rfl, rfl, (by kernel_rfl), rfl, fun _ _ FF14 MM14 => ?_⟩)
  refine wpl_nil (then_n ?_)
  refine wp_ret ?_
  repeat first | refine then_ret ?_ | refine inb_ret ?_
  exact (retc FF14 MM14 (k := 1) (i := 1) (j := 1) Try.results43 rfl rfl Try.underlying76 rfl (by kernel_rfl) rfl ⟨lv7, rfl, MM14.turn (O := []) (fun i x hx => by simp at hx) 2 rfl (fun x hx => (nomatch hx)), (hN12.get 0 rfl).at (Has.tl (Has.tl (Has.tl MM14.hasL))), fun q hq => Nat.le_trans hsz (hfr q hq)⟩)
set_option maxRecDepth 100000 in
theorem tunder_O (g : Nat) (X : List Nat) (u : Nat) (hX : ∀ i, X.getD i 0 < 256) (hu : u < 4611686018427000000) (N : Nat) (y : Value) (k : Nat) (O : Blks) (hN : NatO O (nv N y) N) (h1 : 1 ≤ bsz N) (hb : bsz N ≤ 1024) (hk1 : 1 ≤ k) (hk : k ≤ 16) (w0 : World) (H : Has w0 ((g, TB X u) :: O)) (hD : Distinct ((g, TB X u) :: O)) :
    Calls Try.prog 30 #[pT g, .agg #[nv N y], iN k] w0 fun e w' => ∃ v, e = .returned (.tuple #[.agg #[nv (undN N (bsz N) k X).1 v], iN ((undN N (bsz N) k X).2.1)]) ∧ Turn g (TB (X.drop (undN N (bsz N) k X).2.2) (u + (undN N (bsz N) k X).2.2)) w0 w' ∧ NatNew w0.heap.size w' (nv (undN N (bsz N) k X).1 v) (undN N (bsz N) k X).1 := by
  refine enter_fr Try.func30 rfl Try.ntmps30 (by simp) fun ac (FF : Fr 41 ac [(0, pT g), (1, aG #[nv N y]), (2, iN k)]) => ?_
  have MM : MemS (fun k => k < w0.heap.size ∧ ∀ x ∈ (g, oC #[sB X, iN u] 56) :: O, x.1 ≠ k) w0 w0 ((g, oC #[sB X, iN u] 56) :: O) [] := MemS.startN H hD
  have hs : qsz N < 1000000 := Nat.lt_of_le_of_lt (qsz_le (n := 16) (Nat.lt_of_lt_of_le (bsz_ok N).1 (Nat.le_trans (Nat.pow_le_pow_right (by decide) hb) (by decide +kernel)))) (by decide)
  refine wp_seq (rg_c FF MM [] 8 [] [1] (fun bw => fun br => fun _ _ FF1 MM1 => then_n ?_))
  refine wp_seq (rg_c FF1 MM1 [(0, b_ 1), (0, u_ 1 (iN (bsz N)))] 9 [] [] (⟨rfl, rfl, ⟨en_nbits, fun w Hw => nbits_any N y hs w (hN.at (Has.tl (Has.tl (Has.tl Hw))))⟩, fun _ _ FF2 MM2 => then_n ?_⟩))
  refine wp_seq ?_
  refine wp_seq (rg_c FF2 MM2 [(1, f_ (.bool false)), (2, w_ 3), (3, w_ 3), (3, t_ (.bool true))] 9 [26] [] (⟨(ptrSome_ok (t := 31) (t' := 31) (x := (.tmp 12)) (y := (.const (.pointer none))) (by kernel_rfl) rfl rfl Try.underlying31), by omega, by omega, (callP_of en_maybe (maybe_yes k (by omega) (by omega)) _), fun _ _ FF3 MM3 => then_n ?_⟩))
  refine wp_cond_false (FF3.ev 0 rfl) ?_
  refine wp_skip ?_
  refine then_n ?_
  refine wp_seq ?_
  refine wp_seq (rg_c FF3 MM3 [] 30 [] [26] (fun _ _ FF4 MM4 => then_n ?_))
  refine wp_for (fun a' w' => ∃ O1 : Blks, ∃ i : Nat, i ≤ k ∧ (∀ x ∈ O, x ∈ O1) ∧ UndI N (bsz N) k X i ∧ Fr 41 a' [(29, iN i), (28, iN k), (8, iN (bsz N)), (6, pT br), (4, pT bw), (0, pT g), (2, iN k)] ∧ MemS (fun k => k < w0.heap.size ∧ ∀ x ∈ (g, oC #[sB X, iN u] 56) :: O, x.1 ≠ k) w0 w' ((br, oC #[.slice none 0 0] 76) :: (bw, oC #[nv N y] 76) :: (g, oC #[sB (X.drop ((bsz N + 7) / 8 * i)), iN (u + (bsz N + 7) / 8 * i)] 56) :: O1) []) (fun a' _ => (k - cnt 29 a').toNat) ⟨O, 0, Nat.zero_le _, (fun _ h => h), und_start _ _ _ _, FF4.pick [0, 1, 2, 4, 5, 6, 7], MM4⟩ ?_
  rintro ac5 wd5 ⟨O1, i, hi, hsb, hI, FF5, MM5⟩
  have hN1 := hN.mono hsb
  have hc := cnt_of (FF5.get 0 rfl)
  refine rg_c FF5 MM5 [] 31 [] [] (fun _ _ FF6 MM6 => ?_)
  by_cases hlt : i < k
  · skip
    refine then_n (.inl ⟨(FF6.ev 0 rfl).trans (dec_t hlt), ?_⟩)
    have hmi : (bsz N + 7) / 8 * i ≤ 129 * 16 := Nat.mul_le_mul (by omega) (by omega)
    have hui : u + (bsz N + 7) / 8 * i < 4611686018427387904 := by omega
    refine wp_seq (wp_region_list ?_)
    refine rp_c 2 FF6 MM6 [] 33 [] [30] (fun _ wd7 FF7 MM7 => ?_)
    refine st_callE [29, 28, 8, 6, 4, 0, 2, 33] FF7 (d := 33) (mk := fun v => .agg #[nv (bitN (bsz N) (X.drop ((bsz N + 7) / 8 * i))) v]) en_tbits rfl rfl (tbits_any g (X.drop ((bsz N + 7) / 8 * i)) (u + (bsz N + 7) / 8 * i) (dropX_lt hX _) hui (bsz N) h1 hb _ (MM7.get 2 rfl)) rfl (by kernel_rfl) (by decide) fun ac9 wd9 lv8 FF9 hr10 => ?_
    obtain ⟨ht9, hn9⟩ := hr10
    rw [List.drop_drop] at ht9
    have ht9 : Turn g (TB (X.drop ((bsz N + 7) / 8 * (i + 1))) (u + (bsz N + 7) / 8 * (i + 1))) wd7 wd9 := by rw [Nat.mul_succ, ← Nat.add_assoc]; exact ht9
    have MM11 : MemS (fun k => k < w0.heap.size ∧ ∀ x ∈ (g, oC #[sB X, iN u] 56) :: O, x.1 ≠ k) w0 wd9 ((br, oC #[.slice none 0 0] 76) :: (bw, oC #[nv N y] 76) :: (g, oC #[sB (X.drop ((bsz N + 7) / 8 * (i + 1))), iN (u + (bsz N + 7) / 8 * (i + 1))] 56) :: O1) [] := MM7.turnAt ht9 2 rfl
    have hfr := hn9.2
    have hsz := MM7.size
    obtain ⟨O12, MM130, hN14, hs15⟩ := MemS.addNatsT (K := [(br, oC #[.slice none 0 0] 76), (bw, oC #[nv N y] 76), (g, oC #[sB (X.drop ((bsz N + 7) / 8 * (i + 1))), iN (u + (bsz N + 7) / 8 * (i + 1))] 56)]) (O := O1) MM7 MM11 rfl hn9 (Nats.nil O1)
    have MM13 : MemS (fun k => k < w0.heap.size ∧ ∀ x ∈ (g, oC #[sB X, iN u] 56) :: O, x.1 ≠ k) w0 wd9 ((br, oC #[.slice none 0 0] 76) :: (bw, oC #[nv N y] 76) :: (g, oC #[sB (X.drop ((bsz N + 7) / 8 * (i + 1))), iN (u + (bsz N + 7) / 8 * (i + 1))] 56) :: O12) [] := MM130
    have hN0_16 := hN1.mono hs15
    have hz17 : ∀ x ∈ O, x ∈ O12 := fun x hx => hs15 x (hsb x hx)
    refine rp_c 2 FF9 MM13 [(1, b_ 0)] 30 [] [] (fun bv => ⟨rfl, rfl, rfl, (by kernel_rfl), rfl, fun _ _ FF18 MM18 => ?_⟩)
    refine wpl_nil (then_n ?_)
    have hsv : qsz (bitN (bsz N) (X.drop ((bsz N + 7) / 8 * i))) < 1000000 := Nat.lt_of_le_of_lt (qsz_le (n := 16) (Nat.lt_of_lt_of_le (bitN_lt _ _) (Nat.le_trans (Nat.pow_le_pow_right (by decide) hb) (by decide +kernel)))) (by decide)
    refine wp_seq (rg_c FF18 MM18 [(0, b_ 0), (0, b_ 2), (0, u_ 1 (.int .i64 (cmpN (bitN (bsz N) (X.drop ((bsz N + 7) / 8 * i))) N : Int))), (0, w_ 4)] 30 [37] [] (⟨rfl, rfl, rfl, rfl, ⟨en_ncmp, fun w Hw => ncmp_any (bitN (bsz N) (X.drop ((bsz N + 7) / 8 * i))) lv8 hsv N y w ((hN14.get 0 rfl).at (Has.tl (Has.tl (Has.tl (Has.tl Hw))))) (hN0_16.at (Has.tl (Has.tl (Has.tl (Has.tl Hw)))))⟩, fun _ _ FF19 MM19 => then_n ?_⟩))
    by_cases hs37 : (cmpN (bitN (bsz N) (X.drop ((bsz N + 7) / 8 * i))) N) < ((0 : Nat) : Int)
    · refine wp_cond_true ((FF19.ev 0 rfl).trans (dec_t hs37)) ?_
      have hE := und_yes hI hlt ((cmp_neg _ _).1 hs37)
      refine wp_seq (rg_c FF19 MM19 [(0, b_ 0), (0, b_ 1)] 30 [] [] (⟨rfl, rfl, rfl, rfl, rfl, (by kernel_rfl), rfl, fun _ _ FF20 MM20 => then_n ?_⟩))
      refine wp_ret ?_
      repeat first | refine then_ret ?_ | refine inb_ret ?_
      exact (ret_ct FF20 MM20 (k := 1) (i := 1) (j := 5) (m := 0) Try.results30 rfl rfl rfl Try.underlying76 rfl (by kernel_rfl) rfl (by rw [hE]; exact ⟨lv8, rfl, MM20.turn (Has.tl H) 3 rfl (fun _ hx => List.mem_cons_of_mem _ (List.mem_cons_of_mem _ (List.mem_cons_of_mem _ (List.mem_cons_of_mem _ (hz17 _ hx))))), (hN14.get 0 rfl).at (Has.tl (Has.tl (Has.tl (Has.tl MM20.hasL)))), fun q hq => Nat.le_trans hsz (hfr q hq)⟩))
    · refine wp_cond_false ((FF19.ev 0 rfl).trans (dec_f hs37)) ?_
      have hno := fun h => hs37 ((cmp_neg _ _).2 h)
      refine wp_skip ?_
      refine inb_n (then_n ?_)
      refine rg_c FF19 MM19 [] 30 [] [] (⟨by omega, fun _ _ FF21 MM21 => ?_⟩)
      have hd := cnt_of (FF21.get 0 rfl)
      refine then_n ⟨⟨O12, i + 1, by omega, hz17, und_no hI hlt hno, FF21.pick [0, 2, 3, 4, 5, 6, 7], (MM21.dropAt 0)⟩, ?_⟩
      rw [hc, hd]; omega
  · skip
    refine then_n (.inr ⟨(FF6.ev 0 rfl).trans (dec_f hlt), ?_⟩)
    have hik : i = k := by omega
    subst hik
    have hE := und_end hI
    refine then_n ?_
    refine wp_seq (rg_c FF6 MM6 [(0, t_ (aG #[.slice none 0 0])), (0, b_ 0)] 30 [] [] (⟨(by kernel_rfl), rfl, rfl, rfl, (by kernel_rfl), rfl, fun _ _ FF22 MM22 => then_n ?_⟩))
    refine wp_ret ?_
    repeat first | refine then_ret ?_ | refine inb_ret ?_
    exact (ret_ct FF22 MM22 (k := 1) (i := 0) (j := 4) (m := 0) Try.results30 rfl rfl rfl Try.underlying76 rfl (by kernel_rfl) rfl (by rw [hE]; exact ⟨.slice none 0 0, rfl, MM22.turn (Has.tl H) 2 rfl (fun _ hx => List.mem_cons_of_mem _ (List.mem_cons_of_mem _ (List.mem_cons_of_mem _ (hsb _ hx)))), natNew_nil _ _⟩))
theorem tunder_any (g : Nat) (X : List Nat) (u : Nat) (hX : ∀ i, X.getD i 0 < 256) (hu : u < 4611686018427000000) (N : Nat) (y : Value) (k : Nat) (h1 : 1 ≤ bsz N) (hb : bsz N ≤ 1024) (hk1 : 1 ≤ k) (hk : k ≤ 16) (w0 : World) (hg : w0.heap[g]? = some (TB X u)) (hN : NatIn w0 (nv N y) N) (hne : ∀ g', (nv N y).ownBlock = some g' → g' ≠ g) :
    Calls Try.prog 30 #[pT g, .agg #[nv N y], iN k] w0 fun e w' => ∃ v, e = .returned (.tuple #[.agg #[nv (undN N (bsz N) k X).1 v], iN ((undN N (bsz N) k X).2.1)]) ∧ Turn g (TB (X.drop (undN N (bsz N) k X).2.2) (u + (undN N (bsz N) k X).2.2)) w0 w' ∧ NatNew w0.heap.size w' (nv (undN N (bsz N) k X).1 v) (undN N (bsz N) k X).1 := by
  obtain ⟨O, q1, q2, q3⟩ := nat1_sep hN hg hne
  exact tunder_O g X u hX hu N y k O q3 h1 hb hk1 hk w0 q1 q2
end Go.Proofs.Ythgfjeljfiadmaa
namespace Go.Proofs.Ythgfjeljfiadmaa
open Go.RowKit
set_option maxRecDepth 100000 in
theorem tunder_tloO (O : Blks) (hD : Distinct O) (g : Nat) (N : Nat) (y : Value) (hN : NatO O (nv N y) N) (hs : qsz N < 1000000) (t : Int) (h1 : 1 ≤ bsz N) (hb : bsz N ≤ 1024) (hz : t < 1)  (w0 : World) (H : Has w0 O) :
    Calls Try.prog 30 #[pT g, .agg #[nv N y], .int .i64 t] w0 fun e w' => e = .returned (.tuple #[.agg #[.slice none 0 0], iN 1]) ∧ Below w0.heap.size w0 w' := by
  refine enter_fr Try.func30 rfl Try.ntmps30 (by simp) fun ac (FF : Fr 41 ac [(0, pT g), (1, aG #[nv N y]), (2, .int .i64 (t : Int))]) => ?_
  have MM : MemS (fun k => k < w0.heap.size ∧ ∀ x ∈ O, x.1 ≠ k) w0 w0 O [] := MemS.startN H hD
  refine wp_seq (rg_c FF MM [] 8 [] [1] (fun bw => fun br => fun _ _ FF1 MM1 => then_n ?_))
  refine wp_seq (rg_c FF1 MM1 [(0, b_ 1), (0, u_ 1 (iN (bsz N)))] 9 [] [] (⟨rfl, rfl, ⟨en_nbits, fun w Hw => nbits_any N y hs w (hN.at (Has.tl (Has.tl Hw)))⟩, fun _ _ FF2 MM2 => then_n ?_⟩))
  refine wp_seq ?_
  refine wp_seq (rg_c FF2 MM2 [(1, f_ (.bool false)), (2, w_ 3), (3, w_ 3), (3, t_ (.bool false))] 9 [26] [] (⟨(ptrSome_ok (t := 31) (t' := 31) (x := (.tmp 12)) (y := (.const (.pointer none))) (by kernel_rfl) rfl rfl Try.underlying31), by omega, by omega, (callP_of en_maybe (maybe_lo t hz) _), fun _ _ FF3 MM3 => then_n ?_⟩))
  refine wp_cond_true (FF3.ev 0 rfl) ?_
  refine wp_seq (rg_c FF3 MM3 [(0, t_ (aG #[.slice none 0 0])), (0, b_ 0)] 9 [] [] (⟨(by kernel_rfl), rfl, rfl, rfl, (by kernel_rfl), rfl, fun _ _ FF4 MM4 => then_n ?_⟩))
  refine wp_ret ?_
  repeat first | refine then_ret ?_ | refine inb_ret ?_
  exact (ret_ct FF4 MM4 (k := 1) (i := 0) (j := 2) (m := 0) Try.results30 rfl rfl rfl Try.underlying76 rfl (by kernel_rfl) rfl ⟨rfl, MM4.belowN H (fun _ hx => List.mem_cons_of_mem _ (List.mem_cons_of_mem _ (hx)))⟩)
theorem tunder_tlo (g : Nat) (N : Nat) (y : Value) (hs : qsz N < 1000000) (t : Int) (h1 : 1 ≤ bsz N) (hb : bsz N ≤ 1024) (hz : t < 1) (w : World) (hN : NatIn w (nv N y) N) : Calls Try.prog 30 #[pT g, .agg #[nv N y], .int .i64 t] w fun e w' => e = .returned (.tuple #[.agg #[.slice none 0 0], iN 1]) ∧ Below w.heap.size w w' := by
  obtain ⟨O, h1_, h2_, h3_⟩ := nat1_O hN
  exact tunder_tloO O h2_ g N y h3_ hs t h1 hb hz w h1_
set_option maxRecDepth 100000 in
theorem tunder_thiO (O : Blks) (hD : Distinct O) (g : Nat) (N : Nat) (y : Value) (hN : NatO O (nv N y) N) (hs : qsz N < 1000000) (t : Int) (h1 : 1 ≤ bsz N) (hb : bsz N ≤ 1024) (hz : t > 16)  (w0 : World) (H : Has w0 O) :
    Calls Try.prog 30 #[pT g, .agg #[nv N y], .int .i64 t] w0 fun e w' => e = .returned (.tuple #[.agg #[.slice none 0 0], iN 1]) ∧ Below w0.heap.size w0 w' := by
  refine enter_fr Try.func30 rfl Try.ntmps30 (by simp) fun ac (FF : Fr 41 ac [(0, pT g), (1, aG #[nv N y]), (2, .int .i64 (t : Int))]) => ?_
  have MM : MemS (fun k => k < w0.heap.size ∧ ∀ x ∈ O, x.1 ≠ k) w0 w0 O [] := MemS.startN H hD
  refine wp_seq (rg_c FF MM [] 8 [] [1] (fun bw => fun br => fun _ _ FF1 MM1 => then_n ?_))
  refine wp_seq (rg_c FF1 MM1 [(0, b_ 1), (0, u_ 1 (iN (bsz N)))] 9 [] [] (⟨rfl, rfl, ⟨en_nbits, fun w Hw => nbits_any N y hs w (hN.at (Has.tl (Has.tl Hw)))⟩, fun _ _ FF2 MM2 => then_n ?_⟩))
  refine wp_seq ?_
  refine wp_seq (rg_c FF2 MM2 [(1, f_ (.bool false)), (2, w_ 3), (3, w_ 3), (3, t_ (.bool false))] 9 [26] [] (⟨(ptrSome_ok (t := 31) (t' := 31) (x := (.tmp 12)) (y := (.const (.pointer none))) (by kernel_rfl) rfl rfl Try.underlying31), by omega, by omega, (callP_of en_maybe (maybe_hi t hz) _), fun _ _ FF3 MM3 => then_n ?_⟩))
  refine wp_cond_true (FF3.ev 0 rfl) ?_
  refine wp_seq (rg_c FF3 MM3 [(0, t_ (aG #[.slice none 0 0])), (0, b_ 0)] 9 [] [] (⟨(by kernel_rfl), rfl, rfl, rfl, (by kernel_rfl), rfl, fun _ _ FF4 MM4 => then_n ?_⟩))
  refine wp_ret ?_
  repeat first | refine then_ret ?_ | refine inb_ret ?_
  exact (ret_ct FF4 MM4 (k := 1) (i := 0) (j := 2) (m := 0) Try.results30 rfl rfl rfl Try.underlying76 rfl (by kernel_rfl) rfl ⟨rfl, MM4.belowN H (fun _ hx => List.mem_cons_of_mem _ (List.mem_cons_of_mem _ (hx)))⟩)
theorem tunder_thi (g : Nat) (N : Nat) (y : Value) (hs : qsz N < 1000000) (t : Int) (h1 : 1 ≤ bsz N) (hb : bsz N ≤ 1024) (hz : t > 16) (w : World) (hN : NatIn w (nv N y) N) : Calls Try.prog 30 #[pT g, .agg #[nv N y], .int .i64 t] w fun e w' => e = .returned (.tuple #[.agg #[.slice none 0 0], iN 1]) ∧ Below w.heap.size w w' := by
  obtain ⟨O, h1_, h2_, h3_⟩ := nat1_O hN
  exact tunder_thiO O h2_ g N y h3_ hs t h1 hb hz w h1_
set_option maxRecDepth 100000 in
theorem tunder_nilO (O : Blks) (hD : Distinct O) (N : Nat) (y : Value) (hN : NatO O (nv N y) N) (hs : qsz N < 1000000) (t : Int)  (w0 : World) (H : Has w0 O) :
    Calls Try.prog 30 #[.pointer none, .agg #[nv N y], .int .i64 t] w0 fun e w' => e = .returned (.tuple #[.agg #[.slice none 0 0], iN 1]) ∧ Below w0.heap.size w0 w' := by
  refine enter_fr Try.func30 rfl Try.ntmps30 (by simp) fun ac (FF : Fr 41 ac [(0, .pointer none), (1, aG #[nv N y]), (2, .int .i64 (t : Int))]) => ?_
  have MM : MemS (fun k => k < w0.heap.size ∧ ∀ x ∈ O, x.1 ≠ k) w0 w0 O [] := MemS.startN H hD
  refine wp_seq (rg_c FF MM [] 8 [] [1] (fun bw => fun br => fun _ _ FF1 MM1 => then_n ?_))
  refine wp_seq (rg_c FF1 MM1 [(0, b_ 1), (0, u_ 1 (iN (bsz N)))] 9 [] [] (⟨rfl, rfl, ⟨en_nbits, fun w Hw => nbits_any N y hs w (hN.at (Has.tl (Has.tl Hw)))⟩, fun _ _ FF2 MM2 => then_n ?_⟩))
  refine wp_seq ?_
  refine wp_seq (rg_c FF2 MM2 [(1, f_ (.bool true))] 9 [26] [] (⟨(ptrNil_ok (t := 31) (t' := 31) (x := (.tmp 12)) (y := (.const (.pointer none))) (by kernel_rfl) rfl rfl Try.underlying31), fun _ _ FF3 MM3 => then_n ?_⟩))
  refine wp_cond_true (FF3.ev 0 rfl) ?_
  refine wp_seq (rg_c FF3 MM3 [(0, t_ (aG #[.slice none 0 0])), (0, b_ 0)] 9 [] [] (⟨(by kernel_rfl), rfl, rfl, rfl, (by kernel_rfl), rfl, fun _ _ FF4 MM4 => then_n ?_⟩))
  refine wp_ret ?_
  repeat first | refine then_ret ?_ | refine inb_ret ?_
  exact (ret_ct FF4 MM4 (k := 1) (i := 0) (j := 2) (m := 0) Try.results30 rfl rfl rfl Try.underlying76 rfl (by kernel_rfl) rfl ⟨rfl, MM4.belowN H (fun _ hx => List.mem_cons_of_mem _ (List.mem_cons_of_mem _ (hx)))⟩)
theorem tunder_nil (N : Nat) (y : Value) (hs : qsz N < 1000000) (t : Int) (w : World) (hN : NatIn w (nv N y) N) : Calls Try.prog 30 #[.pointer none, .agg #[nv N y], .int .i64 t] w fun e w' => e = .returned (.tuple #[.agg #[.slice none 0 0], iN 1]) ∧ Below w.heap.size w w' := by
  obtain ⟨O, h1_, h2_, h3_⟩ := nat1_O hN
  exact tunder_nilO O h2_ N y h3_ hs t  w h1_
end Go.Proofs.Ythgfjeljfiadmaa
namespace Go.Proofs.Ythgfjeljfiadmaa
open Go.RowKit
/-- What may be a table: a ratio, a reach, a middle. -/
def TOk (a b r m : Nat) : Prop := 1 ≤ b ∧ b < a ∧ a ≤ 16 ∧ r ≤ m ∧ m + r ≤ 8
/-- The weight of a number. -/
def wgZ (a b r m : Nat) (n : Int) : Nat := if (m : Int) - r ≤ n ∧ n ≤ m + r then b ^ (n - m).natAbs * a ^ (r - (n - m).natAbs) else 0
/-- Those of the first i numbers together. -/
def toN (a b r m : Nat) : Nat → Nat
  | 0 => 0
  | i + 1 => toN a b r m i + wgZ a b r m ((m - r + i : Nat) : Int)
theorem wg_in {a b r m : Nat} {n : Int} (h : (m : Int) - r ≤ n) (h2 : n ≤ m + r) : wgZ a b r m n = b ^ (n - m).natAbs * a ^ (r - (n - m).natAbs) := if_pos ⟨h, h2⟩
theorem wg_lo {a b r m : Nat} {n : Int} (h : n < (m : Int) - r) : wgZ a b r m n = 0 := if_neg fun q => by omega
theorem wg_hi {a b r m : Nat} {n : Int} (h : n > (m : Int) + r) : wgZ a b r m n = 0 := if_neg fun q => by omega
theorem pow16 {a d : Nat} (h : a ≤ 16) : a ^ d ≤ 16 ^ d := Nat.pow_le_pow_left h d
theorem wg_le {a b r m : Nat} (hk : TOk a b r m) (n : Int) : wgZ a b r m n ≤ 65536 := by
  obtain ⟨h1, h2, h3, h4, h5⟩ := hk
  unfold wgZ
  split
  · rename_i h
    have e : 16 ^ (n - m).natAbs * 16 ^ (r - (n - m).natAbs) = 16 ^ r := by rw [← Nat.pow_add]; congr 1; omega
    have h6 : 16 ^ r ≤ 16 ^ 4 := Nat.pow_le_pow_right (by decide) (by omega)
    exact Nat.le_trans (Nat.mul_le_mul (pow16 (by omega)) (pow16 h3)) (by rw [e]; exact h6)
  · exact Nat.zero_le _
theorem wg_pos {a b r m : Nat} (hk : TOk a b r m) {n : Int} (h : (m : Int) - r ≤ n) (h2 : n ≤ m + r) : 0 < wgZ a b r m n := by
  rw [wg_in h h2]; exact Nat.mul_pos (Nat.pow_pos (by have := hk.1; omega)) (Nat.pow_pos (by have := hk.2.1; omega))
theorem wgi_pos {a b r m : Nat} (hk : TOk a b r m) {i : Nat} (h : i < 2 * r + 1) : 0 < wgZ a b r m ((m - r + i : Nat) : Int) := wg_pos hk (by have := hk.2.2.2.1; omega) (by have := hk.2.2.2.1; omega)
theorem to_le {a b r m : Nat} (hk : TOk a b r m) : ∀ i, toN a b r m i ≤ 65536 * i
  | 0 => Nat.le_refl _
  | i + 1 => by have := to_le hk i; have := wg_le hk ((m - r + i : Nat) : Int); rw [toN]; omega
theorem to_mono (a b r m : Nat) : ∀ {i j : Nat}, i ≤ j → toN a b r m i ≤ toN a b r m j
  | i, 0, h => by rw [Nat.le_zero.1 h]; exact Nat.le_refl _
  | i, j + 1, h => by
    rcases Nat.lt_or_ge j i with h1 | h1
    · rw [show i = j + 1 by omega]; exact Nat.le_refl _
    · exact Nat.le_trans (to_mono a b r m h1) (Nat.le_add_right _ _)
theorem to_pos {a b r m : Nat} (hk : TOk a b r m) : 1 ≤ toN a b r m (2 * r + 1) := Nat.le_trans (Nat.lt_of_lt_of_le (wgi_pos hk (i := 2 * r) (by omega)) (Nat.le_add_left _ _)) (Nat.le_refl _)
theorem to_small {a b r m : Nat} (hk : TOk a b r m) {i : Nat} (h : i ≤ 9) : toN a b r m i < 1048576 := by have := to_le hk i; omega
/-- At which number a word stands, the first i left out. -/
def atN (a b r m w : Nat) : Nat → Nat → Nat
  | 0, i => i
  | k + 1, i => if w < toN a b r m (i + 1) then i else atN a b r m w k (i + 1)
theorem atw_of {a b r m w i : Nat} (h1 : toN a b r m i ≤ w) (h2 : w < toN a b r m (i + 1)) : ∀ {k j : Nat}, j ≤ i → i < j + k → atN a b r m w k j = i
  | 0, j, hj, hk => by omega
  | k + 1, j, hj, hk => by
    rw [atN]
    rcases Nat.lt_or_ge j i with h | h
    · rw [if_neg (Nat.not_lt.2 (Nat.le_trans (to_mono a b r m h) h1))]; exact atw_of h1 h2 h (by omega)
    · obtain rfl : j = i := by omega
      exact if_pos h2
theorem atw_find {a b r m w : Nat} : ∀ {k : Nat}, w < toN a b r m k → ∃ i, i < k ∧ toN a b r m i ≤ w ∧ w < toN a b r m (i + 1)
  | 0, h => (Nat.not_lt_zero _ h).elim
  | k + 1, h => by
    rcases Nat.lt_or_ge w (toN a b r m k) with h1 | h1
    · obtain ⟨i, h2, h3⟩ := atw_find h1
      exact ⟨i, by omega, h3⟩
    · exact ⟨k, Nat.lt_succ_self _, h1, h⟩
/-- The number of a word. -/
def aN (a b r m w : Nat) : Nat := if w < toN a b r m (2 * r + 1) then m - r + atN a b r m w (2 * r + 1) 0 else 0
theorem a_yes {a b r m w i : Nat} (hi : i < 2 * r + 1) (h1 : toN a b r m i ≤ w) (h2 : w < toN a b r m (i + 1)) : aN a b r m w = m - r + i := by
  rw [aN, if_pos (Nat.lt_of_lt_of_le h2 (to_mono a b r m hi)), atw_of h1 h2 (Nat.zero_le _) (by omega)]
theorem a_no {a b r m w : Nat} (h : toN a b r m (2 * r + 1) ≤ w) : aN a b r m w = 0 := if_neg (Nat.not_lt.2 h)
theorem atw_lt {a b r m w i : Nat} (hi : i < 2 * r + 1) (h2 : w < toN a b r m (i + 1)) : w < toN a b r m (2 * r + 1) := Nat.lt_of_lt_of_le h2 (to_mono a b r m hi)
end Go.Proofs.Ythgfjeljfiadmaa
namespace Go.Proofs.Ythgfjeljfiadmaa
open Go.RowKit
theorem qok {N : Nat} (h : N < 18446744073709551616 ^ 100) : qsz N < 1000000 := Nat.lt_of_le_of_lt (qsz_le h) (by decide)
theorem qok4 {N : Nat} (h : N < 18446744073709551616 ^ 100) : qsz N < 10000 := Nat.lt_of_le_of_lt (qsz_le h) (by decide)
theorem qok3 {N : Nat} (h : N < 18446744073709551616 ^ 100) : qsz N ≤ 1000 := Nat.le_trans (qsz_le h) (by decide)
theorem prN2 (a b : Nat) : prN [a, b] = a * b := by simp [prN]
end Go.Proofs.Ythgfjeljfiadmaa
namespace Go.Proofs.Ythgfjeljfiadmaa
open Go.RowKit
theorem en_kleast : Enters Try.prog 15 := fun args w => by simp [go_sem]
theorem en_kmost : Enters Try.prog 16 := fun args w => by simp [go_sem]
theorem en_kcount : Enters Try.prog 45 := fun args w => by simp [go_sem]
theorem en_kpower : Enters Try.prog 64 := fun args w => by simp [go_sem]
theorem en_kweight : Enters Try.prog 47 := fun args w => by simp [go_sem]
theorem en_ktotal : Enters Try.prog 31 := fun args w => by simp [go_sem]
theorem en_kat : Enters Try.prog 32 := fun args w => by simp [go_sem]
theorem en_kdraw : Enters Try.prog 19 := fun args w => by simp [go_sem]
theorem en_knew : Enters Try.prog 21 := fun args w => by simp [go_sem]
theorem en_kratio : Enters Try.prog 33 := fun args w => by simp [go_sem]
theorem en_kspan : Enters Try.prog 34 := fun args w => by simp [go_sem]
/-- A table: its ratio, its reach, its middle. -/
abbrev KB (a b r m : Nat) : Obj := .cells #[iN a, iN b, iN r, iN m] 65
def KO (O : Blks) (g a b r m : Nat) : Prop := (g, KB a b r m) ∈ O
theorem KO.mono {O O' : Blks} {g a b r m : Nat} (h : KO O g a b r m) (hs : ∀ x ∈ O, x ∈ O') : KO O' g a b r m := hs _ h
theorem KO.at {w : World} {O : Blks} {g a b r m : Nat} (h : KO O g a b r m) (H : Has w O) : w.heap[g]? = some (KB a b r m) := Has.mem H h
set_option maxRecDepth 100000 in
theorem kleast_T (g : Nat) (a b r m : Nat) (hk : TOk a b r m)  (w0 : World) (hg : w0.heap[g]? = some (KB a b r m)) :
    Calls Try.prog 15 #[pT g] w0 fun e w' => e = .returned (iN (m - r)) ∧ Turn g (KB a b r m) w0 w' := by
  have ⟨k1, k2, k3, k4, k5⟩ := hk
  refine enter_fr Try.func15 rfl Try.ntmps15 (by simp) fun ac (FF : Fr 14 ac [(0, pT g)]) => ?_
  have MM : MemS (fun k => k < w0.heap.size ∧ ∀ x ∈ (g, oC #[iN a, iN b, iN r, iN m] 65) :: ([] : Blks), x.1 ≠ k) w0 w0 ((g, oC #[iN a, iN b, iN r, iN m] 65) :: ([] : Blks)) [] := MemS.startN (one_has hg) ⟨fun y hy => (nomatch hy), trivial⟩
  refine wp_seq (rg_c FF MM [] 3 [] [] (fun _ _ FF1 MM1 => then_n ?_))
  refine wp_seq ?_
  refine wp_seq (rg_c FF1 MM1 [(1, f_ (.bool false))] 3 [4] [] (⟨(ptrSome_ok (t := 27) (t' := 27) (x := (.tmp 3)) (y := (.const (.pointer none))) (by kernel_rfl) rfl rfl Try.underlying27), fun _ _ FF2 MM2 => then_n ?_⟩))
  refine wp_cond_false (FF2.ev 0 rfl) ?_
  refine wp_skip ?_
  refine then_n ?_
  refine wp_seq (rg_dc 10 FF2 MM2 [(3, l_ 0 (iN m)), (3, l_ 0 (iN r))] [] 3 [] [] (⟨rfl, rfl, rfl, rfl, by omega, by omega, fun _ _ FF3 MM3 => then_n ?_⟩))
  refine wp_ret ?_
  repeat first | refine then_ret ?_ | refine inb_ret ?_
  exact (ret_fr FF3 0 Try.results15 rfl ⟨rfl, MM3.turn (O := []) (fun i x hx => by simp at hx) 0 rfl (fun x hx => (nomatch hx))⟩)
theorem kleast_any (g : Nat) (a b r m : Nat) (hk : TOk a b r m) (w : World) (hg : w.heap[g]? = some (KB a b r m)) : Calls Try.prog 15 #[pT g] w fun e w' => e = .returned (iN (m - r)) ∧ Below w.heap.size w w' := (kleast_T g a b r m hk w hg).mono fun _ _ ⟨h1, h2⟩ => ⟨h1, turn_below hg h2⟩
set_option maxRecDepth 100000 in
theorem kmost_T (g : Nat) (a b r m : Nat) (hk : TOk a b r m)  (w0 : World) (hg : w0.heap[g]? = some (KB a b r m)) :
    Calls Try.prog 16 #[pT g] w0 fun e w' => e = .returned (iN (m + r)) ∧ Turn g (KB a b r m) w0 w' := by
  have ⟨k1, k2, k3, k4, k5⟩ := hk
  refine enter_fr Try.func16 rfl Try.ntmps16 (by simp) fun ac (FF : Fr 14 ac [(0, pT g)]) => ?_
  have MM : MemS (fun k => k < w0.heap.size ∧ ∀ x ∈ (g, oC #[iN a, iN b, iN r, iN m] 65) :: ([] : Blks), x.1 ≠ k) w0 w0 ((g, oC #[iN a, iN b, iN r, iN m] 65) :: ([] : Blks)) [] := MemS.startN (one_has hg) ⟨fun y hy => (nomatch hy), trivial⟩
  refine wp_seq (rg_c FF MM [] 3 [] [] (fun _ _ FF1 MM1 => then_n ?_))
  refine wp_seq ?_
  refine wp_seq (rg_c FF1 MM1 [(1, f_ (.bool false))] 3 [4] [] (⟨(ptrSome_ok (t := 27) (t' := 27) (x := (.tmp 3)) (y := (.const (.pointer none))) (by kernel_rfl) rfl rfl Try.underlying27), fun _ _ FF2 MM2 => then_n ?_⟩))
  refine wp_cond_false (FF2.ev 0 rfl) ?_
  refine wp_skip ?_
  refine then_n ?_
  refine wp_seq (rg_dc 10 FF2 MM2 [(3, l_ 0 (iN m)), (3, l_ 0 (iN r))] [] 3 [] [] (⟨rfl, rfl, rfl, rfl, by omega, fun _ _ FF3 MM3 => then_n ?_⟩))
  refine wp_ret ?_
  repeat first | refine then_ret ?_ | refine inb_ret ?_
  exact (ret_fr FF3 0 Try.results16 rfl ⟨rfl, MM3.turn (O := []) (fun i x hx => by simp at hx) 0 rfl (fun x hx => (nomatch hx))⟩)
theorem kmost_any (g : Nat) (a b r m : Nat) (hk : TOk a b r m) (w : World) (hg : w.heap[g]? = some (KB a b r m)) : Calls Try.prog 16 #[pT g] w fun e w' => e = .returned (iN (m + r)) ∧ Below w.heap.size w w' := (kmost_T g a b r m hk w hg).mono fun _ _ ⟨h1, h2⟩ => ⟨h1, turn_below hg h2⟩
set_option maxRecDepth 100000 in
theorem kcount_T (g : Nat) (a b r m : Nat) (hk : TOk a b r m)  (w0 : World) (hg : w0.heap[g]? = some (KB a b r m)) :
    Calls Try.prog 45 #[pT g] w0 fun e w' => e = .returned (iN (2 * r + 1)) ∧ Turn g (KB a b r m) w0 w' := by
  have ⟨k1, k2, k3, k4, k5⟩ := hk
  refine enter_fr Try.func45 rfl Try.ntmps45 (by simp) fun ac (FF : Fr 11 ac [(0, pT g)]) => ?_
  have MM : MemS (fun k => k < w0.heap.size ∧ ∀ x ∈ (g, oC #[iN a, iN b, iN r, iN m] 65) :: ([] : Blks), x.1 ≠ k) w0 w0 ((g, oC #[iN a, iN b, iN r, iN m] 65) :: ([] : Blks)) [] := MemS.startN (one_has hg) ⟨fun y hy => (nomatch hy), trivial⟩
  refine wp_seq (rg_c FF MM [] 3 [] [] (fun _ _ FF1 MM1 => then_n ?_))
  refine wp_seq ?_
  refine wp_seq (rg_c FF1 MM1 [(1, f_ (.bool false))] 3 [4] [] (⟨(ptrSome_ok (t := 27) (t' := 27) (x := (.tmp 3)) (y := (.const (.pointer none))) (by kernel_rfl) rfl rfl Try.underlying27), fun _ _ FF2 MM2 => then_n ?_⟩))
  refine wp_cond_false (FF2.ev 0 rfl) ?_
  refine wp_skip ?_
  refine then_n ?_
  refine wp_seq (rg_c FF2 MM2 [(3, l_ 0 (iN r))] 3 [] [] (⟨rfl, rfl, by omega, by omega, fun _ _ FF3 MM3 => then_n ?_⟩))
  refine wp_ret ?_
  repeat first | refine then_ret ?_ | refine inb_ret ?_
  exact (ret_fr FF3 0 Try.results45 rfl ⟨rfl, MM3.turn (O := []) (fun i x hx => by simp at hx) 0 rfl (fun x hx => (nomatch hx))⟩)
theorem kcount_any (g : Nat) (a b r m : Nat) (hk : TOk a b r m) (w : World) (hg : w.heap[g]? = some (KB a b r m)) : Calls Try.prog 45 #[pT g] w fun e w' => e = .returned (iN (2 * r + 1)) ∧ Below w.heap.size w w' := (kcount_T g a b r m hk w hg).mono fun _ _ ⟨h1, h2⟩ => ⟨h1, turn_below hg h2⟩
end Go.Proofs.Ythgfjeljfiadmaa
namespace Go.Proofs.Ythgfjeljfiadmaa
open Go.RowKit
theorem bsz5 {a : Nat} (h : a ≤ 16) : bsz a ≤ 5 := bsz_le (by omega)
theorem pow_tab {a n : Nat} (ha : a ≤ 16) (hn : n ≤ 8) : PowOk a n := by
  have h := bsz5 ha
  rcases Nat.eq_zero_or_pos (bsz a) with e | e
  · exact .inl e
  · refine .inr (Nat.le_trans (Nat.le_trans hn (by decide : 8 ≤ 65536 / 5)) ?_)
    exact Nat.div_le_div_left h e
theorem b100 {N : Nat} (h : N < 18446744073709551616) : N < 18446744073709551616 ^ 100 := Nat.lt_of_lt_of_le h (Nat.le_self_pow (by decide) _)
theorem pow_lt16 {a n : Nat} (ha : a ≤ 16) (hn : n ≤ 8) : a ^ n < 18446744073709551616 := Nat.lt_of_le_of_lt (Nat.le_trans (pow16 ha) (Nat.pow_le_pow_right (by decide) hn)) (by decide)
set_option maxRecDepth 100000 in
theorem kpower_O (O : Blks) (hD : Distinct O) (a n : Nat) (ha : a ≤ 16) (hn : n ≤ 8) (w0 : World) (H : Has w0 O) :
    Calls Try.prog 64 #[iN a, iN n] w0 fun e w' => ∃ v, e = .returned (.agg #[nv (a ^ n) v]) ∧ Below w0.heap.size w0 w' ∧ NatNew w0.heap.size w' (nv (a ^ n) v) (a ^ n) := by
  refine enter_fr Try.func64 rfl Try.ntmps64 (by simp) fun ac (FF : Fr 16 ac [(0, iN a), (1, iN n)]) => ?_
  have MM : MemS (fun k => k < w0.heap.size ∧ ∀ x ∈ O, x.1 ≠ k) w0 w0 O [] := MemS.startN H hD
  refine wp_seq (rg_c FF MM [] 5 [] [] (fun br => fun _ _ FF1 MM1 => then_n ?_))
  refine wp_seq (wp_region_list ?_)
  refine rp_c 2 FF1 MM1 [(1, w_ 1)] 5 [9] [0] (⟨by omega, fun _ _ FF2 MM2 => ?_⟩)
  refine st_callE [4, 1, 10] FF2 (d := 10) (mk := fun v => .agg #[nv (a) v]) en_nof rfl rfl (nof_any a (by omega) _) rfl (by kernel_rfl) (by decide) fun ac4 wd4 lv3 FF4 hr5 => ?_
  obtain ⟨O6, MM70, hN8, hs9⟩ := MemS.addNats (K := [(br, oC #[.slice none 0 0] 76)]) (O := O) MM2 hr5.1 hr5.2 (Nats.nil O)
  have MM7 : MemS (fun k => k < w0.heap.size ∧ ∀ x ∈ O, x.1 ≠ k) w0 wd4 ((br, oC #[.slice none 0 0] 76) :: O6) [] := MM70
  refine rp_c 1 FF4 MM7 [] 12 [] [1] (fun _ _ FF10 MM10 => ?_)
  refine st_callE [4, 12] FF10 (d := 12) (mk := fun v => .tuple #[.agg #[nv (a ^ n) v], iN 0]) en_npow rfl rfl (npow_ok a lv3 (qok4 (b100 (by omega))) n (pow_tab ha hn) (by omega) _ ((hN8.get 0 rfl).at (Has.tl MM10.hasL))) rfl (by kernel_rfl) (by decide) fun ac12 wd12 lv11 FF12 hr13 => ?_
  have hfr14 : ∀ g, (nv (a ^ n) lv11).ownBlock = some g → w0.heap.size ≤ g := fun g hg => Nat.le_trans MM10.size (hr13.2.2 g hg)
  obtain ⟨O15, MM160, hN17, hs18⟩ := MemS.addNats (K := [(br, oC #[.slice none 0 0] 76)]) (O := O6) MM10 hr13.1 hr13.2 hN8
  have MM16 : MemS (fun k => k < w0.heap.size ∧ ∀ x ∈ O, x.1 ≠ k) w0 wd12 ((br, oC #[.slice none 0 0] 76) :: O15) [] := MM160
  have hz19 : ∀ x ∈ O, x ∈ O15 := fun x hx => hs18 x (hs9 x hx)
  refine rp_c 6 FF12 MM16 [(4, b_ 0)] 6 [] [] (fun bp => ⟨rfl, rfl, rfl, (by kernel_rfl), rfl, fun _ _ FF20 MM20 => ?_⟩)
  refine wpl_nil (then_n ?_)
  refine wp_seq (rg_c FF20 MM20 [(0, b_ 0), (0, b_ 1)] 6 [] [] (⟨rfl, rfl, rfl, rfl, rfl, (by kernel_rfl), rfl, fun _ _ FF21 MM21 => then_n ?_⟩))
  refine wp_ret ?_
  repeat first | refine then_ret ?_ | refine inb_ret ?_
  exact (retc FF21 MM21 (k := 1) (i := 1) (j := 1) Try.results64 rfl rfl Try.underlying76 rfl (by kernel_rfl) rfl ⟨lv11, rfl, MM21.belowN H (fun _ hx => List.mem_cons_of_mem _ (List.mem_cons_of_mem _ (hz19 _ hx))), ⟨(hN17.get 0 rfl).at (Has.tl (Has.tl MM21.hasL)), hfr14⟩⟩)
theorem kpower_any (a n : Nat) (ha : a ≤ 16) (hn : n ≤ 8) (w0 : World) : Calls Try.prog 64 #[iN a, iN n] w0 fun e w' => ∃ v, e = .returned (.agg #[nv (a ^ n) v]) ∧ Below w0.heap.size w0 w' ∧ NatNew w0.heap.size w' (nv (a ^ n) v) (a ^ n) := kpower_O [] trivial a n ha hn w0 (fun i x hx => by simp at hx)
theorem max_ok {P : Program} {l : Slots} {L : Blks} {o : Oper} {t u : TypeId} {x y : Operand} {p q z : Int} (ho : o.op = .call ⟨.builtin .max, #[x, y], #[t, u]⟩) (hx : evO l x = some (.int .i64 p)) (hy : evO l y = some (.int .i64 q)) (hz : max p q = z) : RunV P l L o (.int .i64 z) := fun ρ w Ag _ => by
  have h1 := Ag x _ hx
  have h2 := Ag y _ hy
  simp [execOp, ho, resolve, invoke, builtin, h1, h2, Lib.run_max_ints, hz]
/-- A row of numbers. -/
def RowNs (w : World) (p : Option Addr) (ns : List Nat) : Prop := ∃ xs, NatsIn w p ns xs
theorem rowNs_st (ns : List Nat) : ∀ (v : Value) (w w' : World), RowNs w (pOf v) ns → Below w.heap.size w w' → RowNs w' (pOf v) ns := fun _ _ _ ⟨xs, h⟩ hb => ⟨xs, h.keep hb⟩
theorem nadd2r {p : Option Addr} (M N : Nat) (hs : M + N < 18446744073709551616 ^ 100) (w0 : World) (h : RowNs w0 p [M, N]) : Calls Try.prog 46 #[.slice p 2 2] w0 fun e w' => ∃ v, e = .returned (.agg #[nv (M + N) v]) ∧ Below w0.heap.size w0 w' ∧ NatNew w0.heap.size w' (nv (M + N) v) (M + N) := by
  obtain ⟨xs, h⟩ := h
  exact nadd_any p 2 [M, N] xs (qok (by simpa using hs)) (show 2 < 1000 by decide) w0 h
theorem nmul2r {p : Option Addr} (M N : Nat) (hM : M < 18446744073709551616 ^ 100) (hN : N < 18446744073709551616 ^ 100) (w0 : World) (h : RowNs w0 p [M, N]) : Calls Try.prog 63 #[.slice p 2 2] w0 fun e w' => ∃ v, e = .returned (.agg #[nv (M * N) v]) ∧ Below w0.heap.size w0 w' ∧ NatNew w0.heap.size w' (nv (M * N) v) (M * N) := by
  obtain ⟨xs, h⟩ := h
  have h := nmul_any p 2 [M, N] xs (fun j hj => by
    have : j = 0 ∨ j = 1 := by simp at hj; omega
    rcases this with rfl | rfl
    · exact qok3 hM
    · exact qok3 hN) (show 2 ≤ 100 by decide) w0 h
  rw [prN2] at h
  exact h
set_option maxRecDepth 100000 in
theorem kweight_lo (g : Nat) (a b r m : Nat) (hk : TOk a b r m) (n : Int) (hn : n < (m : Int) - r) (_h1 : -9223372036854775808 ≤ n) (w0 : World) (hg : w0.heap[g]? = some (KB a b r m)) :
    Calls Try.prog 47 #[pT g, .int .i64 (n : Int)] w0 fun e w' => ∃ v, e = .returned (.agg #[nv (0) v]) ∧ Turn g (KB a b r m) w0 w' ∧ NatNew w0.heap.size w' (nv (0) v) (0) := by
  have ⟨k1, k2, k3, k4, k5⟩ := hk
  refine enter_fr Try.func47 rfl Try.ntmps47 (by simp) fun ac (FF : Fr 53 ac [(0, pT g), (1, .int .i64 (n : Int))]) => ?_
  have MM : MemS (fun k => k < w0.heap.size ∧ ∀ x ∈ (g, oC #[iN a, iN b, iN r, iN m] 65) :: ([] : Blks), x.1 ≠ k) w0 w0 ((g, oC #[iN a, iN b, iN r, iN m] 65) :: ([] : Blks)) [] := MemS.startN (one_has hg) ⟨fun y hy => (nomatch hy), trivial⟩
  refine wp_seq (rg_c FF MM [] 5 [] [] (fun br => fun _ _ FF1 MM1 => then_n ?_))
  refine wp_seq ?_
  refine wp_seq (rg_c FF1 MM1 [(1, f_ (.bool false)), (3, u_ 1 (iN (m - r))), (0, w_ 6)] 5 [19] [] (⟨(ptrSome_ok (t := 27) (t' := 27) (x := (.tmp 6)) (y := (.const (.pointer none))) (by kernel_rfl) rfl rfl Try.underlying27), ⟨en_kleast, fun w Hw => kleast_any g a b r m hk w (Hw 1 _ rfl)⟩, by omega, fun _ _ FF2 MM2 => then_n ?_⟩))
  refine wp_cond_true (FF2.ev 0 rfl) ?_
  refine wp_seq (rg_c FF2 MM2 [(0, t_ (aG #[.slice none 0 0])), (0, b_ 0)] 5 [] [] (⟨(by kernel_rfl), rfl, rfl, rfl, (by kernel_rfl), rfl, fun _ _ FF3 MM3 => then_n ?_⟩))
  refine wp_ret ?_
  repeat first | refine then_ret ?_ | refine inb_ret ?_
  exact (retc FF3 MM3 (k := 1) (i := 0) (j := 0) Try.results47 rfl rfl Try.underlying76 rfl (by kernel_rfl) rfl ⟨.slice none 0 0, rfl, MM3.turn (O := []) (fun i x hx => by simp at hx) 1 rfl (fun x hx => (nomatch hx)), natNew_nil _ _⟩)
set_option maxRecDepth 100000 in
theorem kweight_hi (g : Nat) (a b r m : Nat) (hk : TOk a b r m) (n : Int) (hn : n > (m : Int) + r) (_h2 : n < 9223372036854775808) (w0 : World) (hg : w0.heap[g]? = some (KB a b r m)) :
    Calls Try.prog 47 #[pT g, .int .i64 (n : Int)] w0 fun e w' => ∃ v, e = .returned (.agg #[nv (0) v]) ∧ Turn g (KB a b r m) w0 w' ∧ NatNew w0.heap.size w' (nv (0) v) (0) := by
  have ⟨k1, k2, k3, k4, k5⟩ := hk
  refine enter_fr Try.func47 rfl Try.ntmps47 (by simp) fun ac (FF : Fr 53 ac [(0, pT g), (1, .int .i64 (n : Int))]) => ?_
  have MM : MemS (fun k => k < w0.heap.size ∧ ∀ x ∈ (g, oC #[iN a, iN b, iN r, iN m] 65) :: ([] : Blks), x.1 ≠ k) w0 w0 ((g, oC #[iN a, iN b, iN r, iN m] 65) :: ([] : Blks)) [] := MemS.startN (one_has hg) ⟨fun y hy => (nomatch hy), trivial⟩
  refine wp_seq (rg_c FF MM [] 5 [] [] (fun br => fun _ _ FF1 MM1 => then_n ?_))
  refine wp_seq ?_
  refine wp_seq (rg_c FF1 MM1 [(1, f_ (.bool false)), (3, u_ 1 (iN (m - r))), (0, u_ 4 (.bool false)), (4, u_ 1 (iN (m + r))), (0, w_ 6)] 5 [19] [] (⟨(ptrSome_ok (t := 27) (t' := 27) (x := (.tmp 6)) (y := (.const (.pointer none))) (by kernel_rfl) rfl rfl Try.underlying27), ⟨en_kleast, fun w Hw => kleast_any g a b r m hk w (Hw 1 _ rfl)⟩, (dec_f (by omega)), ⟨en_kmost, fun w Hw => kmost_any g a b r m hk w (Hw 1 _ rfl)⟩, by omega, fun _ _ FF2 MM2 => then_n ?_⟩))
  refine wp_cond_true (FF2.ev 0 rfl) ?_
  refine wp_seq (rg_c FF2 MM2 [(0, t_ (aG #[.slice none 0 0])), (0, b_ 0)] 5 [] [] (⟨(by kernel_rfl), rfl, rfl, rfl, (by kernel_rfl), rfl, fun _ _ FF3 MM3 => then_n ?_⟩))
  refine wp_ret ?_
  repeat first | refine then_ret ?_ | refine inb_ret ?_
  exact (retc FF3 MM3 (k := 1) (i := 0) (j := 0) Try.results47 rfl rfl Try.underlying76 rfl (by kernel_rfl) rfl ⟨.slice none 0 0, rfl, MM3.turn (O := []) (fun i x hx => by simp at hx) 1 rfl (fun x hx => (nomatch hx)), natNew_nil _ _⟩)
set_option maxRecDepth 100000 in
theorem kweight_up (g : Nat) (a b r m : Nat) (hk : TOk a b r m) (d : Nat) (hd : d ≤ r) (w0 : World) (hg : w0.heap[g]? = some (KB a b r m)) :
    Calls Try.prog 47 #[pT g, iN (m + d)] w0 fun e w' => ∃ v, e = .returned (.agg #[nv (b ^ d * a ^ (r - d)) v]) ∧ Turn g (KB a b r m) w0 w' ∧ NatNew w0.heap.size w' (nv (b ^ d * a ^ (r - d)) v) (b ^ d * a ^ (r - d)) := by
  have ⟨k1, k2, k3, k4, k5⟩ := hk
  refine enter_fr Try.func47 rfl Try.ntmps47 (by simp) fun ac (FF : Fr 53 ac [(0, pT g), (1, iN (m + d))]) => ?_
  have MM : MemS (fun k => k < w0.heap.size ∧ ∀ x ∈ (g, oC #[iN a, iN b, iN r, iN m] 65) :: ([] : Blks), x.1 ≠ k) w0 w0 ((g, oC #[iN a, iN b, iN r, iN m] 65) :: ([] : Blks)) [] := MemS.startN (one_has hg) ⟨fun y hy => (nomatch hy), trivial⟩
  refine wp_seq (rg_c FF MM [] 5 [] [] (fun br => fun _ _ FF1 MM1 => then_n ?_))
  refine wp_seq ?_
  refine wp_seq (rg_c FF1 MM1 [(1, f_ (.bool false)), (3, u_ 1 (iN (m - r))), (0, w_ 3), (4, u_ 1 (iN (m + r))), (0, w_ 3)] 5 [19] [] (⟨(ptrSome_ok (t := 27) (t' := 27) (x := (.tmp 6)) (y := (.const (.pointer none))) (by kernel_rfl) rfl rfl Try.underlying27), ⟨en_kleast, fun w Hw => kleast_any g a b r m hk w (Hw 1 _ rfl)⟩, by omega, ⟨en_kmost, fun w Hw => kmost_any g a b r m hk w (Hw 1 _ rfl)⟩, by omega, fun _ _ FF2 MM2 => then_n ?_⟩))
  refine wp_cond_false (FF2.ev 0 rfl) ?_
  refine wp_skip ?_
  refine then_n ?_
  refine wp_seq (rg_pred FF2 MM2 [.inl (iN (m + d)), .inl (pT g), .inl (pT g), .inl (.pointer (some ⟨g, 3, none⟩)), .inl (iN m), .inl (iN d), .inl (pT g), .inl (pT g), .inl (.pointer (some ⟨g, 3, none⟩)), .inl (iN m), .inl (iN (m + d)), .inl (.int .i64 (-((d : Nat) : Int) : Int)), .inl (iN d)] [some (o_), some (o_), some (o_), some (o_), some (l_ 1 (iN m)), some (t_ (iN d)), some (o_), some (o_), some (o_), some (l_ 1 (iN m)), some (o_), some (u_ 4 (.int .i64 (-((d : Nat) : Int) : Int))), some (f_ (iN d))] [33, 4, 0, 1] (fun lx wq => [(iN (m + d) = iN (m + d)), (pT g = pT g), (pT g = pT g), (Value.pointer (some ⟨g, 3, none⟩) = .pointer (some ⟨g, 3, none⟩)), (g = g ∧ (#[iN a, iN b, iN r, iN m] : Array Value)[3]? = some (iN m) ∧ iN m = iN m), (m ≤ (m + d) ∧ (m + d) - m < 9223372036854775808 ∧ iN ((m + d) - m) = iN d ∧ iN d = iN d), (pT g = pT g), (pT g = pT g), (Value.pointer (some ⟨g, 3, none⟩) = .pointer (some ⟨g, 3, none⟩)), (g = g ∧ (#[iN a, iN b, iN r, iN m] : Array Value)[3]? = some (iN m) ∧ iN m = iN m), (iN (m + d) = iN (m + d)), (-(9223372036854775808 : Int) ≤ ((m : Nat) : Int) - ((m + d : Nat) : Int) ∧ ((m : Nat) : Int) - ((m + d : Nat) : Int) < (9223372036854775808 : Nat) ∧ Value.int .i64 (((m : Nat) : Int) - ((m + d : Nat) : Int) : Int) = .int .i64 (-((d : Nat) : Int) : Int) ∧ Value.int .i64 (-((d : Nat) : Int) : Int) = .int .i64 (-((d : Nat) : Int) : Int)), (RunV Try.prog [(26, iN d), (32, .int .i64 (-((d : Nat) : Int) : Int)), (19, .bool false), (4, pT br), (0, pT g), (1, iN (m + d))] ((br, oC #[.slice none 0 0] 76) :: (g, oC #[iN a, iN b, iN r, iN m] 65) :: ([] : Blks)) (opAt Try.f47 3 12) (iN d) ∧ iN d = iN d)]) (fun lx => [(33, iN d), (4, pT br), (0, pT g), (1, iN (m + d))]) (by kernel_rfl) (by kernel_rfl) (by kernel_rfl) trivial (fun _ _ => by kernel_rfl) (fun _ => by kernel_rfl) (fun lx wq hB9 hH9 => ⟨(rfl), (rfl), (rfl), (rfl), (⟨rfl, rfl, rfl⟩), (⟨by omega, by omega, (vI (by omega)), rfl⟩), (rfl), (rfl), (rfl), (⟨rfl, rfl, rfl⟩), (rfl), (⟨by omega, by omega, (vZ (by omega)), rfl⟩), (⟨(max_ok (t := 3) (u := 3) (x := .tmp 26) (y := .tmp 32) (by kernel_rfl) rfl rfl (by omega)), rfl⟩), trivial⟩) (fun lx ac3 wd3 hx4 hB5 FF3 MM3 => ?_))
  clear hx4
  refine rp_c 1 FF3 MM3 [] 6 [] [] (fun _ wd7 FF7 MM7 => ?_)
  refine wpl_nil (then_n ?_)
  have h0w := MM7.size
  refine wp_seq (rg_pred FF7 MM7 [.inl (pT g), .inl (pT g), .inl (.pointer (some ⟨g, 1, none⟩)), .inl (iN b), .inl (iN d), (.inr (fun v => .agg #[nv (b ^ d) v], fun v w => NatNew wd7.heap.size w (nv (b ^ d) v) (b ^ d)) : Spec), .inl (pT g), .inl (pT g), .inl (pT g), .inl (iN a), .inl (pT g), .inl (pT g), .inl (.pointer (some ⟨g, 2, none⟩)), .inl (iN r), .inl (iN d), .inl (iN (r - d)), (.inr (fun v => .agg #[nv (a ^ (r - d)) v], fun v w => NatNew wd7.heap.size w (nv (a ^ (r - d)) v) (a ^ (r - d))) : Spec), (.inr (fun v => .slice (pOf v) 2 2, fun v w => RowNs w (pOf v) [b ^ d, a ^ (r - d)]) : Spec), (.inr (fun v => .agg #[nv ((b ^ d) * (a ^ (r - d))) v], fun v w => NatNew wd7.heap.size w (nv ((b ^ d) * (a ^ (r - d))) v) ((b ^ d) * (a ^ (r - d)))) : Spec)] [some (o_), some (o_), some (o_), some (l_ 1 (iN b)), some (o_), none, some (o_), some (o_), some (o_), some (l_ 1 (iN a)), some (o_), some (o_), some (o_), some (l_ 1 (iN r)), some (o_), some (o_), none, some (o_), none] [52, 4, 0, 1] (fun lx wq => [(pT g = pT g), (pT g = pT g), (Value.pointer (some ⟨g, 1, none⟩) = .pointer (some ⟨g, 1, none⟩)), (g = g ∧ (#[iN a, iN b, iN r, iN m] : Array Value)[1]? = some (iN b) ∧ iN b = iN b), (iN d = iN d), (CallQ Try.prog 64 [iN b, iN d] wq (.inr (fun v => .agg #[nv (b ^ d) v], fun v w => NatNew wd7.heap.size w (nv (b ^ d) v) (b ^ d)) : Spec)), (pT g = pT g), (pT g = pT g), (pT g = pT g), (g = g ∧ (#[iN a, iN b, iN r, iN m] : Array Value)[0]? = some (iN a) ∧ iN a = iN a), (pT g = pT g), (pT g = pT g), (Value.pointer (some ⟨g, 2, none⟩) = .pointer (some ⟨g, 2, none⟩)), (g = g ∧ (#[iN a, iN b, iN r, iN m] : Array Value)[2]? = some (iN r) ∧ iN r = iN r), (iN d = iN d), (d ≤ r ∧ r - d < 9223372036854775808 ∧ iN (r - d) = iN (r - d)), (NatNew wd7.heap.size wq (nv (b ^ d) (lx 5)) (b ^ d) → CallQ Try.prog 64 [iN a, iN (r - d)] wq (.inr (fun v => .agg #[nv (a ^ (r - d)) v], fun v w => NatNew wd7.heap.size w (nv (a ^ (r - d)) v) (a ^ (r - d))) : Spec)), (NatNew wd7.heap.size wq (nv (b ^ d) (lx 5)) (b ^ d) → NatNew wd7.heap.size wq (nv (a ^ (r - d)) (lx 16)) (a ^ (r - d)) → (∀ w', Below wq.heap.size wq w' → w'.heap[wq.heap.size]? = some (oC #[nv (b ^ d) (lx 5), nv (a ^ (r - d)) (lx 16)] 76) → ∃ y, Value.slice (some ⟨wq.heap.size, 0, none⟩) 2 2 = (fun v => .slice (pOf v) 2 2) y ∧ RowNs w' (pOf y) [b ^ d, a ^ (r - d)])), (RowNs wq (pOf (lx 17)) [b ^ d, a ^ (r - d)] → NatNew wd7.heap.size wq (nv (a ^ (r - d)) (lx 16)) (a ^ (r - d)) → CallQ Try.prog 63 [.slice (pOf (lx 17)) 2 2] wq (.inr (fun v => .agg #[nv ((b ^ d) * (a ^ (r - d))) v], fun v w => NatNew wd7.heap.size w (nv ((b ^ d) * (a ^ (r - d))) v) ((b ^ d) * (a ^ (r - d)))) : Spec))]) (fun lx => [(52, aG #[nv ((b ^ d) * (a ^ (r - d))) (lx 18)]), (4, pT br), (0, pT g), (1, iN (m + d))]) (by kernel_rfl) (by kernel_rfl) (by kernel_rfl) ⟨(fun v w w1 => natNew_st _ _ (nv _ v) w w1), (fun v w w1 => natNew_st _ _ (nv _ v) w w1), (rowNs_st [b ^ d, a ^ (r - d)]), (fun v w w1 => natNew_st _ _ (nv _ v) w w1), trivial⟩ (fun _ _ => by kernel_rfl) (fun _ => by kernel_rfl) (fun lx wq hB9 hH9 => ⟨(rfl), (rfl), (rfl), (⟨rfl, rfl, rfl⟩), (rfl), (⟨en_kpower, (kpower_any b d (by omega) (by omega) wq).mono fun _ _ ⟨v, h1, h2, h3⟩ => ⟨v, h1, h2, h3.mono hB9.size⟩⟩), (rfl), (rfl), (rfl), (⟨rfl, rfl, rfl⟩), (rfl), (rfl), (rfl), (⟨rfl, rfl, rfl⟩), (rfl), (⟨by omega, by omega, rfl⟩), (fun h5_0 => ⟨en_kpower, (kpower_any a (r - d) (by omega) (by omega) wq).mono fun _ _ ⟨v, h1, h2, h3⟩ => ⟨v, h1, h2, h3.mono hB9.size⟩⟩), (fun h5_0 h16_1 => fun w' hb hh => ⟨.slice (some ⟨wq.heap.size, 0, none⟩) 2 2, rfl, _, nats2 hh (h5_0.1.keep hb) (h16_1.1.keep hb)⟩), (fun h17_0 h16_1 => ⟨en_nmul, (nmul2r (b ^ d) (a ^ (r - d)) (b100 (pow_lt16 (by omega) (by omega)) : b ^ d < 18446744073709551616 ^ 100) (b100 (pow_lt16 (by omega) (by omega)) : a ^ (r - d) < 18446744073709551616 ^ 100) wq h17_0).mono fun _ _ ⟨v, h1, h2, h3⟩ => ⟨v, h1, h2, h3.mono hB9.size⟩⟩), trivial⟩) (fun lx ac8 wd8 hx9 hB10 FF8 MM8 => ?_))
  obtain ⟨hl5, hl16, hl17, hl18, -⟩ := hx9
  generalize lx 5 = lv12 at *
  generalize lx 16 = lv13 at *
  generalize lx 17 = lv14 at *
  generalize lx 18 = lv15 at *
  have hfrw : ∀ g, (nv (b ^ d * a ^ (r - d)) lv15).ownBlock = some g → w0.heap.size ≤ g := fun g hg => Nat.le_trans h0w (hl18.2 g hg)
  obtain ⟨O16, MM170, hN18, hs19⟩ := MemS.addNatsT (K := [(br, oC #[.slice none 0 0] 76), (g, oC #[iN a, iN b, iN r, iN m] 65)]) (O := ([] : Blks)) MM7 MM8 rfl hl18 (Nats.nil ([] : Blks))
  have MM17 : MemS (fun k => k < w0.heap.size ∧ ∀ x ∈ (g, oC #[iN a, iN b, iN r, iN m] 65) :: ([] : Blks), x.1 ≠ k) w0 wd8 ((br, oC #[.slice none 0 0] 76) :: (g, oC #[iN a, iN b, iN r, iN m] 65) :: O16) [] := MM170
  refine rp_c 1 FF8 MM17 [(0, b_ 0)] 5 [] [] (⟨rfl, rfl, rfl, (by kernel_rfl), rfl, fun _ _ FF20 MM20 => ?_⟩)
  refine wpl_nil (then_n ?_)
  refine wp_ret ?_
  repeat first | refine then_ret ?_ | refine inb_ret ?_
  exact (retc FF20 MM20 (k := 1) (i := 0) (j := 0) Try.results47 rfl rfl Try.underlying76 rfl (by kernel_rfl) rfl ⟨lv15, rfl, MM20.turn (O := []) (fun i x hx => by simp at hx) 1 rfl (fun x hx => (nomatch hx)), ⟨(hN18.get 0 rfl).at (Has.tl (Has.tl MM20.hasL)), hfrw⟩⟩)
set_option maxRecDepth 100000 in
theorem kweight_dn (g : Nat) (a b r m : Nat) (hk : TOk a b r m) (d : Nat) (hd : d ≤ r) (w0 : World) (hg : w0.heap[g]? = some (KB a b r m)) :
    Calls Try.prog 47 #[pT g, iN (m - d)] w0 fun e w' => ∃ v, e = .returned (.agg #[nv (b ^ d * a ^ (r - d)) v]) ∧ Turn g (KB a b r m) w0 w' ∧ NatNew w0.heap.size w' (nv (b ^ d * a ^ (r - d)) v) (b ^ d * a ^ (r - d)) := by
  have ⟨k1, k2, k3, k4, k5⟩ := hk
  refine enter_fr Try.func47 rfl Try.ntmps47 (by simp) fun ac (FF : Fr 53 ac [(0, pT g), (1, iN (m - d))]) => ?_
  have MM : MemS (fun k => k < w0.heap.size ∧ ∀ x ∈ (g, oC #[iN a, iN b, iN r, iN m] 65) :: ([] : Blks), x.1 ≠ k) w0 w0 ((g, oC #[iN a, iN b, iN r, iN m] 65) :: ([] : Blks)) [] := MemS.startN (one_has hg) ⟨fun y hy => (nomatch hy), trivial⟩
  refine wp_seq (rg_c FF MM [] 5 [] [] (fun br => fun _ _ FF1 MM1 => then_n ?_))
  refine wp_seq ?_
  refine wp_seq (rg_c FF1 MM1 [(1, f_ (.bool false)), (3, u_ 1 (iN (m - r))), (0, w_ 3), (4, u_ 1 (iN (m + r))), (0, w_ 3)] 5 [19] [] (⟨(ptrSome_ok (t := 27) (t' := 27) (x := (.tmp 6)) (y := (.const (.pointer none))) (by kernel_rfl) rfl rfl Try.underlying27), ⟨en_kleast, fun w Hw => kleast_any g a b r m hk w (Hw 1 _ rfl)⟩, by omega, ⟨en_kmost, fun w Hw => kmost_any g a b r m hk w (Hw 1 _ rfl)⟩, by omega, fun _ _ FF2 MM2 => then_n ?_⟩))
  refine wp_cond_false (FF2.ev 0 rfl) ?_
  refine wp_skip ?_
  refine then_n ?_
  refine wp_seq (rg_pred FF2 MM2 [.inl (iN (m - d)), .inl (pT g), .inl (pT g), .inl (.pointer (some ⟨g, 3, none⟩)), .inl (iN m), .inl (.int .i64 (-((d : Nat) : Int) : Int)), .inl (pT g), .inl (pT g), .inl (.pointer (some ⟨g, 3, none⟩)), .inl (iN m), .inl (iN (m - d)), .inl (iN d), .inl (iN d)] [some (o_), some (o_), some (o_), some (o_), some (l_ 1 (iN m)), some (u_ 4 (.int .i64 (-((d : Nat) : Int) : Int))), some (o_), some (o_), some (o_), some (l_ 1 (iN m)), some (o_), some (t_ (iN d)), some (f_ (iN d))] [33, 4, 0, 1] (fun lx wq => [(iN (m - d) = iN (m - d)), (pT g = pT g), (pT g = pT g), (Value.pointer (some ⟨g, 3, none⟩) = .pointer (some ⟨g, 3, none⟩)), (g = g ∧ (#[iN a, iN b, iN r, iN m] : Array Value)[3]? = some (iN m) ∧ iN m = iN m), (-(9223372036854775808 : Int) ≤ ((m - d : Nat) : Int) - ((m : Nat) : Int) ∧ ((m - d : Nat) : Int) - ((m : Nat) : Int) < (9223372036854775808 : Nat) ∧ Value.int .i64 (((m - d : Nat) : Int) - ((m : Nat) : Int) : Int) = .int .i64 (-((d : Nat) : Int) : Int) ∧ Value.int .i64 (-((d : Nat) : Int) : Int) = .int .i64 (-((d : Nat) : Int) : Int)), (pT g = pT g), (pT g = pT g), (Value.pointer (some ⟨g, 3, none⟩) = .pointer (some ⟨g, 3, none⟩)), (g = g ∧ (#[iN a, iN b, iN r, iN m] : Array Value)[3]? = some (iN m) ∧ iN m = iN m), (iN (m - d) = iN (m - d)), ((m - d) ≤ m ∧ m - (m - d) < 9223372036854775808 ∧ iN (m - (m - d)) = iN d ∧ iN d = iN d), (RunV Try.prog [(26, .int .i64 (-((d : Nat) : Int) : Int)), (32, iN d), (19, .bool false), (4, pT br), (0, pT g), (1, iN (m - d))] ((br, oC #[.slice none 0 0] 76) :: (g, oC #[iN a, iN b, iN r, iN m] 65) :: ([] : Blks)) (opAt Try.f47 3 12) (iN d) ∧ iN d = iN d)]) (fun lx => [(33, iN d), (4, pT br), (0, pT g), (1, iN (m - d))]) (by kernel_rfl) (by kernel_rfl) (by kernel_rfl) trivial (fun _ _ => by kernel_rfl) (fun _ => by kernel_rfl) (fun lx wq hB9 hH9 => ⟨(rfl), (rfl), (rfl), (rfl), (⟨rfl, rfl, rfl⟩), (⟨by omega, by omega, (vZ (by omega)), rfl⟩), (rfl), (rfl), (rfl), (⟨rfl, rfl, rfl⟩), (rfl), (⟨by omega, by omega, (vI (by omega)), rfl⟩), (⟨(max_ok (t := 3) (u := 3) (x := .tmp 26) (y := .tmp 32) (by kernel_rfl) rfl rfl (by omega)), rfl⟩), trivial⟩) (fun lx ac3 wd3 hx4 hB5 FF3 MM3 => ?_))
  clear hx4
  refine rp_c 1 FF3 MM3 [] 6 [] [] (fun _ wd7 FF7 MM7 => ?_)
  refine wpl_nil (then_n ?_)
  have h0w := MM7.size
  refine wp_seq (rg_pred FF7 MM7 [.inl (pT g), .inl (pT g), .inl (.pointer (some ⟨g, 1, none⟩)), .inl (iN b), .inl (iN d), (.inr (fun v => .agg #[nv (b ^ d) v], fun v w => NatNew wd7.heap.size w (nv (b ^ d) v) (b ^ d)) : Spec), .inl (pT g), .inl (pT g), .inl (pT g), .inl (iN a), .inl (pT g), .inl (pT g), .inl (.pointer (some ⟨g, 2, none⟩)), .inl (iN r), .inl (iN d), .inl (iN (r - d)), (.inr (fun v => .agg #[nv (a ^ (r - d)) v], fun v w => NatNew wd7.heap.size w (nv (a ^ (r - d)) v) (a ^ (r - d))) : Spec), (.inr (fun v => .slice (pOf v) 2 2, fun v w => RowNs w (pOf v) [b ^ d, a ^ (r - d)]) : Spec), (.inr (fun v => .agg #[nv ((b ^ d) * (a ^ (r - d))) v], fun v w => NatNew wd7.heap.size w (nv ((b ^ d) * (a ^ (r - d))) v) ((b ^ d) * (a ^ (r - d)))) : Spec)] [some (o_), some (o_), some (o_), some (l_ 1 (iN b)), some (o_), none, some (o_), some (o_), some (o_), some (l_ 1 (iN a)), some (o_), some (o_), some (o_), some (l_ 1 (iN r)), some (o_), some (o_), none, some (o_), none] [52, 4, 0, 1] (fun lx wq => [(pT g = pT g), (pT g = pT g), (Value.pointer (some ⟨g, 1, none⟩) = .pointer (some ⟨g, 1, none⟩)), (g = g ∧ (#[iN a, iN b, iN r, iN m] : Array Value)[1]? = some (iN b) ∧ iN b = iN b), (iN d = iN d), (CallQ Try.prog 64 [iN b, iN d] wq (.inr (fun v => .agg #[nv (b ^ d) v], fun v w => NatNew wd7.heap.size w (nv (b ^ d) v) (b ^ d)) : Spec)), (pT g = pT g), (pT g = pT g), (pT g = pT g), (g = g ∧ (#[iN a, iN b, iN r, iN m] : Array Value)[0]? = some (iN a) ∧ iN a = iN a), (pT g = pT g), (pT g = pT g), (Value.pointer (some ⟨g, 2, none⟩) = .pointer (some ⟨g, 2, none⟩)), (g = g ∧ (#[iN a, iN b, iN r, iN m] : Array Value)[2]? = some (iN r) ∧ iN r = iN r), (iN d = iN d), (d ≤ r ∧ r - d < 9223372036854775808 ∧ iN (r - d) = iN (r - d)), (NatNew wd7.heap.size wq (nv (b ^ d) (lx 5)) (b ^ d) → CallQ Try.prog 64 [iN a, iN (r - d)] wq (.inr (fun v => .agg #[nv (a ^ (r - d)) v], fun v w => NatNew wd7.heap.size w (nv (a ^ (r - d)) v) (a ^ (r - d))) : Spec)), (NatNew wd7.heap.size wq (nv (b ^ d) (lx 5)) (b ^ d) → NatNew wd7.heap.size wq (nv (a ^ (r - d)) (lx 16)) (a ^ (r - d)) → (∀ w', Below wq.heap.size wq w' → w'.heap[wq.heap.size]? = some (oC #[nv (b ^ d) (lx 5), nv (a ^ (r - d)) (lx 16)] 76) → ∃ y, Value.slice (some ⟨wq.heap.size, 0, none⟩) 2 2 = (fun v => .slice (pOf v) 2 2) y ∧ RowNs w' (pOf y) [b ^ d, a ^ (r - d)])), (RowNs wq (pOf (lx 17)) [b ^ d, a ^ (r - d)] → NatNew wd7.heap.size wq (nv (a ^ (r - d)) (lx 16)) (a ^ (r - d)) → CallQ Try.prog 63 [.slice (pOf (lx 17)) 2 2] wq (.inr (fun v => .agg #[nv ((b ^ d) * (a ^ (r - d))) v], fun v w => NatNew wd7.heap.size w (nv ((b ^ d) * (a ^ (r - d))) v) ((b ^ d) * (a ^ (r - d)))) : Spec))]) (fun lx => [(52, aG #[nv ((b ^ d) * (a ^ (r - d))) (lx 18)]), (4, pT br), (0, pT g), (1, iN (m - d))]) (by kernel_rfl) (by kernel_rfl) (by kernel_rfl) ⟨(fun v w w1 => natNew_st _ _ (nv _ v) w w1), (fun v w w1 => natNew_st _ _ (nv _ v) w w1), (rowNs_st [b ^ d, a ^ (r - d)]), (fun v w w1 => natNew_st _ _ (nv _ v) w w1), trivial⟩ (fun _ _ => by kernel_rfl) (fun _ => by kernel_rfl) (fun lx wq hB9 hH9 => ⟨(rfl), (rfl), (rfl), (⟨rfl, rfl, rfl⟩), (rfl), (⟨en_kpower, (kpower_any b d (by omega) (by omega) wq).mono fun _ _ ⟨v, h1, h2, h3⟩ => ⟨v, h1, h2, h3.mono hB9.size⟩⟩), (rfl), (rfl), (rfl), (⟨rfl, rfl, rfl⟩), (rfl), (rfl), (rfl), (⟨rfl, rfl, rfl⟩), (rfl), (⟨by omega, by omega, rfl⟩), (fun h5_0 => ⟨en_kpower, (kpower_any a (r - d) (by omega) (by omega) wq).mono fun _ _ ⟨v, h1, h2, h3⟩ => ⟨v, h1, h2, h3.mono hB9.size⟩⟩), (fun h5_0 h16_1 => fun w' hb hh => ⟨.slice (some ⟨wq.heap.size, 0, none⟩) 2 2, rfl, _, nats2 hh (h5_0.1.keep hb) (h16_1.1.keep hb)⟩), (fun h17_0 h16_1 => ⟨en_nmul, (nmul2r (b ^ d) (a ^ (r - d)) (b100 (pow_lt16 (by omega) (by omega)) : b ^ d < 18446744073709551616 ^ 100) (b100 (pow_lt16 (by omega) (by omega)) : a ^ (r - d) < 18446744073709551616 ^ 100) wq h17_0).mono fun _ _ ⟨v, h1, h2, h3⟩ => ⟨v, h1, h2, h3.mono hB9.size⟩⟩), trivial⟩) (fun lx ac8 wd8 hx9 hB10 FF8 MM8 => ?_))
  obtain ⟨hl5, hl16, hl17, hl18, -⟩ := hx9
  generalize lx 5 = lv12 at *
  generalize lx 16 = lv13 at *
  generalize lx 17 = lv14 at *
  generalize lx 18 = lv15 at *
  have hfrw : ∀ g, (nv (b ^ d * a ^ (r - d)) lv15).ownBlock = some g → w0.heap.size ≤ g := fun g hg => Nat.le_trans h0w (hl18.2 g hg)
  obtain ⟨O16, MM170, hN18, hs19⟩ := MemS.addNatsT (K := [(br, oC #[.slice none 0 0] 76), (g, oC #[iN a, iN b, iN r, iN m] 65)]) (O := ([] : Blks)) MM7 MM8 rfl hl18 (Nats.nil ([] : Blks))
  have MM17 : MemS (fun k => k < w0.heap.size ∧ ∀ x ∈ (g, oC #[iN a, iN b, iN r, iN m] 65) :: ([] : Blks), x.1 ≠ k) w0 wd8 ((br, oC #[.slice none 0 0] 76) :: (g, oC #[iN a, iN b, iN r, iN m] 65) :: O16) [] := MM170
  refine rp_c 1 FF8 MM17 [(0, b_ 0)] 5 [] [] (⟨rfl, rfl, rfl, (by kernel_rfl), rfl, fun _ _ FF20 MM20 => ?_⟩)
  refine wpl_nil (then_n ?_)
  refine wp_ret ?_
  repeat first | refine then_ret ?_ | refine inb_ret ?_
  exact (retc FF20 MM20 (k := 1) (i := 0) (j := 0) Try.results47 rfl rfl Try.underlying76 rfl (by kernel_rfl) rfl ⟨lv15, rfl, MM20.turn (O := []) (fun i x hx => by simp at hx) 1 rfl (fun x hx => (nomatch hx)), ⟨(hN18.get 0 rfl).at (Has.tl (Has.tl MM20.hasL)), hfrw⟩⟩)
end Go.Proofs.Ythgfjeljfiadmaa
