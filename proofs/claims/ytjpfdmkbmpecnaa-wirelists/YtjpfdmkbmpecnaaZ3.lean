/- Several texts in one: Package wire and the document's: lists. Package wire and the document's: a list's items. The laws of records: what they share. The law WireLists. -/
import Derived.Test.YtjpfdmkbmpecnaaZ2
import Derived.Laws.Small
namespace Go.Proofs.Ytjpfdmkbmpecnaa
open Go.RowKit
theorem isL_of {k m : Nat} {X : List Nat} (h2 : 2 ≤ X.length) (hm : X.getD 0 0 + X.getD 1 0 * 256 = m) (h64 : m ≤ 64) (h : (X.drop 2).length = m * k) : IsL k X := by
  have h1 : X.getD 1 0 = 0 := by omega
  have h0 : X.getD 0 0 = m := by omega
  rw [List.length_drop] at h
  refine ⟨h2, h1, by omega, ?_⟩
  rw [h0, Nat.mul_comm]
  omega
theorem isL_drop {k n : Nat} {X : List Nat} (h : IsL k X) (hn : X.getD 0 0 = n) : (X.drop 2).length = n * k := by
  have := h.2.2.2
  rw [List.length_drop, this, hn, Nat.mul_comm]
  omega
theorem isL_sum {k n : Nat} {X : List Nat} (hX : ∀ i, X.getD i 0 < 256) (h : IsL k X) (hn : X.getD 0 0 = n) : X.getD 0 0 ||| X.getD 1 0 * 256 = n := by
  have h1 : X.getD 0 0 ||| X.getD 1 0 * 256 = X.getD 0 0 + X.getD 1 0 * 256 := or_shl 8 (hX 0)
  rw [h1, h.2.1, hn]
  omega
theorem item_cut (k : Nat) (X : List Nat) (i : Nat) : ((X.drop 2).take ((i + 1) * k)).drop (i * k) = itemAt (k : Nat) X i := by
  rw [itemAt_nat, List.drop_take, List.drop_drop, Nat.succ_mul, Nat.add_sub_cancel_left, Nat.mul_comm]
theorem item_cut2 (k : Nat) (X : List Nat) (i : Nat) : (X.take (2 + k * i + k)).drop (2 + k * i) = itemAt (k : Nat) X i := by
  rw [itemAt_nat, List.drop_take, Nat.add_sub_cancel_left]
theorem upto_set (f : Nat → List Nat) (i j : Nat) : (if j = i then f i else if j < i then f j else []) = if j < i + 1 then f j else [] := by
  by_cases h : j = i
  · subst h; rw [if_pos rfl, if_pos (by omega)]
  · rw [if_neg h]
    by_cases h2 : j < i
    · rw [if_pos h2, if_pos (by omega)]
    · rw [if_neg h2, if_neg (by omega)]
theorem list_step (n : Nat) (s : Nat → List Nat) (i : Nat) : (n :: 0 :: flatF s i) ++ s i = n :: 0 :: flatF s (i + 1) := by rw [flatF_succ]; rfl
theorem mul_fit {a b : Nat} (ha : a ≤ 65) (hb : b ≤ 256) : a * b < 9223372036854775808 := Nat.lt_of_le_of_lt (Nat.mul_le_mul ha hb) (by decide)
theorem mul_fit' {a b : Nat} (hb : b ≤ 256) (ha : a ≤ 65) : b * a < 9223372036854775808 := Nat.mul_comm a b ▸ mul_fit ha hb
set_option maxRecDepth 100000 in
theorem areof_O (O : Blks) (hD : Distinct O) (p : Option Addr) (n c : Nat) (k : Nat) (s : Nat → List Nat) (hn : n ≤ 1000000) (b : Bool) (hb : b = true ↔ ∀ j, j < n → (s j).length = k) (hF : RowO O p n (fun k9 => sB (s k9))) (w0 : World) (H : Has w0 O) :
    Calls Try.prog 30 #[iN k, .slice p n c] w0 fun e w' => e = .returned (.bool b) ∧ Below w0.heap.size w0 w' := by
  refine enter_fr Try.func30 rfl Try.ntmps30 (by simp) fun ac (FF : Fr 18 ac [(0, iN k), (1, .slice p n c)]) => ?_
  have MM : MemS (fun k => k < w0.heap.size ∧ ∀ x ∈ O, x.1 ≠ k) w0 w0 O [] := MemS.startN H hD
  refine wp_seq (rg_seq FF MM [o_] [0, 1, 4] (fun Kt => Kt [(4, .bool false), (0, iN k), (1, .slice p n c)] O) (by kernel_rfl) (fun _ => by kernel_rfl) (fun ac1 wd1 FF1 MM1 => then_n ?_))
  refine wp_seq ?_
  refine wp_seq (rg_seq FF1 MM1 [o_, o_, o_] [4, 0, 7, 8, 9] (fun Kt => Kt [(9, iN 0), (8, iN n), (7, .slice p n c), (4, .bool false), (0, iN k)] O) (by kernel_rfl) (fun _ => by kernel_rfl) (fun ac2 wd2 FF2 MM2 => then_n ?_))
  refine wp_for (fun a' w' => ∃ i : Nat, i ≤ n ∧ (∀ j, j < i → (s j).length = k) ∧ Fr 18 a' [(9, iN i), (8, iN n), (7, .slice p n c), (0, iN k)] ∧ MemS (fun k => k < w0.heap.size ∧ ∀ x ∈ O, x.1 ≠ k) w0 w' O []) (fun a' _ => (n - cnt 9 a').toNat) ⟨0, Nat.zero_le _, (fun j hj => absurd hj (Nat.not_lt_zero _)), FF2.pick [0, 1, 2, 4], MM2⟩ ?_
  rintro ac3 wd3 ⟨i, hi, hA, FF3, MM3⟩
  have hc := cnt_of (FF3.get 0 rfl)
  refine rg_seq FF3 MM3 [o_] [9, 8, 7, 0, 10] (fun Kt => Kt [(10, .bool (decide (i < n))), (9, iN i), (8, iN n), (7, .slice p n c), (0, iN k)] O) (by kernel_rfl) (fun _ => by kernel_rfl) (fun ac4 wd4 FF4 MM4 => ?_)
  by_cases hlt : i < n
  · skip
    refine then_n (.inl ⟨(FF4.ev 0 rfl).trans (dec_t hlt), ?_⟩)
    refine wp_seq (rg_seq FF4 MM4 [f_ (.pointer (some ⟨gOf p, oOf p + i, none⟩)), f_ (sB (s i)), o_] [9, 8, 7, 0, 6] (fun Kt => RunV Try.prog [(10, .bool (decide (i < n))), (9, iN i), (8, iN n), (7, .slice p n c), (0, iN k)] O (opAt Try.f30 3 0) (.pointer (some ⟨gOf p, oOf p + i, none⟩)) ∧ RunV Try.prog [(11, .pointer (some ⟨gOf p, oOf p + i, none⟩)), (10, .bool (decide (i < n))), (9, iN i), (8, iN n), (7, .slice p n c), (0, iN k)] O (opAt Try.f30 3 1) (sB (s i)) ∧ Kt [(6, sB (s i)), (9, iN i), (8, iN n), (7, .slice p n c), (0, iN k)] O) (by kernel_rfl) (fun _ => by kernel_rfl) (⟨(rowX_addr (x := (.tmp 7)) (y := (.tmp 9)) (k := 1) (i := i) (by kernel_rfl) rfl rfl Try.underlying26 (by kernel_rfl) hF (by omega) (by omega)), (rowX_load (x := (.tmp 11)) (j := i) (by kernel_rfl) rfl Try.underlying9 rfl hF (fun _ hx => hx) (by omega) rfl), fun ac5 wd5 FF5 MM5 => then_n ?_⟩))
    refine wp_seq (rg_seq FF5 MM5 [o_, t_ (iN ((s i).length)), o_, o_] [6, 9, 8, 7, 0, 16] (fun Kt => iN ((bs (s i)).size) = iN ((s i).length) ∧ Kt [(16, .bool (decide (((s i).length) ≠ k))), (6, sB (s i)), (9, iN i), (8, iN n), (7, .slice p n c), (0, iN k)] O) (by kernel_rfl) (fun _ => by kernel_rfl) (⟨(vI (bs_size _)), fun ac6 wd6 FF6 MM6 => then_n ?_⟩))
    by_cases hs16 : ((s i).length) ≠ k
    · refine wp_cond_true ((FF6.ev 0 rfl).trans (dec_t hs16)) ?_
      refine wp_seq (rg_seq FF6 MM6 [o_] [6, 9, 8, 7, 0, 4] (fun Kt => Kt [(4, .bool false), (6, sB (s i)), (9, iN i), (8, iN n), (7, .slice p n c), (0, iN k)] O) (by kernel_rfl) (fun _ => by kernel_rfl) (fun ac7 wd7 FF7 MM7 => then_n ?_))
      refine wp_ret ?_
      repeat first | refine then_ret ?_ | refine inb_ret ?_
      exact (ret_fr FF7 0 Try.results30 rfl ⟨congrArg (fun b => Ending.returned (Value.bool b)) (Bool.eq_false_iff.2 (fun h => hs16 (hb.1 h i hlt))).symm, MM7.belowN H (fun _ hx => hx)⟩)
    · refine wp_cond_false ((FF6.ev 0 rfl).trans (dec_f hs16)) ?_
      refine wp_skip ?_
      refine inb_n (then_n ?_)
      refine rg_seq FF6 MM6 [o_, o_] [6, 9, 8, 7, 0] (fun Kt => i + 1 < 9223372036854775808 ∧ Kt [(9, iN (i + 1)), (6, sB (s i)), (8, iN n), (7, .slice p n c), (0, iN k)] O) (by kernel_rfl) (fun _ => by kernel_rfl) (⟨(by omega), fun ac8 wd8 FF8 MM8 => ?_⟩)
      have hd := cnt_of (FF8.get 0 rfl)
      refine then_n ⟨⟨i + 1, by omega, (fun j hj => (Nat.lt_or_ge j i).elim (hA j) (fun h => (show i = j by omega) ▸ Decidable.of_not_not hs16)), FF8.pick [0, 2, 3, 4], MM8⟩, ?_⟩
      rw [hc, hd]; omega
  · skip
    refine then_n (.inr ⟨(FF4.ev 0 rfl).trans (dec_f hlt), ?_⟩)
    obtain rfl : n = i := by omega
    refine then_n ?_
    refine wp_seq (rg_seq FF4 MM4 [o_] [9, 8, 7, 0, 4] (fun Kt => Kt [(4, .bool true), (9, iN n), (8, iN n), (7, .slice p n c), (0, iN k)] O) (by kernel_rfl) (fun _ => by kernel_rfl) (fun ac9 wd9 FF9 MM9 => then_n ?_))
    refine wp_ret ?_
    repeat first | refine then_ret ?_ | refine inb_ret ?_
    exact (ret_fr FF9 0 Try.results30 rfl ⟨congrArg (fun b => Ending.returned (Value.bool b)) (hb.2 hA).symm, MM9.belowN H (fun _ hx => hx)⟩)
theorem areof_w (p : Option Addr) (n c : Nat) (k : Nat) (s : Nat → List Nat) (hn : n ≤ 1000000) (b : Bool) (hb : b = true ↔ ∀ j, j < n → (s j).length = k) (w : World) (hF : RowIn w p n (fun k9 => sB (s k9))) :
    Calls Try.prog 30 #[iN k, .slice p n c] w fun e w' => e = .returned (.bool b) ∧ Below w.heap.size w w' := by
  obtain ⟨O, h1, h2, h3⟩ := row_O hF
  exact areof_O O h2 p n c k s hn b hb h3 w h1
set_option maxRecDepth 100000 in
theorem count_any (n : Nat) (hn : n ≤ 64) (w0 : World) :
    Calls Try.prog 31 #[iN n] w0 fun e w' => e = .returned (sB [n, 0]) ∧ Below w0.heap.size w0 w' := by
  refine enter_fr Try.func31 rfl Try.ntmps31 (by simp) fun ac (FF : Fr 10 ac [(0, iN n)]) => ?_
  have MM := MemS.start w0
  have h2b : ∀ i, [n, 0].getD i 0 < 256 := cons_lt (by omega) (lit_lt (by kernel_rfl))
  refine wp_seq (rg_seq FF MM [o_] [0, 2] (fun Kt => Kt [(2, sB []), (0, iN n)] []) (by kernel_rfl) (fun _ => by kernel_rfl) (fun ac1 wd1 FF1 MM1 => then_n ?_))
  refine wp_seq (rg_seq FF1 MM1 [o_, t_ (iB n), o_, o_, t_ (iB 0), o_, l_ 0 (sB ([n, 0])), o_] [2] (fun Kt => iB (n % 256) = iB n ∧ 8 ≤ 64 ∧ iB ((n / 256) % 256) = iB 0 ∧ ∀ b1, b1 = b1 ∧ StrAt (cn .u8 ([n, 0])) 0 2 (bs ([n, 0])) ∧ Kt [(2, sB ([n, 0]))] [(b1, .cells (cn .u8 ([n, 0])) 5)]) (by kernel_rfl) (fun _ => by kernel_rfl) (⟨(vI (Nat.mod_eq_of_lt (by omega))), (by decide), (vI (by omega)), fun b1 => ⟨rfl, (str_all rfl h2b), fun ac2 wd2 FF2 MM2 => then_n ?_⟩⟩))
  refine wp_ret ?_
  repeat first | refine then_ret ?_ | refine inb_ret ?_
  exact (ret_fr FF2 0 Try.results31 rfl ⟨rfl, MM2.below⟩)
set_option maxRecDepth 100000 in
theorem list_natO (O : Blks) (hD : Distinct O) (p : Option Addr) (n c : Nat) (s : Nat → List Nat) (hn : n ≤ 1000000) (hc : n ≤ c) (k : Nat) (h1 : 1 ≤ k) (h2 : k ≤ 256) (hF : RowO O p n (fun k9 => sB (s k9))) (w0 : World) (H : Has w0 O) :
    Calls Try.prog 20 #[iN k, .slice p n c] w0 fun e w' => e = .returned (.tuple #[.string (bs (listR (k : Nat) n s).1), iN ((listR (k : Nat) n s).2)]) ∧ Below w0.heap.size w0 w' := by
  refine enter_fr Try.func20 rfl Try.ntmps20 (by simp) fun ac (FF : Fr 25 ac [(0, iN k), (1, .slice p n c)]) => ?_
  have MM : MemS (fun k => k < w0.heap.size ∧ ∀ x ∈ O, x.1 ≠ k) w0 w0 O [] := MemS.startN H hD
  refine wp_seq (rg_seq FF MM [o_, o_] [0, 1, 4, 5] (fun Kt => Kt [(5, iN 0), (4, sB []), (0, iN k), (1, .slice p n c)] O) (by kernel_rfl) (fun _ => by kernel_rfl) (fun ac1 wd1 FF1 MM1 => then_n ?_))
  refine wp_seq ?_
  refine wp_block ?_
  refine wp_seq (rg_seq FF1 MM1 [o_, t_ (.bool true), o_, o_] [5, 4, 0, 1, 6] (fun Kt => CallP Try.prog 29 [iN k] [] (.bool true) ∧ Kt [(6, .bool false), (5, iN 0), (4, sB []), (0, iN k), (1, .slice p n c)] O) (by kernel_rfl) (fun _ => by kernel_rfl) (⟨(callP_of en_maysz (maysz_yes k (by omega) (by omega)) _), fun ac2 wd2 FF2 MM2 => then_n ?_⟩))
  refine wp_cond_false (FF2.ev 0 rfl) ?_
  refine wp_seq (rg_seq FF2 MM2 [o_, o_, o_, o_] [5, 4, 0, 1, 10] (fun Kt => Kt [(10, .bool (decide (n > 64))), (5, iN 0), (4, sB []), (0, iN k), (1, .slice p n c)] O) (by kernel_rfl) (fun _ => by kernel_rfl) (fun ac3 wd3 FF3 MM3 => then_n ?_))
  by_cases hs10 : n > 64
  · refine wp_cond_true ((FF3.ev 0 rfl).trans (dec_t hs10)) ?_
    refine wp_seq (rg_seq FF3 MM3 [o_, o_] [5, 4, 0, 1] (fun Kt => Kt [(5, iN 6), (4, sB []), (0, iN k), (1, .slice p n c)] O) (by kernel_rfl) (fun _ => by kernel_rfl) (fun ac4 wd4 FF4 MM4 => then_n ?_))
    refine wp_ret ?_
    repeat first | refine then_ret ?_ | refine inb_ret ?_
    exact (ret_tup2 FF4 1 0 Try.results20 rfl rfl ⟨by rw [listR_many h1 h2 hs10], MM4.belowN H (fun _ hx => hx)⟩)
  · refine wp_cond_false ((FF3.ev 0 rfl).trans (dec_f hs10)) ?_
    by_cases hA : ∀ i, i < n → (s i).length = k
    · skip
      refine wp_seq (rg_seq FF3 MM3 [o_, o_, u_ 1 (.bool true), o_, o_] [5, 4, 0, 1, 14] (fun Kt => CallP Try.prog 30 [iN k, .slice p n c] O (.bool true) ∧ Kt [(14, .bool false), (5, iN 0), (4, sB []), (0, iN k), (1, .slice p n c)] O) (by kernel_rfl) (fun _ => by kernel_rfl) (⟨⟨en_areof, fun w Hw => areof_w p n c k (fun k9 => s k9) (by omega) true ⟨fun _ => hA, fun _ => rfl⟩ w (hF.at Hw)⟩, fun ac5 wd5 FF5 MM5 => then_n ?_⟩))
      refine wp_cond_false (FF5.ev 0 rfl) ?_
      refine wp_skip ?_
      refine inb_n ?_
      refine then_n ?_
      have hfl := flatF_len hA
      have hkn : k * n ≤ 256 * 64 := Nat.mul_le_mul h2 (by omega)
      refine wp_seq (rg_seq FF5 MM5 [o_, o_, t_ (sB ([n, 0])), o_, u_ 1 (sB (flatF s n)), t_ (sB (n :: 0 :: flatF s n)), o_, o_] [5, 4, 0, 1] (fun Kt => CallP Try.prog 31 [iN n] [] (sB ([n, 0])) ∧ CallP Try.prog 32 [.slice p n c, sB []] O (sB (flatF s n)) ∧ (bs ([n, 0])).size + (bs (flatF s n)).size ≤ 9223372036854775807 ∧ Value.string (bs ([n, 0]) ++ bs (flatF s n)) = sB (n :: 0 :: flatF s n) ∧ Kt [(5, iN 0), (4, sB (n :: 0 :: flatF s n)), (0, iN k), (1, .slice p n c)] O) (by kernel_rfl) (fun _ => by kernel_rfl) (⟨(callP_of en_count (count_any n (by omega)) _), ⟨en_join, fun w Hw => join_w p n c s (by omega) hc (by omega) w (hF.at Hw)⟩, (by simp only [bs_size, List.length_cons, List.length_nil]; omega), (vS2 (bs_app _ _)), fun ac6 wd6 FF6 MM6 => then_n ?_⟩))
      refine wp_ret ?_
      repeat first | refine then_ret ?_ | refine inb_ret ?_
      exact (ret_tup2 FF6 1 0 Try.results20 rfl rfl ⟨by rw [listR_ok h1 h2 (by omega) hA], MM6.belowN H (fun _ hx => hx)⟩)
    · skip
      refine wp_seq (rg_seq FF3 MM3 [o_, o_, u_ 1 (.bool false), o_, o_] [5, 4, 0, 1, 14] (fun Kt => CallP Try.prog 30 [iN k, .slice p n c] O (.bool false) ∧ Kt [(14, .bool true), (5, iN 0), (4, sB []), (0, iN k), (1, .slice p n c)] O) (by kernel_rfl) (fun _ => by kernel_rfl) (⟨⟨en_areof, fun w Hw => areof_w p n c k (fun k9 => s k9) (by omega) false ⟨fun h => (by cases h), fun h => (hA h).elim⟩ w (hF.at Hw)⟩, fun ac7 wd7 FF7 MM7 => then_n ?_⟩))
      refine wp_cond_true (FF7.ev 0 rfl) ?_
      refine wp_seq (rg_seq FF7 MM7 [o_, o_] [5, 4, 0, 1] (fun Kt => Kt [(5, iN 5), (4, sB []), (0, iN k), (1, .slice p n c)] O) (by kernel_rfl) (fun _ => by kernel_rfl) (fun ac8 wd8 FF8 MM8 => then_n ?_))
      refine wp_ret ?_
      repeat first | refine then_ret ?_ | refine inb_ret ?_
      exact (ret_tup2 FF8 1 0 Try.results20 rfl rfl ⟨by rw [listR_form h1 h2 (by omega) hA], MM8.belowN H (fun _ hx => hx)⟩)
set_option maxRecDepth 100000 in
theorem list_badO (O : Blks) (hD : Distinct O) (p : Option Addr) (n c : Nat) (s : Nat → List Nat) (_hn : n ≤ 1000000) (z : Int) (hz : z < 1 ∨ z > 256) (_hF : RowO O p n (fun k9 => sB (s k9))) (w0 : World) (H : Has w0 O) :
    Calls Try.prog 20 #[.int .i64 z, .slice p n c] w0 fun e w' => e = .returned (.tuple #[.string (bs (listR z n s).1), iN ((listR z n s).2)]) ∧ Below w0.heap.size w0 w' := by
  refine enter_fr Try.func20 rfl Try.ntmps20 (by simp) fun ac (FF : Fr 25 ac [(0, .int .i64 (z : Int)), (1, .slice p n c)]) => ?_
  have MM : MemS (fun k => k < w0.heap.size ∧ ∀ x ∈ O, x.1 ≠ k) w0 w0 O [] := MemS.startN H hD
  refine wp_seq (rg_seq FF MM [o_, o_] [0, 1, 4, 5] (fun Kt => Kt [(5, iN 0), (4, sB []), (0, .int .i64 (z : Int)), (1, .slice p n c)] O) (by kernel_rfl) (fun _ => by kernel_rfl) (fun ac1 wd1 FF1 MM1 => then_n ?_))
  refine wp_seq ?_
  refine wp_block ?_
  refine wp_seq (rg_seq FF1 MM1 [o_, t_ (.bool false), o_, o_] [5, 4, 0, 1, 6] (fun Kt => CallP Try.prog 29 [.int .i64 (z : Int)] [] (.bool false) ∧ Kt [(6, .bool true), (5, iN 0), (4, sB []), (0, .int .i64 (z : Int)), (1, .slice p n c)] O) (by kernel_rfl) (fun _ => by kernel_rfl) (⟨(callP_of en_maysz (maysz_no z hz) _), fun ac2 wd2 FF2 MM2 => then_n ?_⟩))
  refine wp_cond_true (FF2.ev 0 rfl) ?_
  refine wp_seq (rg_seq FF2 MM2 [o_, o_] [5, 4, 0, 1] (fun Kt => Kt [(5, iN 1), (4, sB []), (0, .int .i64 (z : Int)), (1, .slice p n c)] O) (by kernel_rfl) (fun _ => by kernel_rfl) (fun ac3 wd3 FF3 MM3 => then_n ?_))
  refine wp_ret ?_
  repeat first | refine then_ret ?_ | refine inb_ret ?_
  exact (ret_tup2 FF3 1 0 Try.results20 rfl rfl ⟨by rw [listR_bad hz], MM3.belowN H (fun _ hx => hx)⟩)
theorem list_w (p : Option Addr) (n c : Nat) (s : Nat → List Nat) (hn : n ≤ 1000000) (hc : n ≤ c) (z : Int) (w : World) (hF : RowIn w p n (fun k9 => sB (s k9))) :
    Calls Try.prog 20 #[.int .i64 z, .slice p n c] w fun e w' => e = .returned (.tuple #[.string (bs (listR z n s).1), iN ((listR z n s).2)]) ∧ Below w.heap.size w w' := by
  obtain ⟨O, g1, g2, g3⟩ := row_O hF
  by_cases hz : z < 1 ∨ z > 256
  · exact list_badO O g2 p n c s hn z hz g3 w g1
  · obtain ⟨k, rfl⟩ := Int.eq_ofNat_of_zero_le (a := z) (by omega)
    exact list_natO O g2 p n c s hn hc k (by omega) (by omega) g3 w g1
set_option maxRecDepth 100000 in
theorem rlist_natO (O : Blks) (hD : Distinct O) (p : Option Addr) (n c : Nat) (s : Nat → List Nat) (hn : n ≤ 1000000) (k : Nat) (h1 : 1 ≤ k) (h2 : k ≤ 256) (hF : RowO O p n (fun k9 => sB (s k9))) (w0 : World) (H : Has w0 O) :
    Calls Try.prog 21 #[iN k, .slice p n c] w0 fun e w' => e = .returned (.tuple #[.string (bs (listR (k : Nat) n s).1), iN ((listR (k : Nat) n s).2)]) ∧ Below w0.heap.size w0 w' := by
  refine enter_fr Try.func21 rfl Try.ntmps21 (by simp) fun ac (FF : Fr 42 ac [(0, iN k), (1, .slice p n c)]) => ?_
  have MM : MemS (fun k => k < w0.heap.size ∧ ∀ x ∈ O, x.1 ≠ k) w0 w0 O [] := MemS.startN H hD
  refine wp_seq (rg_seq FF MM [o_, o_] [0, 1, 4, 5] (fun Kt => Kt [(5, iN 0), (4, sB []), (0, iN k), (1, .slice p n c)] O) (by kernel_rfl) (fun _ => by kernel_rfl) (fun ac1 wd1 FF1 MM1 => then_n ?_))
  refine wp_seq ?_
  refine wp_seq (rg_seq FF1 MM1 [o_, w_ 3, o_, o_, w_ 3, o_] [5, 4, 0, 1, 13] (fun Kt => ¬ (k < 1) ∧ ¬ (k > 256) ∧ Kt [(13, .bool false), (5, iN 0), (4, sB []), (0, iN k), (1, .slice p n c)] O) (by kernel_rfl) (fun _ => by kernel_rfl) (⟨(by omega), (by omega), fun ac2 wd2 FF2 MM2 => then_n ?_⟩))
  refine wp_cond_false (FF2.ev 0 rfl) ?_
  refine wp_skip ?_
  refine then_n ?_
  refine wp_seq ?_
  refine wp_seq (rg_seq FF2 MM2 [o_, o_, o_] [5, 4, 0, 1, 16] (fun Kt => Kt [(16, .bool (decide (n > 64))), (5, iN 0), (4, sB []), (0, iN k), (1, .slice p n c)] O) (by kernel_rfl) (fun _ => by kernel_rfl) (fun ac3 wd3 FF3 MM3 => then_n ?_))
  by_cases hs16 : n > 64
  · refine wp_cond_true ((FF3.ev 0 rfl).trans (dec_t hs16)) ?_
    refine wp_seq (rg_seq FF3 MM3 [o_, o_] [5, 4, 0, 1] (fun Kt => Kt [(5, iN 6), (4, sB []), (0, iN k), (1, .slice p n c)] O) (by kernel_rfl) (fun _ => by kernel_rfl) (fun ac4 wd4 FF4 MM4 => then_n ?_))
    refine wp_ret ?_
    repeat first | refine then_ret ?_ | refine inb_ret ?_
    exact (ret_tup2 FF4 1 0 Try.results21 rfl rfl ⟨by rw [listR_many h1 h2 hs16], MM4.belowN H (fun _ hx => hx)⟩)
  · refine wp_cond_false ((FF3.ev 0 rfl).trans (dec_f hs16)) ?_
    have h2b : ∀ i, [n, 0].getD i 0 < 256 := cons_lt (by omega) (lit_lt (by kernel_rfl))
    refine wp_skip ?_
    refine then_n ?_
    refine wp_seq (rg_seq FF3 MM3 [o_, o_, t_ (iB n), o_, l_ 0 (sB (n :: 0 :: flatF s 0)), o_] [5, 4, 0, 1, 6] (fun Kt => iB (n % 256) = iB n ∧ ∀ b1, b1 = b1 ∧ StrAt (cn .u8 ([n, 0])) 0 2 (bs (n :: 0 :: flatF s 0)) ∧ Kt [(6, sB (n :: 0 :: flatF s 0)), (5, iN 0), (4, sB []), (0, iN k), (1, .slice p n c)] ((b1, .cells (cn .u8 ([n, 0])) 5) :: O)) (by kernel_rfl) (fun _ => by kernel_rfl) (⟨(vI (Nat.mod_eq_of_lt (by omega))), fun b1 => ⟨rfl, (str_all rfl h2b), fun ac5 wd5 FF5 MM5 => then_n ?_⟩⟩))
    refine wp_seq ?_
    refine wp_seq (rg_seq FF5 MM5 [o_] [6, 5, 4, 0, 1, 7] (fun Kt => Kt [(7, iN 0), (6, sB (n :: 0 :: flatF s 0)), (5, iN 0), (4, sB []), (0, iN k), (1, .slice p n c)] ((b1, .cells (cn .u8 ([n, 0])) 5) :: O)) (by kernel_rfl) (fun _ => by kernel_rfl) (fun ac6 wd6 FF6 MM6 => then_n ?_))
    refine wp_for2 (fun a' w' => ∃ i : Nat, i ≤ n ∧ (∀ j, j < i → (s j).length = k) ∧ Fr 42 a' [(7, iN i), (6, sB (n :: 0 :: flatF s i)), (0, iN k), (1, .slice p n c)] ∧ MemS (fun k => k < w0.heap.size ∧ ∀ x ∈ O, x.1 ≠ k) w0 w' ((b1, .cells (cn .u8 ([n, 0])) 5) :: O) []) (fun a' _ => (n - cnt 7 a').toNat) ⟨0, Nat.zero_le _, (fun j hj => absurd hj (Nat.not_lt_zero _)), FF6.pick [0, 1, 4, 5], MM6⟩ ?_
    rintro ac7 wd7 ⟨i, hi, hA, FF7, MM7⟩
    have hc := cnt_of (FF7.get 0 rfl)
    refine rg_seq FF7 MM7 [o_, o_, o_, o_] [7, 6, 0, 1, 25] (fun Kt => Kt [(25, .bool (decide (i < n))), (7, iN i), (6, sB (n :: 0 :: flatF s i)), (0, iN k), (1, .slice p n c)] ((b1, .cells (cn .u8 ([n, 0])) 5) :: O)) (by kernel_rfl) (fun _ => by kernel_rfl) (fun ac8 wd8 FF8 MM8 => ?_)
    by_cases hlt : i < n
    · skip
      refine then_n (.inl ⟨(FF8.ev 0 rfl).trans (dec_t hlt), ?_⟩)
      refine wp_seq ?_
      refine wp_seq (rg_seq FF8 MM8 [o_, o_, f_ (.pointer (some ⟨gOf p, oOf p + i, none⟩)), f_ (sB (s i)), t_ (iN ((s i).length)), o_, o_] [7, 6, 0, 1, 34] (fun Kt => RunV Try.prog [(29, iN i), (28, .slice p n c), (25, .bool (decide (i < n))), (7, iN i), (6, sB (n :: 0 :: flatF s i)), (0, iN k), (1, .slice p n c)] ((b1, .cells (cn .u8 ([n, 0])) 5) :: O) (opAt Try.f21 9 2) (.pointer (some ⟨gOf p, oOf p + i, none⟩)) ∧ RunV Try.prog [(30, .pointer (some ⟨gOf p, oOf p + i, none⟩)), (29, iN i), (28, .slice p n c), (25, .bool (decide (i < n))), (7, iN i), (6, sB (n :: 0 :: flatF s i)), (0, iN k), (1, .slice p n c)] ((b1, .cells (cn .u8 ([n, 0])) 5) :: O) (opAt Try.f21 9 3) (sB (s i)) ∧ iN ((bs (s i)).size) = iN ((s i).length) ∧ Kt [(34, .bool (decide (((s i).length) ≠ k))), (7, iN i), (6, sB (n :: 0 :: flatF s i)), (0, iN k), (1, .slice p n c)] ((b1, .cells (cn .u8 ([n, 0])) 5) :: O)) (by kernel_rfl) (fun _ => by kernel_rfl) (⟨(rowX_addr (x := (.tmp 28)) (y := (.tmp 29)) (k := 1) (i := i) (by kernel_rfl) rfl rfl Try.underlying26 (by kernel_rfl) hF (by omega) (by omega)), (rowX_load (x := (.tmp 30)) (j := i) (by kernel_rfl) rfl Try.underlying9 rfl hF (fun _ hx => List.mem_cons_of_mem _ (hx)) (by omega) rfl), (vI (bs_size _)), fun ac9 wd9 FF9 MM9 => then_n ?_⟩))
      by_cases hs34 : ((s i).length) ≠ k
      · refine wp_cond_true ((FF9.ev 0 rfl).trans (dec_t hs34)) ?_
        refine wp_seq (rg_seq FF9 MM9 [o_, o_] [7, 6, 0, 1, 4, 5] (fun Kt => Kt [(5, iN 5), (4, sB []), (7, iN i), (6, sB (n :: 0 :: flatF s i)), (0, iN k), (1, .slice p n c)] ((b1, .cells (cn .u8 ([n, 0])) 5) :: O)) (by kernel_rfl) (fun _ => by kernel_rfl) (fun ac10 wd10 FF10 MM10 => then_n ?_))
        refine wp_ret ?_
        repeat first | refine then_ret ?_ | refine inb_ret ?_
        exact (ret_tup2 FF10 1 0 Try.results21 rfl rfl ⟨by rw [listR_form h1 h2 (by omega) (fun h => hs34 (h i hlt))], MM10.belowN H (fun _ hx => List.mem_cons_of_mem _ (hx))⟩)
      · refine wp_cond_false ((FF9.ev 0 rfl).trans (dec_f hs34)) ?_
        have hsi : (s i).length = k := Decidable.of_not_not hs34
        refine wp_skip ?_
        refine then_n ?_
        have hfl := flatF_len hA
        have hkn : k * i ≤ 256 * 64 := Nat.mul_le_mul h2 (by omega)
        refine rg_seq FF9 MM9 [o_, o_, o_, f_ (.pointer (some ⟨gOf p, oOf p + i, none⟩)), f_ (sB (s i)), t_ (sB (n :: 0 :: flatF s (i + 1))), o_] [7, 6, 0, 1] (fun Kt => RunV Try.prog [(37, iN i), (36, .slice p n c), (35, sB (n :: 0 :: flatF s i)), (34, .bool (decide (((s i).length) ≠ k))), (7, iN i), (6, sB (n :: 0 :: flatF s i)), (0, iN k), (1, .slice p n c)] ((b1, .cells (cn .u8 ([n, 0])) 5) :: O) (opAt Try.f21 11 3) (.pointer (some ⟨gOf p, oOf p + i, none⟩)) ∧ RunV Try.prog [(38, .pointer (some ⟨gOf p, oOf p + i, none⟩)), (37, iN i), (36, .slice p n c), (35, sB (n :: 0 :: flatF s i)), (34, .bool (decide (((s i).length) ≠ k))), (7, iN i), (6, sB (n :: 0 :: flatF s i)), (0, iN k), (1, .slice p n c)] ((b1, .cells (cn .u8 ([n, 0])) 5) :: O) (opAt Try.f21 11 4) (sB (s i)) ∧ (bs (n :: 0 :: flatF s i)).size + (bs (s i)).size ≤ 9223372036854775807 ∧ Value.string (bs (n :: 0 :: flatF s i) ++ bs (s i)) = sB (n :: 0 :: flatF s (i + 1)) ∧ Kt [(6, sB (n :: 0 :: flatF s (i + 1))), (7, iN i), (0, iN k), (1, .slice p n c)] ((b1, .cells (cn .u8 ([n, 0])) 5) :: O)) (by kernel_rfl) (fun _ => by kernel_rfl) (⟨(rowX_addr (x := (.tmp 36)) (y := (.tmp 37)) (k := 1) (i := i) (by kernel_rfl) rfl rfl Try.underlying26 (by kernel_rfl) hF (by omega) (by omega)), (rowX_load (x := (.tmp 38)) (j := i) (by kernel_rfl) rfl Try.underlying9 rfl hF (fun _ hx => List.mem_cons_of_mem _ (hx)) (by omega) rfl), (by simp only [bs_size, List.length_cons]; omega), (vS2 ((bs_app _ _).trans (congrArg bs (list_step n s i)))), fun ac11 wd11 FF11 MM11 => ?_⟩)
        refine inb_n (then_n ?_)
        refine rg_seq FF11 MM11 [o_, o_, o_] [6, 7, 0, 1] (fun Kt => i + 1 < 9223372036854775808 ∧ Kt [(7, iN (i + 1)), (6, sB (n :: 0 :: flatF s (i + 1))), (0, iN k), (1, .slice p n c)] ((b1, .cells (cn .u8 ([n, 0])) 5) :: O)) (by kernel_rfl) (fun _ => by kernel_rfl) (⟨(by omega), fun ac12 wd12 FF12 MM12 => ?_⟩)
        have hd := cnt_of (FF12.get 0 rfl)
        refine then_n ⟨⟨i + 1, by omega, (fun j hj => (Nat.lt_or_ge j i).elim (hA j) (fun h => (show i = j by omega) ▸ hsi)), FF12.pick [0, 1, 2, 3], MM12⟩, ?_⟩
        rw [hc, hd]; omega
    · skip
      refine then_n (.inr ⟨(FF8.ev 0 rfl).trans (dec_f hlt), ?_⟩)
      obtain rfl : n = i := by omega
      refine then_n ?_
      refine wp_seq (rg_seq FF8 MM8 [o_, o_, o_] [7, 6, 0, 1, 4, 5] (fun Kt => Kt [(5, iN 0), (4, sB (n :: 0 :: flatF s n)), (7, iN n), (6, sB (n :: 0 :: flatF s n)), (0, iN k), (1, .slice p n c)] ((b1, .cells (cn .u8 ([n, 0])) 5) :: O)) (by kernel_rfl) (fun _ => by kernel_rfl) (fun ac13 wd13 FF13 MM13 => then_n ?_))
      refine wp_ret ?_
      repeat first | refine then_ret ?_ | refine inb_ret ?_
      exact (ret_tup2 FF13 1 0 Try.results21 rfl rfl ⟨by rw [listR_ok h1 h2 (by omega) hA], MM13.belowN H (fun _ hx => List.mem_cons_of_mem _ (hx))⟩)
set_option maxRecDepth 100000 in
theorem rlist_badO (O : Blks) (hD : Distinct O) (p : Option Addr) (n c : Nat) (s : Nat → List Nat) (_hn : n ≤ 1000000) (z : Int) (hz : z < 1 ∨ z > 256) (_hF : RowO O p n (fun k9 => sB (s k9))) (w0 : World) (H : Has w0 O) :
    Calls Try.prog 21 #[.int .i64 z, .slice p n c] w0 fun e w' => e = .returned (.tuple #[.string (bs (listR z n s).1), iN ((listR z n s).2)]) ∧ Below w0.heap.size w0 w' := by
  refine enter_fr Try.func21 rfl Try.ntmps21 (by simp) fun ac (FF : Fr 42 ac [(0, .int .i64 (z : Int)), (1, .slice p n c)]) => ?_
  have MM : MemS (fun k => k < w0.heap.size ∧ ∀ x ∈ O, x.1 ≠ k) w0 w0 O [] := MemS.startN H hD
  refine wp_seq (rg_seq FF MM [o_, o_] [0, 1, 4, 5] (fun Kt => Kt [(5, iN 0), (4, sB []), (0, .int .i64 (z : Int)), (1, .slice p n c)] O) (by kernel_rfl) (fun _ => by kernel_rfl) (fun ac1 wd1 FF1 MM1 => then_n ?_))
  refine wp_seq ?_
  by_cases hlo : z < 1
  · skip
    refine wp_seq (rg_seq FF1 MM1 [o_, w_ 6, o_, o_, o_, o_] [5, 4, 0, 1, 13] (fun Kt => z < ((1 : Nat) : Int) ∧ Kt [(13, .bool true), (5, iN 0), (4, sB []), (0, .int .i64 (z : Int)), (1, .slice p n c)] O) (by kernel_rfl) (fun _ => by kernel_rfl) (⟨(by omega), fun ac2 wd2 FF2 MM2 => then_n ?_⟩))
    refine wp_cond_true (FF2.ev 0 rfl) ?_
    refine wp_seq (rg_seq FF2 MM2 [o_, o_] [5, 4, 0, 1] (fun Kt => Kt [(5, iN 1), (4, sB []), (0, .int .i64 (z : Int)), (1, .slice p n c)] O) (by kernel_rfl) (fun _ => by kernel_rfl) (fun ac3 wd3 FF3 MM3 => then_n ?_))
    refine wp_ret ?_
    repeat first | refine then_ret ?_ | refine inb_ret ?_
    exact (ret_tup2 FF3 1 0 Try.results21 rfl rfl ⟨by rw [listR_bad hz], MM3.belowN H (fun _ hx => hx)⟩)
  · skip
    refine wp_seq (rg_seq FF1 MM1 [o_, u_ 4 (.bool false), o_, o_, w_ 6, o_] [5, 4, 0, 1, 13] (fun Kt => Value.bool (decide (z < ((1 : Nat) : Int))) = .bool false ∧ z > ((256 : Nat) : Int) ∧ Kt [(13, .bool true), (5, iN 0), (4, sB []), (0, .int .i64 (z : Int)), (1, .slice p n c)] O) (by kernel_rfl) (fun _ => by kernel_rfl) (⟨(dec_f (by omega)), (by omega), fun ac4 wd4 FF4 MM4 => then_n ?_⟩))
    refine wp_cond_true (FF4.ev 0 rfl) ?_
    refine wp_seq (rg_seq FF4 MM4 [o_, o_] [5, 4, 0, 1] (fun Kt => Kt [(5, iN 1), (4, sB []), (0, .int .i64 (z : Int)), (1, .slice p n c)] O) (by kernel_rfl) (fun _ => by kernel_rfl) (fun ac5 wd5 FF5 MM5 => then_n ?_))
    refine wp_ret ?_
    repeat first | refine then_ret ?_ | refine inb_ret ?_
    exact (ret_tup2 FF5 1 0 Try.results21 rfl rfl ⟨by rw [listR_bad hz], MM5.belowN H (fun _ hx => hx)⟩)
theorem rlist_w (p : Option Addr) (n c : Nat) (s : Nat → List Nat) (hn : n ≤ 1000000) (z : Int) (w : World) (hF : RowIn w p n (fun k9 => sB (s k9))) :
    Calls Try.prog 21 #[.int .i64 z, .slice p n c] w fun e w' => e = .returned (.tuple #[.string (bs (listR z n s).1), iN ((listR z n s).2)]) ∧ Below w.heap.size w w' := by
  obtain ⟨O, g1, g2, g3⟩ := row_O hF
  by_cases hz : z < 1 ∨ z > 256
  · exact rlist_badO O g2 p n c s hn z hz g3 w g1
  · obtain ⟨k, rfl⟩ := Int.eq_ofNat_of_zero_le (a := z) (by omega)
    exact rlist_natO O g2 p n c s hn k (by omega) (by omega) g3 w g1
end Go.Proofs.Ytjpfdmkbmpecnaa
namespace Go.Proofs.Ytjpfdmkbmpecnaa
open Go.RowKit
set_option maxRecDepth 100000 in
theorem items_okw (X : List Nat) (hX : ∀ i, X.getD i 0 < 256) (k : Nat) (h1 : 1 ≤ k) (h2 : k ≤ 256) (hL : IsL k X) (n : Nat) (hn0 : X.getD 0 0 = n) (w0 : World) :
    Calls Try.prog 22 #[iN k, sB X] w0 fun e w' => ∃ v, e = .returned (.tuple #[.slice (pOf v) n (cOf v), iN 0]) ∧ Below w0.heap.size w0 w' ∧ RowNew w0.heap.size w' (pOf v) n (fun k9 => sB (itemAt (k : Nat) X k9)) ∧ n ≤ cOf v := by
  refine enter_fr Try.func22 rfl Try.ntmps22 (by simp) fun ac (FF : Fr 58 ac [(0, iN k), (1, sB X)]) => ?_
  have MM := MemS.start w0
  have hdl := isL_drop hL hn0
  have hn64 : n ≤ 64 := hn0 ▸ hL.2.2.1
  have h2l := hL.1
  refine wp_seq (rg_seq FF MM [o_, o_] [0, 1, 4, 5] (fun Kt => Kt [(5, iN 0), (4, .slice none 0 0), (0, iN k), (1, sB X)] []) (by kernel_rfl) (fun _ => by kernel_rfl) (fun ac1 wd1 FF1 MM1 => then_n ?_))
  refine wp_seq ?_
  refine wp_seq (rg_seq FF1 MM1 [o_, t_ (.bool true), o_] [5, 4, 0, 1, 12] (fun Kt => CallP Try.prog 29 [iN k] [] (.bool true) ∧ Kt [(12, .bool false), (5, iN 0), (4, .slice none 0 0), (0, iN k), (1, sB X)] []) (by kernel_rfl) (fun _ => by kernel_rfl) (⟨(callP_of en_maysz (maysz_yes k (by omega) (by omega)) _), fun ac2 wd2 FF2 MM2 => then_n ?_⟩))
  refine wp_cond_false (FF2.ev 0 rfl) ?_
  refine wp_skip ?_
  refine then_n ?_
  refine wp_seq ?_
  refine wp_seq (rg_seq FF2 MM2 [o_, t_ (iN X.length), w_ 3] [5, 4, 0, 1, 15] (fun Kt => iN ((bs X).size) = iN X.length ∧ ¬ (X.length < 2) ∧ Kt [(15, .bool false), (5, iN 0), (4, .slice none 0 0), (0, iN k), (1, sB X)] []) (by kernel_rfl) (fun _ => by kernel_rfl) (⟨(vI (bs_size _)), (by omega), fun ac3 wd3 FF3 MM3 => then_n ?_⟩))
  refine wp_cond_false (FF3.ev 0 rfl) ?_
  refine wp_skip ?_
  refine then_n ?_
  refine wp_seq (rg_draw FF3 MM3 [.inl (sB X), .inl (iB (X.getD 0 0)), .inl (iN (X.getD 0 0)), .inl (sB X), .inl (iB (X.getD 1 0)), .inl (iN (X.getD 1 0)), .inl (iN ((X.getD 1 0) * 256)), .inl (iN n), .inl (iN n)] [] [o_, t_ (iB (X.getD 0 0)), w_ 1, o_, t_ (iB (X.getD 1 0)), w_ 1, o_, t_ (iN n), o_] [] [5, 4, 0, 1, 6] (fun nb => [0 < (bs X).size, (nl (bs X)).getD 0 0 = X.getD 0 0, (X.getD 0 0) < 9223372036854775808, 1 < (bs X).size, (nl (bs X)).getD 1 0 = X.getD 1 0, (X.getD 1 0) < 9223372036854775808, (X.getD 1 0) * 256 < 9223372036854775808, 8 ≤ 64, (X.getD 0 0) < 9223372036854775808, ((X.getD 1 0) * 256) < 9223372036854775808, iN ((X.getD 0 0) ||| ((X.getD 1 0) * 256)) = iN n]) (fun nb Kt => Kt [(6, iN n), (5, iN 0), (4, .slice none 0 0), (0, iN k), (1, sB X)] []) (by kernel_rfl) (by kernel_rfl) (by kernel_rfl) (fun _ => by kernel_rfl) (fun _ _ => by kernel_rfl) trivial (fun nb => ⟨(by simp only [bs_size]; omega), (byte_bs hX _), (by have := hX 0; omega), (by simp only [bs_size]; omega), (byte_bs hX _), (by have := hX 1; omega), (by have := hX 1; omega), (by decide), (by have := hX 0; omega), (by have := hX 1; omega), (vI (isL_sum hX hL hn0)), trivial⟩) (fun nb => fun ac4 wd4 FF4 MM4 => then_n ?_))
  refine wp_seq (rg_seq FF4 MM4 [o_, t_ (sB (X.drop 2)), o_] [6, 5, 4, 0, 1, 7] (fun Kt => 2 ≤ (bs X).size ∧ 0 ≤ (bs X).size ∧ Value.string ((bs X).extract 2 (bs X).size) = sB (X.drop 2) ∧ Kt [(7, sB (X.drop 2)), (6, iN n), (5, iN 0), (4, .slice none 0 0), (0, iN k), (1, sB X)] []) (by kernel_rfl) (fun _ => by kernel_rfl) (⟨(by simp only [bs_size]; omega), (Nat.zero_le _), (vS2 (bs_from _ _)), fun ac5 wd5 FF5 MM5 => then_n ?_⟩))
  refine wp_seq ?_
  refine wp_seq (rg_seq FF5 MM5 [o_, w_ 3, o_, o_, t_ (iN (n * k)), o_, o_, o_, w_ 3, o_] [7, 6, 5, 4, 0, 1, 35] (fun Kt => ¬ (n > 64) ∧ iN ((bs (X.drop 2)).size) = iN (n * k) ∧ n * k < 9223372036854775808 ∧ ¬ ((n * k) ≠ (n * k)) ∧ Kt [(35, .bool false), (7, sB (X.drop 2)), (6, iN n), (5, iN 0), (4, .slice none 0 0), (0, iN k), (1, sB X)] []) (by kernel_rfl) (fun _ => by kernel_rfl) (⟨(by omega), (vI ((bs_size _).trans (by assumption))), (mul_fit (by omega) h2), (fun h => h rfl), fun ac6 wd6 FF6 MM6 => then_n ?_⟩))
  refine wp_cond_false (FF6.ev 0 rfl) ?_
  refine wp_skip ?_
  refine then_n ?_
  refine wp_seq (rg_seq FF6 MM6 [o_, n_ (.slice none n n) (.cells (fc n (fun k9 => sB [])) 9), o_] [7, 6, 5, 4, 0, 1, 8] (fun Kt => RunN Try.prog [(36, iN n), (35, .bool false), (7, sB (X.drop 2)), (6, iN n), (5, iN 0), (4, .slice none 0 0), (0, iN k), (1, sB X)] [] (opAt Try.f22 9 1) (mkOf (.slice none n n)) (.cells (fc n (fun k9 => sB [])) 9) ∧ ∀ bl, Kt [(8, .slice (some ⟨bl, 0, none⟩) n n), (7, sB (X.drop 2)), (6, iN n), (5, iN 0), (4, .slice none 0 0), (0, iN k), (1, sB X)] [(bl, .cells (fc n (fun k9 => sB [])) 9)]) (by kernel_rfl) (fun _ => by kernel_rfl) (⟨(makeF_ok (t := 26) (e := 9) (p := (.tmp 36)) (q := (.tmp 36)) (bb := 16) (z := sB []) (by kernel_rfl) rfl rfl Try.underlying26 (by kernel_rfl) rfl (by omega) (by omega)), fun bl => fun ac7 wd7 FF7 MM7 => then_n ?_⟩))
  have MMr8 : MemS (fun k => k < w0.heap.size) w0 wd7 [(bl, .cells (fc n (fun k9 => sB (if k9 < 0 then itemAt (k : Nat) X k9 else []))) 9)] [] := by rw [show fc n (fun k9 => sB (if k9 < 0 then itemAt (k : Nat) X k9 else [])) = fc n (fun k9 => sB []) from fc_cong fun j _ => vS (if_neg (Nat.not_lt_zero j))]; exact MM7
  refine wp_seq ?_
  refine wp_seq (rg_seq FF7 MMr8 [o_, o_, o_] [8, 7, 6, 5, 4, 0, 1, 39, 40] (fun Kt => Kt [(40, iN 0), (39, iN n), (8, .slice (some ⟨bl, 0, none⟩) n n), (7, sB (X.drop 2)), (6, iN n), (5, iN 0), (4, .slice none 0 0), (0, iN k), (1, sB X)] [(bl, .cells (fc n (fun k9 => sB (if k9 < 0 then itemAt (k : Nat) X k9 else []))) 9)]) (by kernel_rfl) (fun _ => by kernel_rfl) (fun ac9 wd9 FF9 MM9 => then_n ?_))
  refine wp_for (fun a' w' => ∃ i : Nat, i ≤ n ∧ Fr 58 a' [(40, iN i), (39, iN n), (8, .slice (some ⟨bl, 0, none⟩) n n), (7, sB (X.drop 2)), (6, iN n), (5, iN 0), (4, .slice none 0 0), (0, iN k), (1, sB X)] ∧ MemS (fun k => k < w0.heap.size) w0 w' [(bl, .cells (fc n (fun k9 => sB (if k9 < i then itemAt (k : Nat) X k9 else []))) 9)] []) (fun a' _ => (n - cnt 40 a').toNat) ⟨0, Nat.zero_le _, FF9.pick [0, 1, 2, 3, 4, 5, 6, 7, 8], MM9⟩ ?_
  rintro ac10 wd10 ⟨i, hi, FF10, MM10⟩
  have hc := cnt_of (FF10.get 0 rfl)
  refine rg_seq FF10 MM10 [o_] [40, 39, 8, 7, 6, 5, 4, 0, 1, 41] (fun Kt => Kt [(41, .bool (decide (i < n))), (40, iN i), (39, iN n), (8, .slice (some ⟨bl, 0, none⟩) n n), (7, sB (X.drop 2)), (6, iN n), (5, iN 0), (4, .slice none 0 0), (0, iN k), (1, sB X)] [(bl, .cells (fc n (fun k9 => sB (if k9 < i then itemAt (k : Nat) X k9 else []))) 9)]) (by kernel_rfl) (fun _ => by kernel_rfl) (fun ac11 wd11 FF11 MM11 => ?_)
  by_cases hlt : i < n
  · skip
    refine then_n (.inl ⟨(FF11.ev 0 rfl).trans (dec_t hlt), ?_⟩)
    refine wp_seq (rg_seq FF11 MM11 [o_, o_] [40, 39, 8, 7, 6, 5, 4, 0, 1, 9] (fun Kt => Kt [(9, iN i), (40, iN i), (39, iN n), (8, .slice (some ⟨bl, 0, none⟩) n n), (7, sB (X.drop 2)), (6, iN n), (5, iN 0), (4, .slice none 0 0), (0, iN k), (1, sB X)] [(bl, .cells (fc n (fun k9 => sB (if k9 < i then itemAt (k : Nat) X k9 else []))) 9)]) (by kernel_rfl) (fun _ => by kernel_rfl) (fun ac12 wd12 FF12 MM12 => then_n ?_))
    have e1 : (i + 1) * k = i * k + k := Nat.succ_mul i k
    have e2 : (i + 1) * k ≤ n * k := Nat.mul_le_mul_right k hlt
    refine rg_seq FF12 MM12 [o_, o_, o_, o_, o_, o_, o_, o_, o_, o_, t_ (sB (itemAt (k : Nat) X i)), t_ (sB (itemAt (k : Nat) X i)), w_ 1, s_ 0 (.cells (fc n (fun k9 => sB (if k9 < i + 1 then itemAt (k : Nat) X k9 else []))) 9)] [9, 40, 39, 8, 7, 6, 5, 4, 0, 1] (fun Kt => i * k < 9223372036854775808 ∧ i + 1 < 9223372036854775808 ∧ (i + 1) * k < 9223372036854775808 ∧ (i * k) ≤ ((i + 1) * k) ∧ ((i + 1) * k) ≤ (bs (X.drop 2)).size ∧ Value.string ((bs (X.drop 2)).extract (i * k) ((i + 1) * k)) = sB (itemAt (k : Nat) X i) ∧ CallP Try.prog 26 [sB (itemAt (k : Nat) X i)] [] (sB (itemAt (k : Nat) X i)) ∧ i < n ∧ bl = bl ∧ i < (fc n (fun k9 => sB (if k9 < i then itemAt (k : Nat) X k9 else []))).size ∧ (((0, 0)).2 = 0 ∨ i < ((0, 0)).1) ∧ (fc n (fun k9 => sB (if k9 < i then itemAt (k : Nat) X k9 else []))).setIfInBounds i (sB (itemAt (k : Nat) X i)) = fc n (fun k9 => sB (if k9 < i + 1 then itemAt (k : Nat) X k9 else [])) ∧ Kt [(9, iN i), (40, iN i), (39, iN n), (8, .slice (some ⟨bl, 0, none⟩) n n), (7, sB (X.drop 2)), (6, iN n), (5, iN 0), (4, .slice none 0 0), (0, iN k), (1, sB X)] [(bl, .cells (fc n (fun k9 => sB (if k9 < i + 1 then itemAt (k : Nat) X k9 else []))) 9)]) (by kernel_rfl) (fun _ => by kernel_rfl) (⟨(mul_fit (by omega) h2), (by omega), (mul_fit (by omega) h2), (by omega), (by rw [bs_size, show (X.drop 2).length = n * k from hdl]; omega), (vS2 ((bs_extract _ _ _).trans (congrArg bs (item_cut k X i)))), (callP_of en_clone (clone_any (itemAt (k : Nat) X i) (itemAt_lt hX i) (by rw [item_len hL (by omega)]; omega)) _), (by omega), rfl, (by rw [fc_size]; exact hlt), (.inl rfl), ((fc_set _ _ _ _).trans (fc_cong fun j _ => ite_str.trans (vS (upto_set (itemAt (k : Nat) X) i j)))), fun ac13 wd13 FF13 MM13 => ?_⟩)
    refine inb_n (then_n ?_)
    refine rg_seq FF13 MM13 [o_, o_] [9, 40, 39, 8, 7, 6, 5, 4, 0, 1] (fun Kt => i + 1 < 9223372036854775808 ∧ Kt [(40, iN (i + 1)), (9, iN i), (39, iN n), (8, .slice (some ⟨bl, 0, none⟩) n n), (7, sB (X.drop 2)), (6, iN n), (5, iN 0), (4, .slice none 0 0), (0, iN k), (1, sB X)] [(bl, .cells (fc n (fun k9 => sB (if k9 < i + 1 then itemAt (k : Nat) X k9 else []))) 9)]) (by kernel_rfl) (fun _ => by kernel_rfl) (⟨(by omega), fun ac14 wd14 FF14 MM14 => ?_⟩)
    have hd := cnt_of (FF14.get 0 rfl)
    refine then_n ⟨⟨i + 1, by omega, FF14.pick [0, 2, 3, 4, 5, 6, 7, 8, 9], MM14⟩, ?_⟩
    rw [hc, hd]; omega
  · skip
    refine then_n (.inr ⟨(FF11.ev 0 rfl).trans (dec_f hlt), ?_⟩)
    obtain rfl : n = i := by omega
    have MMr15 : MemS (fun k => k < w0.heap.size) w0 wd11 [(bl, .cells (fc n (fun k9 => sB (itemAt (k : Nat) X k9))) 9)] [] := by rw [show fc n (fun k9 => sB (itemAt (k : Nat) X k9)) = fc n (fun k9 => sB (if k9 < n then itemAt (k : Nat) X k9 else [])) from fc_cong fun j hj => vS (if_pos hj).symm]; exact MM11
    refine then_n ?_
    refine wp_seq (rg_seq FF11 MMr15 [o_, o_, o_] [40, 39, 8, 7, 6, 5, 4, 0, 1] (fun Kt => Kt [(5, iN 0), (4, .slice (some ⟨bl, 0, none⟩) n n), (40, iN n), (39, iN n), (8, .slice (some ⟨bl, 0, none⟩) n n), (7, sB (X.drop 2)), (6, iN n), (0, iN k), (1, sB X)] [(bl, .cells (fc n (fun k9 => sB (itemAt (k : Nat) X k9))) 9)]) (by kernel_rfl) (fun _ => by kernel_rfl) (fun ac16 wd16 FF16 MM16 => then_n ?_))
    refine wp_ret ?_
    repeat first | refine then_ret ?_ | refine inb_ret ?_
    exact (ret_tup2 FF16 1 0 Try.results22 rfl rfl ⟨.slice (some ⟨bl, 0, none⟩) n n, rfl, MM16.below, rowNew_fc (MM16.get 0 rfl) (MM16.fresh 0 rfl), Nat.le_refl _⟩)
set_option maxRecDepth 100000 in
theorem items_now (X : List Nat) (hX : ∀ i, X.getD i 0 < 256) (k : Nat) (h1 : 1 ≤ k) (h2 : k ≤ 256) (hL : ¬ IsL k X) (w0 : World) :
    Calls Try.prog 22 #[iN k, sB X] w0 fun e w' => e = .returned (.tuple #[.slice none 0 0, iN 5]) ∧ Below w0.heap.size w0 w' := by
  refine enter_fr Try.func22 rfl Try.ntmps22 (by simp) fun ac (FF : Fr 58 ac [(0, iN k), (1, sB X)]) => ?_
  have MM := MemS.start w0
  obtain ⟨m, hm⟩ : ∃ m, X.getD 0 0 + X.getD 1 0 * 256 = m := ⟨_, rfl⟩
  have hm16 : m < 65792 := by have := hX 0; have := hX 1; omega
  refine wp_seq (rg_seq FF MM [o_, o_] [0, 1, 4, 5] (fun Kt => Kt [(5, iN 0), (4, .slice none 0 0), (0, iN k), (1, sB X)] []) (by kernel_rfl) (fun _ => by kernel_rfl) (fun ac1 wd1 FF1 MM1 => then_n ?_))
  refine wp_seq ?_
  refine wp_seq (rg_seq FF1 MM1 [o_, t_ (.bool true), o_] [5, 4, 0, 1, 12] (fun Kt => CallP Try.prog 29 [iN k] [] (.bool true) ∧ Kt [(12, .bool false), (5, iN 0), (4, .slice none 0 0), (0, iN k), (1, sB X)] []) (by kernel_rfl) (fun _ => by kernel_rfl) (⟨(callP_of en_maysz (maysz_yes k (by omega) (by omega)) _), fun ac2 wd2 FF2 MM2 => then_n ?_⟩))
  refine wp_cond_false (FF2.ev 0 rfl) ?_
  refine wp_skip ?_
  refine then_n ?_
  refine wp_seq ?_
  refine wp_seq (rg_seq FF2 MM2 [o_, t_ (iN X.length), o_] [5, 4, 0, 1, 15] (fun Kt => iN ((bs X).size) = iN X.length ∧ Kt [(15, .bool (decide (X.length < 2))), (5, iN 0), (4, .slice none 0 0), (0, iN k), (1, sB X)] []) (by kernel_rfl) (fun _ => by kernel_rfl) (⟨(vI (bs_size _)), fun ac3 wd3 FF3 MM3 => then_n ?_⟩))
  by_cases hs15 : X.length < 2
  · refine wp_cond_true ((FF3.ev 0 rfl).trans (dec_t hs15)) ?_
    refine wp_seq (rg_seq FF3 MM3 [o_, o_] [5, 4, 0, 1] (fun Kt => Kt [(5, iN 5), (4, .slice none 0 0), (0, iN k), (1, sB X)] []) (by kernel_rfl) (fun _ => by kernel_rfl) (fun ac4 wd4 FF4 MM4 => then_n ?_))
    refine wp_ret ?_
    repeat first | refine then_ret ?_ | refine inb_ret ?_
    exact (ret_tup2 FF4 1 0 Try.results22 rfl rfl ⟨rfl, MM4.below⟩)
  · refine wp_cond_false ((FF3.ev 0 rfl).trans (dec_f hs15)) ?_
    refine wp_skip ?_
    refine then_n ?_
    refine wp_seq (rg_draw FF3 MM3 [.inl (sB X), .inl (iB (X.getD 0 0)), .inl (iN (X.getD 0 0)), .inl (sB X), .inl (iB (X.getD 1 0)), .inl (iN (X.getD 1 0)), .inl (iN ((X.getD 1 0) * 256)), .inl (iN m), .inl (iN m)] [] [o_, t_ (iB (X.getD 0 0)), w_ 1, o_, t_ (iB (X.getD 1 0)), w_ 1, o_, t_ (iN m), o_] [] [5, 4, 0, 1, 6] (fun nb => [0 < (bs X).size, (nl (bs X)).getD 0 0 = X.getD 0 0, (X.getD 0 0) < 9223372036854775808, 1 < (bs X).size, (nl (bs X)).getD 1 0 = X.getD 1 0, (X.getD 1 0) < 9223372036854775808, (X.getD 1 0) * 256 < 9223372036854775808, 8 ≤ 64, (X.getD 0 0) < 9223372036854775808, ((X.getD 1 0) * 256) < 9223372036854775808, iN ((X.getD 0 0) ||| ((X.getD 1 0) * 256)) = iN m]) (fun nb Kt => Kt [(6, iN m), (5, iN 0), (4, .slice none 0 0), (0, iN k), (1, sB X)] []) (by kernel_rfl) (by kernel_rfl) (by kernel_rfl) (fun _ => by kernel_rfl) (fun _ _ => by kernel_rfl) trivial (fun nb => ⟨(by simp only [bs_size]; omega), (byte_bs hX _), (by have := hX 0; omega), (by simp only [bs_size]; omega), (byte_bs hX _), (by have := hX 1; omega), (by have := hX 1; omega), (by decide), (by have := hX 0; omega), (by have := hX 1; omega), (vI ((or_shl 8 (hX 0)).trans hm)), trivial⟩) (fun nb => fun ac5 wd5 FF5 MM5 => then_n ?_))
    refine wp_seq (rg_seq FF5 MM5 [o_, t_ (sB (X.drop 2)), o_] [6, 5, 4, 0, 1, 7] (fun Kt => 2 ≤ (bs X).size ∧ 0 ≤ (bs X).size ∧ Value.string ((bs X).extract 2 (bs X).size) = sB (X.drop 2) ∧ Kt [(7, sB (X.drop 2)), (6, iN m), (5, iN 0), (4, .slice none 0 0), (0, iN k), (1, sB X)] []) (by kernel_rfl) (fun _ => by kernel_rfl) (⟨(by simp only [bs_size]; omega), (Nat.zero_le _), (vS2 (bs_from _ _)), fun ac6 wd6 FF6 MM6 => then_n ?_⟩))
    refine wp_seq ?_
    by_cases h64 : m > 64
    · skip
      refine wp_seq (rg_seq FF6 MM6 [o_, w_ 2, o_, o_, o_, o_, o_, o_, o_, o_] [7, 6, 5, 4, 0, 1, 35] (fun Kt => m > 64 ∧ Kt [(35, .bool true), (7, sB (X.drop 2)), (6, iN m), (5, iN 0), (4, .slice none 0 0), (0, iN k), (1, sB X)] []) (by kernel_rfl) (fun _ => by kernel_rfl) (⟨h64, fun ac7 wd7 FF7 MM7 => then_n ?_⟩))
      refine wp_cond_true (FF7.ev 0 rfl) ?_
      refine wp_seq (rg_seq FF7 MM7 [o_, o_] [7, 6, 5, 4, 0, 1] (fun Kt => Kt [(5, iN 5), (4, .slice none 0 0), (7, sB (X.drop 2)), (6, iN m), (0, iN k), (1, sB X)] []) (by kernel_rfl) (fun _ => by kernel_rfl) (fun ac8 wd8 FF8 MM8 => then_n ?_))
      refine wp_ret ?_
      repeat first | refine then_ret ?_ | refine inb_ret ?_
      exact (ret_tup2 FF8 1 0 Try.results22 rfl rfl ⟨rfl, MM8.below⟩)
    · skip
      refine wp_seq (rg_seq FF6 MM6 [o_, w_ 3, o_, o_, t_ (iN ((X.drop 2).length)), o_, o_, o_, w_ 2, o_] [7, 6, 5, 4, 0, 1, 35] (fun Kt => ¬ (m > 64) ∧ iN ((bs (X.drop 2)).size) = iN ((X.drop 2).length) ∧ m * k < 9223372036854775808 ∧ ((X.drop 2).length) ≠ (m * k) ∧ Kt [(35, .bool true), (7, sB (X.drop 2)), (6, iN m), (5, iN 0), (4, .slice none 0 0), (0, iN k), (1, sB X)] []) (by kernel_rfl) (fun _ => by kernel_rfl) (⟨h64, (vI (bs_size _)), (mul_fit (by omega) h2), (fun h => hL (isL_of (by omega) hm (by omega) h)), fun ac9 wd9 FF9 MM9 => then_n ?_⟩))
      refine wp_cond_true (FF9.ev 0 rfl) ?_
      refine wp_seq (rg_seq FF9 MM9 [o_, o_] [7, 6, 5, 4, 0, 1] (fun Kt => Kt [(5, iN 5), (4, .slice none 0 0), (7, sB (X.drop 2)), (6, iN m), (0, iN k), (1, sB X)] []) (by kernel_rfl) (fun _ => by kernel_rfl) (fun ac10 wd10 FF10 MM10 => then_n ?_))
      refine wp_ret ?_
      repeat first | refine then_ret ?_ | refine inb_ret ?_
      exact (ret_tup2 FF10 1 0 Try.results22 rfl rfl ⟨rfl, MM10.below⟩)
set_option maxRecDepth 100000 in
theorem items_badw (X : List Nat) (z : Int) (hz : z < 1 ∨ z > 256) (w0 : World) :
    Calls Try.prog 22 #[.int .i64 z, sB X] w0 fun e w' => e = .returned (.tuple #[.slice none 0 0, iN 1]) ∧ Below w0.heap.size w0 w' := by
  refine enter_fr Try.func22 rfl Try.ntmps22 (by simp) fun ac (FF : Fr 58 ac [(0, .int .i64 (z : Int)), (1, sB X)]) => ?_
  have MM := MemS.start w0
  refine wp_seq (rg_seq FF MM [o_, o_] [0, 1, 4, 5] (fun Kt => Kt [(5, iN 0), (4, .slice none 0 0), (0, .int .i64 (z : Int)), (1, sB X)] []) (by kernel_rfl) (fun _ => by kernel_rfl) (fun ac1 wd1 FF1 MM1 => then_n ?_))
  refine wp_seq ?_
  refine wp_seq (rg_seq FF1 MM1 [o_, t_ (.bool false), o_] [5, 4, 0, 1, 12] (fun Kt => CallP Try.prog 29 [.int .i64 (z : Int)] [] (.bool false) ∧ Kt [(12, .bool true), (5, iN 0), (4, .slice none 0 0), (0, .int .i64 (z : Int)), (1, sB X)] []) (by kernel_rfl) (fun _ => by kernel_rfl) (⟨(callP_of en_maysz (maysz_no z hz) _), fun ac2 wd2 FF2 MM2 => then_n ?_⟩))
  refine wp_cond_true (FF2.ev 0 rfl) ?_
  refine wp_seq (rg_seq FF2 MM2 [o_, o_] [5, 4, 0, 1] (fun Kt => Kt [(5, iN 1), (4, .slice none 0 0), (0, .int .i64 (z : Int)), (1, sB X)] []) (by kernel_rfl) (fun _ => by kernel_rfl) (fun ac3 wd3 FF3 MM3 => then_n ?_))
  refine wp_ret ?_
  repeat first | refine then_ret ?_ | refine inb_ret ?_
  exact (ret_tup2 FF3 1 0 Try.results22 rfl rfl ⟨rfl, MM3.below⟩)
set_option maxRecDepth 100000 in
theorem ritems_okw (X : List Nat) (hX : ∀ i, X.getD i 0 < 256) (k : Nat) (h1 : 1 ≤ k) (h2 : k ≤ 256) (hL : IsL k X) (n : Nat) (hn0 : X.getD 0 0 = n) (w0 : World) :
    Calls Try.prog 23 #[iN k, sB X] w0 fun e w' => ∃ v, e = .returned (.tuple #[.slice (pOf v) n (cOf v), iN 0]) ∧ Below w0.heap.size w0 w' ∧ RowNew w0.heap.size w' (pOf v) n (fun k9 => sB (itemAt (k : Nat) X k9)) ∧ n ≤ cOf v := by
  refine enter_fr Try.func23 rfl Try.ntmps23 (by simp) fun ac (FF : Fr 62 ac [(0, iN k), (1, sB X)]) => ?_
  have MM := MemS.start w0
  have hn64 : n ≤ 64 := hn0 ▸ hL.2.2.1
  have h2l := hL.1
  have hx1 := hL.2.1
  have hlen : X.length = 2 + k * n := hn0 ▸ hL.2.2.2
  have hkn : k * n ≤ 256 * 65 := Nat.mul_le_mul h2 (by omega)
  refine wp_seq (rg_seq FF MM [o_, o_] [0, 1, 4, 5] (fun Kt => Kt [(5, iN 0), (4, .slice none 0 0), (0, iN k), (1, sB X)] []) (by kernel_rfl) (fun _ => by kernel_rfl) (fun ac1 wd1 FF1 MM1 => then_n ?_))
  refine wp_seq ?_
  refine wp_seq (rg_seq FF1 MM1 [o_, w_ 3, o_, o_, w_ 3, o_] [5, 4, 0, 1, 13] (fun Kt => ¬ (k < 1) ∧ ¬ (k > 256) ∧ Kt [(13, .bool false), (5, iN 0), (4, .slice none 0 0), (0, iN k), (1, sB X)] []) (by kernel_rfl) (fun _ => by kernel_rfl) (⟨(by omega), (by omega), fun ac2 wd2 FF2 MM2 => then_n ?_⟩))
  refine wp_cond_false (FF2.ev 0 rfl) ?_
  refine wp_skip ?_
  refine then_n ?_
  refine wp_seq ?_
  refine wp_seq (rg_seq FF2 MM2 [o_, t_ (iN X.length), w_ 3, o_, o_, t_ (iB (X.getD 1 0)), w_ 3, o_, o_, o_, t_ (iB n), w_ 1, w_ 3, o_, o_, o_, t_ (iN X.length), o_, o_, t_ (iB n), w_ 1, o_, o_, w_ 3, o_] [5, 4, 0, 1, 38] (fun Kt => iN ((bs X).size) = iN X.length ∧ ¬ (X.length < 2) ∧ 1 < (bs X).size ∧ (nl (bs X)).getD 1 0 = X.getD 1 0 ∧ ¬ ((X.getD 1 0) ≠ 0) ∧ 0 < (bs X).size ∧ (nl (bs X)).getD 0 0 = n ∧ n < 9223372036854775808 ∧ ¬ (n > 64) ∧ iN ((bs X).size) = iN X.length ∧ 0 < (bs X).size ∧ (nl (bs X)).getD 0 0 = n ∧ n < 9223372036854775808 ∧ k * n < 9223372036854775808 ∧ 2 + (k * n) < 9223372036854775808 ∧ ¬ (X.length ≠ (2 + (k * n))) ∧ Kt [(38, .bool false), (5, iN 0), (4, .slice none 0 0), (0, iN k), (1, sB X)] []) (by kernel_rfl) (fun _ => by kernel_rfl) (⟨(vI (bs_size _)), (by omega), (by simp only [bs_size]; omega), (byte_bs hX _), (fun h => h hx1), (by simp only [bs_size]; omega), ((byte_bs hX _).trans hn0), (by omega), (by omega), (vI (bs_size _)), (by simp only [bs_size]; omega), ((byte_bs hX _).trans hn0), (by omega), (mul_fit' h2 (by omega)), (by omega), (fun h => h hlen), fun ac3 wd3 FF3 MM3 => then_n ?_⟩))
  refine wp_cond_false (FF3.ev 0 rfl) ?_
  refine wp_skip ?_
  refine then_n ?_
  refine wp_seq (rg_seq FF3 MM3 [o_] [5, 4, 0, 1, 6] (fun Kt => Kt [(6, .slice none 0 0), (5, iN 0), (4, .slice none 0 0), (0, iN k), (1, sB X)] []) (by kernel_rfl) (fun _ => by kernel_rfl) (fun ac4 wd4 FF4 MM4 => then_n ?_))
  have MMn5 := MM4.rowNil 9 1
  refine wp_seq ?_
  refine wp_seq (rg_seq FF4 MMn5 [o_] [6, 5, 4, 0, 1, 7] (fun Kt => Kt [(7, iN 0), (6, .slice none 0 0), (5, iN 0), (4, .slice none 0 0), (0, iN k), (1, sB X)] []) (by kernel_rfl) (fun _ => by kernel_rfl) (fun ac6 wd6 FF6 MM6 => then_n ?_))
  refine wp_for2 (fun a' w' => ∃ rv : Value, ∃ i : Nat, i ≤ n ∧ Fr 62 a' [(7, iN i), (6, rv), (5, iN 0), (4, .slice none 0 0), (0, iN k), (1, sB X)] ∧ MemS (fun k => k < w0.heap.size) w0 w' [] [(rv, 9, 1, i, (fv i (fun k9 => sB (itemAt (k : Nat) X k9))))]) (fun a' _ => (n - cnt 7 a').toNat) ⟨(.slice none 0 0), 0, Nat.zero_le _, FF6.pick [0, 1, 2, 3, 4, 5], MM6⟩ ?_
  rintro ac7 wd7 ⟨rv, i, hi, FF7, MM7⟩
  have hc := cnt_of (FF7.get 0 rfl)
  refine rg_seq FF7 MM7 [o_, o_, t_ (iB n), w_ 1, o_] [7, 6, 5, 4, 0, 1, 43] (fun Kt => 0 < (bs X).size ∧ (nl (bs X)).getD 0 0 = n ∧ n < 9223372036854775808 ∧ Kt [(43, .bool (decide (i < n))), (7, iN i), (6, rv), (5, iN 0), (4, .slice none 0 0), (0, iN k), (1, sB X)] []) (by kernel_rfl) (fun _ => by kernel_rfl) (⟨(by simp only [bs_size]; omega), ((byte_bs hX _).trans hn0), (by omega), fun ac8 wd8 FF8 MM8 => ?_⟩)
  by_cases hlt : i < n
  · skip
    refine then_n (.inl ⟨(FF8.ev 0 rfl).trans (dec_t hlt), ?_⟩)
    have e1 : k * (i + 1) = k * i + k := Nat.mul_succ k i
    have e2 : k * (i + 1) ≤ k * n := Nat.mul_le_mul_left k hlt
    refine wp_region_list ?_
    refine rg_part 14 FF8 MM8 [o_, o_, o_, o_, o_, o_, o_, o_, o_, o_, o_, o_, t_ (sB (itemAt (k : Nat) X i)), o_] [7, 6, 5, 4, 0, 1, 46, 59] (fun Kt => k * i < 9223372036854775808 ∧ 2 + (k * i) < 9223372036854775808 ∧ k * i < 9223372036854775808 ∧ 2 + (k * i) < 9223372036854775808 ∧ (2 + (k * i)) + k < 9223372036854775808 ∧ (2 + (k * i)) ≤ ((2 + (k * i)) + k) ∧ ((2 + (k * i)) + k) ≤ (bs X).size ∧ Value.string ((bs X).extract (2 + (k * i)) ((2 + (k * i)) + k)) = sB (itemAt (k : Nat) X i) ∧ ∀ bq, Kt [(59, .slice (some ⟨bq, 0, none⟩) 1 1), (46, rv), (7, iN i), (6, rv), (5, iN 0), (4, .slice none 0 0), (0, iN k), (1, sB X)] [(bq, oC #[sB (itemAt (k : Nat) X i)] 9)]) (by kernel_rfl) (fun _ => by kernel_rfl) (⟨(by omega), (by omega), (by omega), (by omega), (by omega), (by omega), (by simp only [bs_size]; omega), (vS2 ((bs_extract _ _ _).trans (congrArg bs (item_cut2 k X i)))), fun bq => fun ac9 wd9 FF9 MM9 => ?_⟩)
    refine st_app [7, 6, 5, 4, 0, 1, 60] FF9 MM9 (d := 60) (s := 46) (x := 59) (Y := [sB (itemAt (k : Nat) X i)]) (z := sB []) (bb := 16) rfl rfl rfl rfl (lies_lit (MM9.get 0 rfl)) (fun u hu => by rw [List.mem_singleton.1 hu]; rfl) (by decide) Try.underlying26 (by kernel_rfl) rfl (by decide) (by simp only [maxLen]; omega) (by omega) rfl rfl (by decide) fun ac11 wd11 rv10 (FF11 : Fr 62 ac11 [(60, rv10), (7, iN i), (6, rv), (5, iN 0), (4, .slice none 0 0), (0, iN k), (1, sB X)]) (MM11 : MemS (fun k => k < w0.heap.size) w0 wd11 [(bq, oC #[sB (itemAt (k : Nat) X i)] 9)] [(rv10, 9, 1, (i + 1), ((fv i (fun k9 => sB (itemAt (k : Nat) X k9))) ++ [sB (itemAt (k : Nat) X i)]))]) => ?_
    have MMr12 : MemS (fun k => k < w0.heap.size) w0 wd11 [(bq, oC #[sB (itemAt (k : Nat) X i)] 9)] [(rv10, 9, 1, (i + 1), (fv (i + 1) (fun k9 => sB (itemAt (k : Nat) X k9))))] := by rw [show (fv (i + 1) (fun k9 => sB (itemAt (k : Nat) X k9))) = ((fv i (fun k9 => sB (itemAt (k : Nat) X k9))) ++ [sB (itemAt (k : Nat) X i)]) from (fv_succ _ _).symm]; exact MM11
    refine rg_part 1 FF11 MMr12 [o_] [7, 6, 5, 4, 0, 1] (fun Kt => Kt [(6, rv10), (7, iN i), (5, iN 0), (4, .slice none 0 0), (0, iN k), (1, sB X)] [(bq, oC #[sB (itemAt (k : Nat) X i)] 9)]) (by kernel_rfl) (fun _ => by kernel_rfl) (fun ac13 wd13 FF13 MM13 => ?_)
    refine wpl_nil ?_
    refine inb_n (then_n ?_)
    refine rg_seq FF13 MM13 [o_, o_, o_] [6, 7, 5, 4, 0, 1] (fun Kt => i + 1 < 9223372036854775808 ∧ Kt [(7, iN (i + 1)), (6, rv10), (5, iN 0), (4, .slice none 0 0), (0, iN k), (1, sB X)] [(bq, oC #[sB (itemAt (k : Nat) X i)] 9)]) (by kernel_rfl) (fun _ => by kernel_rfl) (⟨(by omega), fun ac14 wd14 FF14 MM14 => ?_⟩)
    have hd := cnt_of (FF14.get 0 rfl)
    refine then_n ⟨⟨rv10, i + 1, by omega, FF14.pick [0, 1, 2, 3, 4, 5], MM14.sub [] rfl⟩, ?_⟩
    rw [hc, hd]; omega
  · skip
    refine then_n (.inr ⟨(FF8.ev 0 rfl).trans (dec_f hlt), ?_⟩)
    obtain rfl : n = i := by omega
    obtain ⟨rp, rc, rfl, _⟩ := MM8.rowLen
    refine then_n ?_
    refine wp_seq (rg_seq FF8 MM8 [o_, o_, o_] [7, 6, 5, 4, 0, 1] (fun Kt => Kt [(5, iN 0), (4, .slice rp n rc), (7, iN n), (6, .slice rp n rc), (0, iN k), (1, sB X)] []) (by kernel_rfl) (fun _ => by kernel_rfl) (fun ac15 wd15 FF15 MM15 => then_n ?_))
    refine wp_ret ?_
    repeat first | refine then_ret ?_ | refine inb_ret ?_
    exact (ret_tup2 FF15 1 0 Try.results23 rfl rfl ⟨.slice rp n rc, rfl, MM15.below, MM15.rowNewF, MM15.rowCap⟩)
set_option maxRecDepth 100000 in
theorem ritems_now (X : List Nat) (hX : ∀ i, X.getD i 0 < 256) (k : Nat) (h1 : 1 ≤ k) (h2 : k ≤ 256) (hL : ¬ IsL k X) (w0 : World) :
    Calls Try.prog 23 #[iN k, sB X] w0 fun e w' => e = .returned (.tuple #[.slice none 0 0, iN 5]) ∧ Below w0.heap.size w0 w' := by
  refine enter_fr Try.func23 rfl Try.ntmps23 (by simp) fun ac (FF : Fr 62 ac [(0, iN k), (1, sB X)]) => ?_
  have MM := MemS.start w0
  refine wp_seq (rg_seq FF MM [o_, o_] [0, 1, 4, 5] (fun Kt => Kt [(5, iN 0), (4, .slice none 0 0), (0, iN k), (1, sB X)] []) (by kernel_rfl) (fun _ => by kernel_rfl) (fun ac1 wd1 FF1 MM1 => then_n ?_))
  refine wp_seq ?_
  refine wp_seq (rg_seq FF1 MM1 [o_, w_ 3, o_, o_, w_ 3, o_] [5, 4, 0, 1, 13] (fun Kt => ¬ (k < 1) ∧ ¬ (k > 256) ∧ Kt [(13, .bool false), (5, iN 0), (4, .slice none 0 0), (0, iN k), (1, sB X)] []) (by kernel_rfl) (fun _ => by kernel_rfl) (⟨(by omega), (by omega), fun ac2 wd2 FF2 MM2 => then_n ?_⟩))
  refine wp_cond_false (FF2.ev 0 rfl) ?_
  refine wp_skip ?_
  refine then_n ?_
  refine wp_seq ?_
  by_cases a1 : X.length < 2
  · skip
    refine wp_seq (rg_seq FF2 MM2 [o_, t_ (iN X.length), w_ 2, o_, o_, o_, o_, o_, o_, o_, o_, o_, o_, o_, o_, o_, o_, o_, o_, o_, o_, o_, o_, o_, o_] [5, 4, 0, 1, 38] (fun Kt => iN ((bs X).size) = iN X.length ∧ X.length < 2 ∧ Kt [(38, .bool true), (5, iN 0), (4, .slice none 0 0), (0, iN k), (1, sB X)] []) (by kernel_rfl) (fun _ => by kernel_rfl) (⟨(vI (bs_size _)), a1, fun ac3 wd3 FF3 MM3 => then_n ?_⟩))
    refine wp_cond_true (FF3.ev 0 rfl) ?_
    refine wp_seq (rg_seq FF3 MM3 [o_, o_] [5, 4, 0, 1] (fun Kt => Kt [(5, iN 5), (4, .slice none 0 0), (0, iN k), (1, sB X)] []) (by kernel_rfl) (fun _ => by kernel_rfl) (fun ac4 wd4 FF4 MM4 => then_n ?_))
    refine wp_ret ?_
    repeat first | refine then_ret ?_ | refine inb_ret ?_
    exact (ret_tup2 FF4 1 0 Try.results23 rfl rfl ⟨rfl, MM4.below⟩)
  by_cases a2 : X.getD 1 0 ≠ 0
  · skip
    refine wp_seq (rg_seq FF2 MM2 [o_, t_ (iN X.length), w_ 3, o_, o_, t_ (iB (X.getD 1 0)), w_ 2, o_, o_, o_, o_, o_, o_, o_, o_, o_, o_, o_, o_, o_, o_, o_, o_, o_, o_] [5, 4, 0, 1, 38] (fun Kt => iN ((bs X).size) = iN X.length ∧ ¬ (X.length < 2) ∧ 1 < (bs X).size ∧ (nl (bs X)).getD 1 0 = X.getD 1 0 ∧ (X.getD 1 0) ≠ 0 ∧ Kt [(38, .bool true), (5, iN 0), (4, .slice none 0 0), (0, iN k), (1, sB X)] []) (by kernel_rfl) (fun _ => by kernel_rfl) (⟨(vI (bs_size _)), a1, (by simp only [bs_size]; omega), (byte_bs hX _), a2, fun ac5 wd5 FF5 MM5 => then_n ?_⟩))
    refine wp_cond_true (FF5.ev 0 rfl) ?_
    refine wp_seq (rg_seq FF5 MM5 [o_, o_] [5, 4, 0, 1] (fun Kt => Kt [(5, iN 5), (4, .slice none 0 0), (0, iN k), (1, sB X)] []) (by kernel_rfl) (fun _ => by kernel_rfl) (fun ac6 wd6 FF6 MM6 => then_n ?_))
    refine wp_ret ?_
    repeat first | refine then_ret ?_ | refine inb_ret ?_
    exact (ret_tup2 FF6 1 0 Try.results23 rfl rfl ⟨rfl, MM6.below⟩)
  by_cases a3 : X.getD 0 0 > 64
  · skip
    refine wp_seq (rg_seq FF2 MM2 [o_, t_ (iN X.length), w_ 3, o_, o_, t_ (iB (X.getD 1 0)), w_ 3, o_, o_, o_, t_ (iB (X.getD 0 0)), w_ 1, w_ 2, o_, o_, o_, o_, o_, o_, o_, o_, o_, o_, o_, o_] [5, 4, 0, 1, 38] (fun Kt => iN ((bs X).size) = iN X.length ∧ ¬ (X.length < 2) ∧ 1 < (bs X).size ∧ (nl (bs X)).getD 1 0 = X.getD 1 0 ∧ ¬ ((X.getD 1 0) ≠ 0) ∧ 0 < (bs X).size ∧ (nl (bs X)).getD 0 0 = X.getD 0 0 ∧ (X.getD 0 0) < 9223372036854775808 ∧ (X.getD 0 0) > 64 ∧ Kt [(38, .bool true), (5, iN 0), (4, .slice none 0 0), (0, iN k), (1, sB X)] []) (by kernel_rfl) (fun _ => by kernel_rfl) (⟨(vI (bs_size _)), a1, (by simp only [bs_size]; omega), (byte_bs hX _), (fun h => h (Decidable.of_not_not a2)), (by simp only [bs_size]; omega), (byte_bs hX _), (by have := hX 0; omega), a3, fun ac7 wd7 FF7 MM7 => then_n ?_⟩))
    refine wp_cond_true (FF7.ev 0 rfl) ?_
    refine wp_seq (rg_seq FF7 MM7 [o_, o_] [5, 4, 0, 1] (fun Kt => Kt [(5, iN 5), (4, .slice none 0 0), (0, iN k), (1, sB X)] []) (by kernel_rfl) (fun _ => by kernel_rfl) (fun ac8 wd8 FF8 MM8 => then_n ?_))
    refine wp_ret ?_
    repeat first | refine then_ret ?_ | refine inb_ret ?_
    exact (ret_tup2 FF8 1 0 Try.results23 rfl rfl ⟨rfl, MM8.below⟩)
  have hkn : k * X.getD 0 0 ≤ 256 * 65 := Nat.mul_le_mul h2 (by omega)
  refine wp_seq (rg_seq FF2 MM2 [o_, t_ (iN X.length), w_ 3, o_, o_, t_ (iB (X.getD 1 0)), w_ 3, o_, o_, o_, t_ (iB (X.getD 0 0)), w_ 1, w_ 3, o_, o_, o_, t_ (iN X.length), o_, o_, t_ (iB (X.getD 0 0)), w_ 1, o_, o_, w_ 2, o_] [5, 4, 0, 1, 38] (fun Kt => iN ((bs X).size) = iN X.length ∧ ¬ (X.length < 2) ∧ 1 < (bs X).size ∧ (nl (bs X)).getD 1 0 = X.getD 1 0 ∧ ¬ ((X.getD 1 0) ≠ 0) ∧ 0 < (bs X).size ∧ (nl (bs X)).getD 0 0 = X.getD 0 0 ∧ (X.getD 0 0) < 9223372036854775808 ∧ ¬ ((X.getD 0 0) > 64) ∧ iN ((bs X).size) = iN X.length ∧ 0 < (bs X).size ∧ (nl (bs X)).getD 0 0 = X.getD 0 0 ∧ (X.getD 0 0) < 9223372036854775808 ∧ k * (X.getD 0 0) < 9223372036854775808 ∧ 2 + (k * (X.getD 0 0)) < 9223372036854775808 ∧ X.length ≠ (2 + (k * (X.getD 0 0))) ∧ Kt [(38, .bool true), (5, iN 0), (4, .slice none 0 0), (0, iN k), (1, sB X)] []) (by kernel_rfl) (fun _ => by kernel_rfl) (⟨(vI (bs_size _)), a1, (by simp only [bs_size]; omega), (byte_bs hX _), (fun h => h (Decidable.of_not_not a2)), (by simp only [bs_size]; omega), (byte_bs hX _), (by have := hX 0; omega), a3, (vI (bs_size _)), (by simp only [bs_size]; omega), (byte_bs hX _), (by have := hX 0; omega), (mul_fit' h2 (by omega)), (by have := hX 0; omega), (fun h => hL ⟨by omega, Decidable.of_not_not a2, by omega, h⟩), fun ac9 wd9 FF9 MM9 => then_n ?_⟩))
  refine wp_cond_true (FF9.ev 0 rfl) ?_
  refine wp_seq (rg_seq FF9 MM9 [o_, o_] [5, 4, 0, 1] (fun Kt => Kt [(5, iN 5), (4, .slice none 0 0), (0, iN k), (1, sB X)] []) (by kernel_rfl) (fun _ => by kernel_rfl) (fun ac10 wd10 FF10 MM10 => then_n ?_))
  refine wp_ret ?_
  repeat first | refine then_ret ?_ | refine inb_ret ?_
  exact (ret_tup2 FF10 1 0 Try.results23 rfl rfl ⟨rfl, MM10.below⟩)
set_option maxRecDepth 100000 in
theorem ritems_badw (X : List Nat) (z : Int) (hz : z < 1 ∨ z > 256) (w0 : World) :
    Calls Try.prog 23 #[.int .i64 z, sB X] w0 fun e w' => e = .returned (.tuple #[.slice none 0 0, iN 1]) ∧ Below w0.heap.size w0 w' := by
  refine enter_fr Try.func23 rfl Try.ntmps23 (by simp) fun ac (FF : Fr 62 ac [(0, .int .i64 (z : Int)), (1, sB X)]) => ?_
  have MM := MemS.start w0
  refine wp_seq (rg_seq FF MM [o_, o_] [0, 1, 4, 5] (fun Kt => Kt [(5, iN 0), (4, .slice none 0 0), (0, .int .i64 (z : Int)), (1, sB X)] []) (by kernel_rfl) (fun _ => by kernel_rfl) (fun ac1 wd1 FF1 MM1 => then_n ?_))
  refine wp_seq ?_
  by_cases hlo : z < 1
  · skip
    refine wp_seq (rg_seq FF1 MM1 [o_, w_ 6, o_, o_, o_, o_] [5, 4, 0, 1, 13] (fun Kt => z < ((1 : Nat) : Int) ∧ Kt [(13, .bool true), (5, iN 0), (4, .slice none 0 0), (0, .int .i64 (z : Int)), (1, sB X)] []) (by kernel_rfl) (fun _ => by kernel_rfl) (⟨(by omega), fun ac2 wd2 FF2 MM2 => then_n ?_⟩))
    refine wp_cond_true (FF2.ev 0 rfl) ?_
    refine wp_seq (rg_seq FF2 MM2 [o_, o_] [5, 4, 0, 1] (fun Kt => Kt [(5, iN 1), (4, .slice none 0 0), (0, .int .i64 (z : Int)), (1, sB X)] []) (by kernel_rfl) (fun _ => by kernel_rfl) (fun ac3 wd3 FF3 MM3 => then_n ?_))
    refine wp_ret ?_
    repeat first | refine then_ret ?_ | refine inb_ret ?_
    exact (ret_tup2 FF3 1 0 Try.results23 rfl rfl ⟨rfl, MM3.below⟩)
  · skip
    refine wp_seq (rg_seq FF1 MM1 [o_, u_ 4 (.bool false), o_, o_, w_ 6, o_] [5, 4, 0, 1, 13] (fun Kt => Value.bool (decide (z < ((1 : Nat) : Int))) = .bool false ∧ z > ((256 : Nat) : Int) ∧ Kt [(13, .bool true), (5, iN 0), (4, .slice none 0 0), (0, .int .i64 (z : Int)), (1, sB X)] []) (by kernel_rfl) (fun _ => by kernel_rfl) (⟨(dec_f (by omega)), (by omega), fun ac4 wd4 FF4 MM4 => then_n ?_⟩))
    refine wp_cond_true (FF4.ev 0 rfl) ?_
    refine wp_seq (rg_seq FF4 MM4 [o_, o_] [5, 4, 0, 1] (fun Kt => Kt [(5, iN 1), (4, .slice none 0 0), (0, .int .i64 (z : Int)), (1, sB X)] []) (by kernel_rfl) (fun _ => by kernel_rfl) (fun ac5 wd5 FF5 MM5 => then_n ?_))
    refine wp_ret ?_
    repeat first | refine then_ret ?_ | refine inb_ret ?_
    exact (ret_tup2 FF5 1 0 Try.results23 rfl rfl ⟨rfl, MM5.below⟩)
theorem items_any (X : List Nat) (hX : ∀ i, X.getD i 0 < 256) (z : Int) (w0 : World) : Calls Try.prog 22 #[.int .i64 z, sB X] w0 fun e w' => ∃ v, e = .returned (.tuple #[.slice (pOf v) (itemsN z X) (cOf v), iN (itemsE z X)]) ∧ Below w0.heap.size w0 w' ∧ RowNew w0.heap.size w' (pOf v) (itemsN z X) (fun k9 => sB (itemAt z X k9)) ∧ (itemsN z X) ≤ cOf v := by
  by_cases hz : z < 1 ∨ z > 256
  · rw [itemsE_bad hz, itemsN_bad hz]
    exact (items_badw X z hz w0).mono fun e w' ⟨h1, h2⟩ => ⟨.slice none 0 0, h1, h2, .inl rfl, Nat.le_refl _⟩
  · obtain ⟨k, rfl⟩ := Int.eq_ofNat_of_zero_le (a := z) (by omega)
    by_cases hL : IsL k X
    · rw [itemsE_ok (by omega) (by omega) hL, itemsN_ok (by omega) (by omega) hL]
      exact items_okw X hX k (by omega) (by omega) hL _ rfl w0
    · rw [itemsE_no (by omega) (by omega) hL, itemsN_no (by omega) (by omega) hL]
      exact (items_now X hX k (by omega) (by omega) hL w0).mono fun e w' ⟨h1, h2⟩ => ⟨.slice none 0 0, h1, h2, .inl rfl, Nat.le_refl _⟩
theorem ritems_any (X : List Nat) (hX : ∀ i, X.getD i 0 < 256) (z : Int) (w0 : World) : Calls Try.prog 23 #[.int .i64 z, sB X] w0 fun e w' => ∃ v, e = .returned (.tuple #[.slice (pOf v) (itemsN z X) (cOf v), iN (itemsE z X)]) ∧ Below w0.heap.size w0 w' ∧ RowNew w0.heap.size w' (pOf v) (itemsN z X) (fun k9 => sB (itemAt z X k9)) ∧ (itemsN z X) ≤ cOf v := by
  by_cases hz : z < 1 ∨ z > 256
  · rw [itemsE_bad hz, itemsN_bad hz]
    exact (ritems_badw X z hz w0).mono fun e w' ⟨h1, h2⟩ => ⟨.slice none 0 0, h1, h2, .inl rfl, Nat.le_refl _⟩
  · obtain ⟨k, rfl⟩ := Int.eq_ofNat_of_zero_le (a := z) (by omega)
    by_cases hL : IsL k X
    · rw [itemsE_ok (by omega) (by omega) hL, itemsN_ok (by omega) (by omega) hL]
      exact ritems_okw X hX k (by omega) (by omega) hL _ rfl w0
    · rw [itemsE_no (by omega) (by omega) hL, itemsN_no (by omega) (by omega) hL]
      exact (ritems_now X hX k (by omega) (by omega) hL w0).mono fun e w' ⟨h1, h2⟩ => ⟨.slice none 0 0, h1, h2, .inl rfl, Nat.le_refl _⟩
end Go.Proofs.Ytjpfdmkbmpecnaa
namespace Go.Proofs.Ytjpfdmkbmpecnaa
open Go.RowKit
theorem en_wakes : Enters Try.prog 8 := fun args w => by simp [go_sem]
theorem one3 : ∀ i, i < 1 → ([[97, 98, 99]].getD i []).length = 3 := fun i hi => by
  obtain rfl : i = 0 := by omega
  rfl
theorem is3 : IsL 3 [1, 0, 97, 98, 99] := ⟨by decide, rfl, by decide, rfl⟩
theorem it3 : ∀ i : Fin 1, itemAt ((3 : Nat) : Int) [1, 0, 97, 98, 99] i.val = [[97, 98, 99]].getD i.val [] := by decide
set_option maxRecDepth 100000 in
theorem wakes_any (O : Blks) (hD : Distinct O)  (w0 : World) (H : Has w0 O) :
    Calls Try.prog 8 #[] w0 fun e w' => e = .returned (.bool true) ∧ Below w0.heap.size w0 w' := by
  refine enter_fr Try.func8 rfl Try.ntmps8 (by simp) fun ac (FF : Fr 102 ac []) => ?_
  have MM : MemS (fun k => k < w0.heap.size ∧ ∀ x ∈ O, x.1 ≠ k) w0 w0 O [] := MemS.startN H hD
  refine wp_seq (rg_seq FF MM [o_] [0] (fun Kt => Kt [(0, .bool false)] O) (by kernel_rfl) (fun _ => by kernel_rfl) (fun ac1 wd1 FF1 MM1 => then_n ?_))
  refine wp_seq (rg_seq FF1 MM1 [t_ (.tuple #[sB (bodyN ([97, 98])), iN 0]), o_, o_, o_, o_, o_] [0, 1, 2] (fun Kt => CallP Try.prog 9 [sB ([97, 98])] [] (.tuple #[sB (bodyN ([97, 98])), iN 0]) ∧ Kt [(2, iN 0), (1, sB (bodyN ([97, 98]))), (0, .bool false)] O) (by kernel_rfl) (fun _ => by kernel_rfl) (⟨(callP_of en_body (fun w => by have h0 := body_any ([97, 98]) (lit_lt (by kernel_rfl)) w; rw [bodyR_ok (by decide)] at h0; exact h0) _), fun ac2 wd2 FF2 MM2 => then_n ?_⟩))
  refine wp_seq (rg_seq FF2 MM2 [o_, t_ (.tuple #[sB ([97, 98]), .bool true]), o_, o_, o_, o_, o_] [2, 1, 0, 3, 4] (fun Kt => CallP Try.prog 11 [sB (bodyN ([97, 98]))] [] (.tuple #[sB ([97, 98]), .bool true]) ∧ Kt [(4, .bool true), (3, sB ([97, 98])), (2, iN 0), (1, sB (bodyN ([97, 98]))), (0, .bool false)] O) (by kernel_rfl) (fun _ => by kernel_rfl) (⟨(callP_of en_text (fun w => by have h0 := text_any (bodyN ([97, 98])) (bodyN_lt (lit_lt (by kernel_rfl)) (by decide)) w; rw [text_body (X := [97, 98]) (by decide)] at h0; exact h0) _), fun ac3 wd3 FF3 MM3 => then_n ?_⟩))
  refine wp_seq (rg_seq FF3 MM3 [o_, u_ 1 (.tuple #[sB ([1, 0, 97, 98, 99]), iN 0]), o_, o_, o_, o_, o_] [4, 3, 2, 1, 0, 5, 6] (fun Kt => ∀ b1, CallP Try.prog 20 [iN 3, .slice (some ⟨b1, 0, none⟩) 1 1] ((b1, .cells (fc 1 (fun k9 => sB ([[97, 98, 99]].getD k9 []))) 9) :: O) (.tuple #[sB ([1, 0, 97, 98, 99]), iN 0]) ∧ Kt [(6, iN 0), (5, sB ([1, 0, 97, 98, 99])), (4, .bool true), (3, sB ([97, 98])), (2, iN 0), (1, sB (bodyN ([97, 98]))), (0, .bool false)] ((b1, .cells (fc 1 (fun k9 => sB ([[97, 98, 99]].getD k9 []))) 9) :: O)) (by kernel_rfl) (fun _ => by kernel_rfl) (fun b1 => ⟨⟨en_list, fun w Hw => by have h0 := list_w (some ⟨b1, 0, none⟩) 1 1 (fun k9 => [[97, 98, 99]].getD k9 []) (by omega) (by omega) ((3 : Nat) : Int) w (rowIn_fc (Hw 0 _ rfl)); rw [listR_ok (k := 3) (by decide) (by decide) (by decide) one3] at h0; exact h0⟩, fun ac4 wd4 FF4 MM4 => then_n ?_⟩))
  refine wp_seq (wp_region_list ?_)
  refine rg_part 1 FF4 MM4 [o_] [6, 5, 4, 3, 2, 1, 0, 29] (fun Kt => Kt [(29, sB ([1, 0, 97, 98, 99])), (6, iN 0), (5, sB ([1, 0, 97, 98, 99])), (4, .bool true), (3, sB ([97, 98])), (2, iN 0), (1, sB (bodyN ([97, 98]))), (0, .bool false)] ((b1, .cells (fc 1 (fun k9 => sB ([[97, 98, 99]].getD k9 []))) 9) :: O)) (by kernel_rfl) (fun _ => by kernel_rfl) (fun ac5 wd5 FF5 MM5 => ?_)
  refine st_callE [6, 5, 4, 3, 2, 1, 0, 30] FF5 (d := 30) (mk := fun v => .tuple #[.slice (pOf v) 1 (cOf v), iN 0]) en_items rfl rfl (by have h0 := items_any ([1, 0, 97, 98, 99]) (lit_lt (by kernel_rfl)) ((3 : Nat) : Int) wd5; rw [itemsE_ok (k := 3) (by decide) (by decide) is3, itemsN_ok (k := 3) (by decide) (by decide) is3] at h0; exact h0) rfl (by kernel_rfl) (by decide) fun ac9 wd9 lv8 (FF9 : Fr 102 ac9 [(30, .tuple #[.slice (pOf lv8) 1 (cOf lv8), iN 0]), (6, iN 0), (5, sB ([1, 0, 97, 98, 99])), (4, .bool true), (3, sB ([97, 98])), (2, iN 0), (1, sB (bodyN ([97, 98]))), (0, .bool false)]) hr10 => ?_
  have hcp_lv8 := hr10.2.2
  have hrw7 := And.intro hr10.1 hr10.2.1
  obtain ⟨O11, MM120, hR13, hs14⟩ := MemS.addRow (K := [(b1, .cells (fc 1 (fun k9 => sB ([[97, 98, 99]].getD k9 []))) 9)]) (O := O) MM5 hrw7.1 hrw7.2
  have MM12 : MemS (fun k => k < w0.heap.size ∧ ∀ x ∈ O, x.1 ≠ k) w0 wd9 ((b1, .cells (fc 1 (fun k9 => sB ([[97, 98, 99]].getD k9 []))) 9) :: O11) [] := MM120
  refine rg_part 5 FF9 MM12 [o_, o_, o_, o_, o_] [6, 5, 4, 3, 2, 1, 0, 7, 8] (fun Kt => Kt [(8, iN 0), (7, .slice (pOf lv8) 1 (cOf lv8)), (6, iN 0), (5, sB ([1, 0, 97, 98, 99])), (4, .bool true), (3, sB ([97, 98])), (2, iN 0), (1, sB (bodyN ([97, 98]))), (0, .bool false)] ((b1, .cells (fc 1 (fun k9 => sB ([[97, 98, 99]].getD k9 []))) 9) :: O11)) (by kernel_rfl) (fun _ => by kernel_rfl) (fun ac15 wd15 FF15 MM15 => ?_)
  refine wpl_nil (then_n ?_)
  refine wp_seq (rg_seq FF15 MM15 [o_, n_ (.slice none 36 36) (.cells (cn .u8 (List.replicate 36 0)) 5), l_ 0 (sB (List.replicate 36 0)), t_ (.tuple #[sB (([5, 0, 0, 0, 0, 0, 0, 0, 0, 0, 0, 0, 0, 0, 0, 0]) ++ (List.replicate 36 0)), iN 0]), o_, o_, o_, o_, o_] [8, 7, 6, 5, 4, 3, 2, 1, 0, 9, 10] (fun Kt => RunN Try.prog [(34, .agg (cn .u8 ([5, 0, 0, 0, 0, 0, 0, 0, 0, 0, 0, 0, 0, 0, 0, 0]))), (8, iN 0), (7, .slice (pOf lv8) 1 (cOf lv8)), (6, iN 0), (5, sB ([1, 0, 97, 98, 99])), (4, .bool true), (3, sB ([97, 98])), (2, iN 0), (1, sB (bodyN ([97, 98]))), (0, .bool false)] ((b1, .cells (fc 1 (fun k9 => sB ([[97, 98, 99]].getD k9 []))) 9) :: O11) (opAt Try.f8 5 1) (mkOf (.slice none 36 36)) (.cells (cn .u8 (List.replicate 36 0)) 5) ∧ ∀ b2, b2 = b2 ∧ StrAt (cn .u8 (List.replicate 36 0)) 0 36 (bs (List.replicate 36 0)) ∧ CallP Try.prog 13 [.agg (cn .u8 ([5, 0, 0, 0, 0, 0, 0, 0, 0, 0, 0, 0, 0, 0, 0, 0])), sB (List.replicate 36 0)] [] (.tuple #[sB (([5, 0, 0, 0, 0, 0, 0, 0, 0, 0, 0, 0, 0, 0, 0, 0]) ++ (List.replicate 36 0)), iN 0]) ∧ Kt [(10, iN 0), (9, sB (([5, 0, 0, 0, 0, 0, 0, 0, 0, 0, 0, 0, 0, 0, 0, 0]) ++ (List.replicate 36 0))), (8, iN 0), (7, .slice (pOf lv8) 1 (cOf lv8)), (6, iN 0), (5, sB ([1, 0, 97, 98, 99])), (4, .bool true), (3, sB ([97, 98])), (2, iN 0), (1, sB (bodyN ([97, 98]))), (0, .bool false)] ((b2, .cells (cn .u8 (List.replicate 36 0)) 5) :: (b1, .cells (fc 1 (fun k9 => sB ([[97, 98, 99]].getD k9 []))) 9) :: O11)) (by kernel_rfl) (fun _ => by kernel_rfl) (⟨(make_ok (t := 40) (e := 5) (p := (.const (iN 36))) (q := (.const (iN 36))) (by kernel_rfl) rfl rfl Try.underlying40 (by kernel_rfl) (by decide)), fun b2 => ⟨rfl, (str_all (List.length_replicate ..) (rep0_lt)), (callP_of en_request (fun w => by have h0 := request_any ([5, 0, 0, 0, 0, 0, 0, 0, 0, 0, 0, 0, 0, 0, 0, 0]) rfl (lit_lt (by kernel_rfl)) (List.replicate 36 0) w; rw [requestR_ok (List.length_replicate ..)] at h0; exact h0) _), fun ac16 wd16 FF16 MM16 => then_n ?_⟩⟩))
  refine wp_seq (rg_seq FF16 MM16 [o_, t_ (.tuple #[.agg (cn .u8 ([5, 0, 0, 0, 0, 0, 0, 0, 0, 0, 0, 0, 0, 0, 0, 0])), sB (List.replicate 36 0), .bool true]), o_, o_, o_, o_, o_, b_ 0, o_, o_] [10, 8, 7, 6, 5, 4, 3, 2, 1, 0, 11, 12, 13] (fun Kt => CallP Try.prog 14 [sB (([5, 0, 0, 0, 0, 0, 0, 0, 0, 0, 0, 0, 0, 0, 0, 0]) ++ (List.replicate 36 0))] [] (.tuple #[.agg (cn .u8 ([5, 0, 0, 0, 0, 0, 0, 0, 0, 0, 0, 0, 0, 0, 0, 0])), sB (List.replicate 36 0), .bool true]) ∧ ∀ b3, b3 = b3 ∧ (cn .u8 (List.replicate 16 0)).size = 16 ∧ (cn .u8 ([5, 0, 0, 0, 0, 0, 0, 0, 0, 0, 0, 0, 0, 0, 0, 0])).size = 16 ∧ (cn .u8 ([5, 0, 0, 0, 0, 0, 0, 0, 0, 0, 0, 0, 0, 0, 0, 0])).all (·.oneCell') = true ∧ (0, 0).2 = 0 ∧ Kt [(13, .bool true), (12, sB (List.replicate 36 0)), (11, pT b3), (10, iN 0), (8, iN 0), (7, .slice (pOf lv8) 1 (cOf lv8)), (6, iN 0), (5, sB ([1, 0, 97, 98, 99])), (4, .bool true), (3, sB ([97, 98])), (2, iN 0), (1, sB (bodyN ([97, 98]))), (0, .bool false)] ((b3, .cells (cn .u8 ([5, 0, 0, 0, 0, 0, 0, 0, 0, 0, 0, 0, 0, 0, 0, 0])) 24) :: (b2, .cells (cn .u8 (List.replicate 36 0)) 5) :: (b1, .cells (fc 1 (fun k9 => sB ([[97, 98, 99]].getD k9 []))) 9) :: O11)) (by kernel_rfl) (fun _ => by kernel_rfl) (⟨(callP_of en_parts (fun w => by have h0 := parts_any (([5, 0, 0, 0, 0, 0, 0, 0, 0, 0, 0, 0, 0, 0, 0, 0]) ++ (List.replicate 36 0)) (app_lt (lit_lt (by kernel_rfl)) (rep0_lt)) w; rw [parts_app (D := [5, 0, 0, 0, 0, 0, 0, 0, 0, 0, 0, 0, 0, 0, 0, 0]) (B := List.replicate 36 0) rfl (List.length_replicate ..)] at h0; exact h0) _), fun b3 => ⟨rfl, ((cn_size _ _).trans (List.length_replicate ..)), ((cn_size _ _).trans rfl), (cn_one _ _), rfl, fun ac17 wd17 FF17 MM17 => then_n ?_⟩⟩))
  refine wp_seq (rg_seq FF17 MM17 [o_, w_ 2, o_, o_, t_ (iN ((bodyN ([97, 98])).length)), w_ 2, o_, o_, o_, w_ 2, o_, o_, o_, o_, o_, o_, w_ 2, o_, o_, o_, w_ 2, o_, o_, o_, w_ 2, o_, o_, o_, o_, u_ 1 (.bool true), o_, o_, o_, w_ 2, o_, o_, b_ 1, o_, f_ (.bool true), o_, o_, o_, t_ (iN ((List.replicate 36 0).length)), w_ 2, o_, o_, o_, o_, o_, t_ (iN 196), w_ 2, o_, o_, t_ (iN 52), w_ 2, o_, o_] [11, 5, 1, 0] (fun Kt => 0 = 0 ∧ iN ((bs (bodyN ([97, 98]))).size) = iN ((bodyN ([97, 98])).length) ∧ ((bodyN ([97, 98])).length) = 20 ∧ bs ([97, 98]) = bs ([97, 98]) ∧ 0 = 0 ∧ bs ([1, 0, 97, 98, 99]) = bs ([1, 0, 97, 98, 99]) ∧ 0 = 0 ∧ ∀ b4, CallP Try.prog 24 [.slice (pOf lv8) 1 (cOf lv8), .slice (some ⟨b4, 0, none⟩) 1 1] ((b4, .cells (fc 1 (fun k9 => sB ([[97, 98, 99]].getD k9 []))) 9) :: (b3, .cells (cn .u8 ([5, 0, 0, 0, 0, 0, 0, 0, 0, 0, 0, 0, 0, 0, 0, 0])) 24) :: (b2, .cells (cn .u8 (List.replicate 36 0)) 5) :: (b1, .cells (fc 1 (fun k9 => sB ([[97, 98, 99]].getD k9 []))) 9) :: O11) (.bool true) ∧ 0 = 0 ∧ b3 = b3 ∧ (cn .u8 ([5, 0, 0, 0, 0, 0, 0, 0, 0, 0, 0, 0, 0, 0, 0, 0])).size = 16 ∧ RunV Try.prog [(83, .agg (cn .u8 ([5, 0, 0, 0, 0, 0, 0, 0, 0, 0, 0, 0, 0, 0, 0, 0]))), (82, .agg (cn .u8 ([5, 0, 0, 0, 0, 0, 0, 0, 0, 0, 0, 0, 0, 0, 0, 0]))), (81, .bool true), (80, .bool true), (79, .bool true), (78, iN 0), (77, .bool true), (76, .bool true), (75, .bool true), (74, .slice (some ⟨b4, 0, none⟩) 1 1), (73, .slice (pOf lv8) 1 (cOf lv8)), (72, .bool true), (71, .bool true), (70, .bool true), (69, iN 0), (68, .bool true), (67, .bool true), (66, .bool true), (65, sB ([1, 0, 97, 98, 99])), (64, .bool true), (63, .bool true), (62, .bool true), (61, iN 0), (60, .bool true), (59, .bool true), (58, .bool true), (57, .bool true), (56, .bool true), (55, .bool true), (54, sB ([97, 98])), (53, .bool true), (52, .bool true), (51, .bool true), (50, iN ((bodyN ([97, 98])).length)), (49, sB (bodyN ([97, 98]))), (48, .bool true), (47, .bool true), (46, iN 0), (13, .bool true), (12, sB (List.replicate 36 0)), (11, pT b3), (10, iN 0), (8, iN 0), (7, .slice (pOf lv8) 1 (cOf lv8)), (6, iN 0), (5, sB ([1, 0, 97, 98, 99])), (4, .bool true), (3, sB ([97, 98])), (2, iN 0), (1, sB (bodyN ([97, 98]))), (0, .bool false)] ((b4, .cells (fc 1 (fun k9 => sB ([[97, 98, 99]].getD k9 []))) 9) :: (b3, .cells (cn .u8 ([5, 0, 0, 0, 0, 0, 0, 0, 0, 0, 0, 0, 0, 0, 0, 0])) 24) :: (b2, .cells (cn .u8 (List.replicate 36 0)) 5) :: (b1, .cells (fc 1 (fun k9 => sB ([[97, 98, 99]].getD k9 []))) 9) :: O11) (opAt Try.f8 7 38) (.bool true) ∧ iN ((bs (List.replicate 36 0)).size) = iN ((List.replicate 36 0).length) ∧ ((List.replicate 36 0).length) = 36 ∧ CallP Try.prog 16 [iN 1] [] (iN 196) ∧ 196 = 196 ∧ CallP Try.prog 18 [iN 3] [] (iN 52) ∧ 52 = 52 ∧ Kt [(0, .bool true), (11, pT b3), (5, sB ([1, 0, 97, 98, 99])), (1, sB (bodyN ([97, 98])))] ((b4, .cells (fc 1 (fun k9 => sB ([[97, 98, 99]].getD k9 []))) 9) :: (b3, .cells (cn .u8 ([5, 0, 0, 0, 0, 0, 0, 0, 0, 0, 0, 0, 0, 0, 0, 0])) 24) :: (b2, .cells (cn .u8 (List.replicate 36 0)) 5) :: (b1, .cells (fc 1 (fun k9 => sB ([[97, 98, 99]].getD k9 []))) 9) :: O11)) (by kernel_rfl) (fun _ => by kernel_rfl) (⟨(by decide), (vI (bs_size _)), rfl, rfl, (by decide), rfl, (by decide), fun b4 => ⟨⟨en_ktexts, fun w Hw => ktexts_w (pOf lv8) 1 (cOf lv8) (some ⟨b4, 0, none⟩) 1 (fun k9 => itemAt ((3 : Nat) : Int) ([1, 0, 97, 98, 99]) k9) (fun k9 => [[97, 98, 99]].getD k9 []) (by omega) (fun i hi => it3 ⟨i, hi⟩) w (hR13.at (Has.tl (Has.tl (Has.tl (Has.tl Hw))))) (rowIn_fc (Hw 0 _ rfl))⟩, (by decide), rfl, ((cn_size _ _).trans rfl), (eqA_ok (t := 24) (t' := 24) (e := 5) (m := 16) (k := .u8) (x := (.tmp 82)) (y := (.tmp 83)) (by kernel_rfl) Try.underlying24 Try.underlying5 (by kernel_rfl) (by kernel_rfl) (by kernel_rfl) rfl rfl rfl rfl (by rfl)), (vI (bs_size _)), (List.length_replicate ..), (callP_of en_onion (onion_1) _), (by decide), (callP_of en_reply (reply_3) _), (by decide), fun ac18 wd18 FF18 MM18 => then_n ?_⟩⟩))
  refine wp_ret ?_
  repeat first | refine then_ret ?_ | refine inb_ret ?_
  exact (ret_fr FF18 0 Try.results8 rfl ⟨rfl, MM18.belowN H (fun _ hx => List.mem_cons_of_mem _ (List.mem_cons_of_mem _ (List.mem_cons_of_mem _ (List.mem_cons_of_mem _ (hs14 _ hx)))))⟩)
theorem wakes_w (w : World) : Calls Try.prog 8 #[] w fun e w' => e = .returned (.bool true) ∧ Below w.heap.size w w' := wakes_any [] trivial w (fun i y hy => by simp at hy)
end Go.Proofs.Ytjpfdmkbmpecnaa
namespace Go.Proofs.Ytjpfdmkbmpecnaa
open Go.RowKit
set_option maxHeartbeats 1000000 in
set_option maxRecDepth 100000 in
theorem lists_any (O : Blks) (hD : Distinct O) (z : Int) (p : Option Addr) (n c : Nat) (s : Nat → List Nat) (X : List Nat) (hX : ∀ i, X.getD i 0 < 256) (hF : RowO O p n (fun k9 => sB (s k9))) (w0 : World) (H : Has w0 O) :
    Calls Try.prog 4 #[.int .i64 z, .slice p n c, sB X] w0 fun e w' => e = .returned (.bool true) ∧ Below w0.heap.size w0 w' := by
  refine enter_fr Try.func4 rfl Try.ntmps4 (by simp) fun ac (FF : Fr 82 ac [(0, .int .i64 (z : Int)), (1, .slice p n c), (2, sB X)]) => ?_
  have MM : MemS (fun k => k < w0.heap.size ∧ ∀ x ∈ O, x.1 ≠ k) w0 w0 O [] := MemS.startN H hD
  refine wp_seq (rg_seq FF MM [o_] [0, 1, 2, 6] (fun Kt => Kt [(6, .bool false), (0, .int .i64 (z : Int)), (1, .slice p n c), (2, sB X)] O) (by kernel_rfl) (fun _ => by kernel_rfl) (fun ac1 wd1 FF1 MM1 => then_n ?_))
  refine wp_seq ?_
  by_cases a1 : n > 100
  · skip
    refine wp_seq (rg_seq FF1 MM1 [o_, o_, w_ 2, o_, o_, o_, o_, o_, o_, o_, o_, o_] [6, 0, 1, 2, 27] (fun Kt => n > 100 ∧ Kt [(27, .bool true), (6, .bool false), (0, .int .i64 (z : Int)), (1, .slice p n c), (2, sB X)] O) (by kernel_rfl) (fun _ => by kernel_rfl) (⟨a1, fun ac2 wd2 FF2 MM2 => then_n ?_⟩))
    refine wp_cond_true (FF2.ev 0 rfl) ?_
    refine wp_seq (rg_seq FF2 MM2 [t_ (.bool true), o_] [6, 0, 1, 2] (fun Kt => CallP Try.prog 8 [] [] (.bool true) ∧ Kt [(6, .bool true), (0, .int .i64 (z : Int)), (1, .slice p n c), (2, sB X)] O) (by kernel_rfl) (fun _ => by kernel_rfl) (⟨(callP_of en_wakes wakes_w _), fun ac3 wd3 FF3 MM3 => then_n ?_⟩))
    refine wp_ret ?_
    repeat first | refine then_ret ?_ | refine inb_ret ?_
    exact (ret_fr FF3 0 Try.results4 rfl ⟨rfl, MM3.belowN H (fun _ hx => hx)⟩)
  by_cases a2 : sumF (fun k9 => s k9) n > 4000
  · skip
    refine wp_seq (rg_seq FF1 MM1 [o_, o_, w_ 3, o_, o_, u_ 1 (.bool true), o_, o_, o_, o_, o_, o_] [6, 0, 1, 2, 27] (fun Kt => ¬ (n > 100) ∧ CallP Try.prog 7 [.slice p n c, iN 4000] O (.bool true) ∧ Kt [(27, .bool true), (6, .bool false), (0, .int .i64 (z : Int)), (1, .slice p n c), (2, sB X)] O) (by kernel_rfl) (fun _ => by kernel_rfl) (⟨a1, ⟨en_klong, fun w Hw => by have h0 := klong_w p n c (fun k9 => s k9) (by omega) 4000 (by decide) w (hF.at Hw); rw [dec_t a2] at h0; exact h0⟩, fun ac4 wd4 FF4 MM4 => then_n ?_⟩))
    refine wp_cond_true (FF4.ev 0 rfl) ?_
    refine wp_seq (rg_seq FF4 MM4 [t_ (.bool true), o_] [6, 0, 1, 2] (fun Kt => CallP Try.prog 8 [] [] (.bool true) ∧ Kt [(6, .bool true), (0, .int .i64 (z : Int)), (1, .slice p n c), (2, sB X)] O) (by kernel_rfl) (fun _ => by kernel_rfl) (⟨(callP_of en_wakes wakes_w _), fun ac5 wd5 FF5 MM5 => then_n ?_⟩))
    refine wp_ret ?_
    repeat first | refine then_ret ?_ | refine inb_ret ?_
    exact (ret_fr FF5 0 Try.results4 rfl ⟨rfl, MM5.belowN H (fun _ hx => hx)⟩)
  by_cases a3 : X.length > 2000
  · skip
    refine wp_seq (rg_seq FF1 MM1 [o_, o_, w_ 3, o_, o_, u_ 1 (.bool false), o_, o_, o_, t_ (iN X.length), w_ 2, o_] [6, 0, 1, 2, 27] (fun Kt => ¬ (n > 100) ∧ CallP Try.prog 7 [.slice p n c, iN 4000] O (.bool false) ∧ iN ((bs X).size) = iN X.length ∧ X.length > 2000 ∧ Kt [(27, .bool true), (6, .bool false), (0, .int .i64 (z : Int)), (1, .slice p n c), (2, sB X)] O) (by kernel_rfl) (fun _ => by kernel_rfl) (⟨a1, ⟨en_klong, fun w Hw => by have h0 := klong_w p n c (fun k9 => s k9) (by omega) 4000 (by decide) w (hF.at Hw); rw [dec_f a2] at h0; exact h0⟩, (vI (bs_size _)), a3, fun ac6 wd6 FF6 MM6 => then_n ?_⟩))
    refine wp_cond_true (FF6.ev 0 rfl) ?_
    refine wp_seq (rg_seq FF6 MM6 [t_ (.bool true), o_] [6, 0, 1, 2] (fun Kt => CallP Try.prog 8 [] [] (.bool true) ∧ Kt [(6, .bool true), (0, .int .i64 (z : Int)), (1, .slice p n c), (2, sB X)] O) (by kernel_rfl) (fun _ => by kernel_rfl) (⟨(callP_of en_wakes wakes_w _), fun ac7 wd7 FF7 MM7 => then_n ?_⟩))
    refine wp_ret ?_
    repeat first | refine then_ret ?_ | refine inb_ret ?_
    exact (ret_fr FF7 0 Try.results4 rfl ⟨rfl, MM7.belowN H (fun _ hx => hx)⟩)
  refine wp_seq (rg_seq FF1 MM1 [o_, o_, w_ 3, o_, o_, u_ 1 (.bool false), o_, o_, o_, t_ (iN X.length), w_ 3, o_] [6, 0, 1, 2, 27] (fun Kt => ¬ (n > 100) ∧ CallP Try.prog 7 [.slice p n c, iN 4000] O (.bool false) ∧ iN ((bs X).size) = iN X.length ∧ ¬ (X.length > 2000) ∧ Kt [(27, .bool false), (6, .bool false), (0, .int .i64 (z : Int)), (1, .slice p n c), (2, sB X)] O) (by kernel_rfl) (fun _ => by kernel_rfl) (⟨a1, ⟨en_klong, fun w Hw => by have h0 := klong_w p n c (fun k9 => s k9) (by omega) 4000 (by decide) w (hF.at Hw); rw [dec_f a2] at h0; exact h0⟩, (vI (bs_size _)), a3, fun ac8 wd8 FF8 MM8 => then_n ?_⟩))
  refine wp_cond_false (FF8.ev 0 rfl) ?_
  refine wp_skip ?_
  refine then_n ?_
  refine wp_seq (wp_region_list ?_)
  refine rg_part 2 FF8 MM8 [o_, o_] [6, 0, 1, 2, 29, 30] (fun Kt => ∀ e1, Kt [(30, .slice p n c), (29, .slice (some ⟨e1, 0, none⟩) 0 0), (6, .bool false), (0, .int .i64 (z : Int)), (1, .slice p n c), (2, sB X)] ((e1, oC #[] 9) :: O)) (by kernel_rfl) (fun _ => by kernel_rfl) (fun e1 => fun ac9 wd9 FF9 MM9 => ?_)
  have MMw10 : MemS (fun k => k < w0.heap.size ∧ ∀ x ∈ O, x.1 ≠ k) w0 wd9 O [(.slice (some ⟨e1, 0, none⟩) 0 0, 9, 1, 0, [])] := MM9.rowOf (MM9.newest (fun _ hx => hx)) (Nat.zero_le _) rfl
  refine st_appX [6, 0, 1, 2, 31] FF9 MMw10 (d := 31) (s := 29) (x := 30) (z := sB []) (bb := 16) rfl rfl rfl (hF.at MMw10.hasL) (fun _ => rfl) Try.underlying26 (by kernel_rfl) rfl (by omega) (by simp only [maxLen]; omega) (Nat.zero_add _) (List.nil_append _) rfl rfl (by decide) fun ac13 wd13 rq11 rc12 (FF13 : Fr 82 ac13 [(31, .slice rq11 n rc12), (6, .bool false), (0, .int .i64 (z : Int)), (1, .slice p n c), (2, sB X)]) (MM13 : MemS (fun k => k < w0.heap.size ∧ ∀ x ∈ O, x.1 ≠ k) w0 wd13 O [(.slice rq11 n rc12, 9, 1, n, (fv n (fun k9 => sB (s k9))))]) => ?_
  have hcp := MM13.rowCap
  obtain ⟨O14, MM150, hR16, hs17⟩ := MemS.freezeO2 (K := []) (O := O) MM13
  have MM15 : MemS (fun k => k < w0.heap.size ∧ ∀ x ∈ O, x.1 ≠ k) w0 wd13 O14 [] := MM150
  have hk18 := hF.mono hs17
  refine rg_part 1 FF13 MM15 [o_] [6, 0, 1, 2, 7] (fun Kt => Kt [(7, .slice rq11 n rc12), (6, .bool false), (0, .int .i64 (z : Int)), (1, .slice p n c), (2, sB X)] O14) (by kernel_rfl) (fun _ => by kernel_rfl) (fun ac19 wd19 FF19 MM19 => ?_)
  refine wpl_nil (then_n ?_)
  refine wp_seq (rg_seq FF19 MM19 [o_, o_, u_ 1 (.tuple #[sB ((listR z n (fun k9 => s k9)).1), iN ((listR z n (fun k9 => s k9)).2)]), o_, o_, o_, o_, o_] [7, 6, 0, 1, 2, 8, 9] (fun Kt => CallP Try.prog 20 [.int .i64 (z : Int), .slice rq11 n rc12] O14 (.tuple #[sB ((listR z n (fun k9 => s k9)).1), iN ((listR z n (fun k9 => s k9)).2)]) ∧ Kt [(9, iN ((listR z n (fun k9 => s k9)).2)), (8, sB ((listR z n (fun k9 => s k9)).1)), (7, .slice rq11 n rc12), (6, .bool false), (0, .int .i64 (z : Int)), (1, .slice p n c), (2, sB X)] O14) (by kernel_rfl) (fun _ => by kernel_rfl) (⟨⟨en_list, fun w Hw => list_w rq11 n rc12 (fun k9 => s k9) (by omega) hcp z w (hR16.at Hw)⟩, fun ac20 wd20 FF20 MM20 => then_n ?_⟩))
  refine wp_seq (rg_seq FF20 MM20 [o_, o_, u_ 1 (.tuple #[sB ((listR z n (fun k9 => s k9)).1), iN ((listR z n (fun k9 => s k9)).2)]), o_, o_, o_, o_, o_] [9, 8, 7, 6, 0, 1, 2, 10, 11] (fun Kt => CallP Try.prog 21 [.int .i64 (z : Int), .slice p n c] O14 (.tuple #[sB ((listR z n (fun k9 => s k9)).1), iN ((listR z n (fun k9 => s k9)).2)]) ∧ Kt [(11, iN ((listR z n (fun k9 => s k9)).2)), (10, sB ((listR z n (fun k9 => s k9)).1)), (9, iN ((listR z n (fun k9 => s k9)).2)), (8, sB ((listR z n (fun k9 => s k9)).1)), (7, .slice rq11 n rc12), (6, .bool false), (0, .int .i64 (z : Int)), (1, .slice p n c), (2, sB X)] O14) (by kernel_rfl) (fun _ => by kernel_rfl) (⟨⟨en_rlist, fun w Hw => rlist_w p n c (fun k9 => s k9) (by omega) z w (hk18.at Hw)⟩, fun ac21 wd21 FF21 MM21 => then_n ?_⟩))
  refine wp_seq (wp_region_list ?_)
  refine rg_part 2 FF21 MM21 [o_, o_] [11, 10, 9, 8, 7, 6, 0, 1, 2, 45, 46] (fun Kt => Kt [(46, sB X), (45, .int .i64 (z : Int)), (11, iN ((listR z n (fun k9 => s k9)).2)), (10, sB ((listR z n (fun k9 => s k9)).1)), (9, iN ((listR z n (fun k9 => s k9)).2)), (8, sB ((listR z n (fun k9 => s k9)).1)), (7, .slice rq11 n rc12), (6, .bool false), (0, .int .i64 (z : Int)), (1, .slice p n c), (2, sB X)] O14) (by kernel_rfl) (fun _ => by kernel_rfl) (fun ac22 wd22 FF22 MM22 => ?_)
  refine st_callE [11, 10, 9, 8, 7, 6, 0, 1, 2, 47] FF22 (d := 47) (mk := fun v => .tuple #[.slice (pOf v) (itemsN z X) (cOf v), iN (itemsE z X)]) en_items rfl rfl (items_any X hX z wd22) rfl (by kernel_rfl) (by decide) fun ac26 wd26 lv25 (FF26 : Fr 82 ac26 [(47, .tuple #[.slice (pOf lv25) (itemsN z X) (cOf lv25), iN (itemsE z X)]), (11, iN ((listR z n (fun k9 => s k9)).2)), (10, sB ((listR z n (fun k9 => s k9)).1)), (9, iN ((listR z n (fun k9 => s k9)).2)), (8, sB ((listR z n (fun k9 => s k9)).1)), (7, .slice rq11 n rc12), (6, .bool false), (0, .int .i64 (z : Int)), (1, .slice p n c), (2, sB X)]) hr27 => ?_
  have hcp_lv25 := hr27.2.2
  have hrw24 := And.intro hr27.1 hr27.2.1
  obtain ⟨O28, MM290, hR30, hs31⟩ := MemS.addRow (K := []) (O := O14) MM22 hrw24.1 hrw24.2
  have MM29 : MemS (fun k => k < w0.heap.size ∧ ∀ x ∈ O, x.1 ≠ k) w0 wd26 O28 [] := MM290
  have hk32 := hk18.mono hs31
  have hk33 := hR16.mono hs31
  have hz34 : ∀ x ∈ O, x ∈ O28 := fun x hx => hs31 x (hs17 x hx)
  refine rg_part 5 FF26 MM29 [o_, o_, o_, o_, o_] [11, 10, 9, 8, 7, 6, 0, 1, 2, 12, 13] (fun Kt => Kt [(13, iN (itemsE z X)), (12, .slice (pOf lv25) (itemsN z X) (cOf lv25)), (11, iN ((listR z n (fun k9 => s k9)).2)), (10, sB ((listR z n (fun k9 => s k9)).1)), (9, iN ((listR z n (fun k9 => s k9)).2)), (8, sB ((listR z n (fun k9 => s k9)).1)), (7, .slice rq11 n rc12), (6, .bool false), (0, .int .i64 (z : Int)), (1, .slice p n c), (2, sB X)] O28) (by kernel_rfl) (fun _ => by kernel_rfl) (fun ac35 wd35 FF35 MM35 => ?_)
  refine wpl_nil (then_n ?_)
  refine wp_seq (wp_region_list ?_)
  refine rg_part 2 FF35 MM35 [o_, o_] [13, 12, 11, 10, 9, 8, 7, 6, 0, 1, 2, 51, 52] (fun Kt => Kt [(52, sB X), (51, .int .i64 (z : Int)), (13, iN (itemsE z X)), (12, .slice (pOf lv25) (itemsN z X) (cOf lv25)), (11, iN ((listR z n (fun k9 => s k9)).2)), (10, sB ((listR z n (fun k9 => s k9)).1)), (9, iN ((listR z n (fun k9 => s k9)).2)), (8, sB ((listR z n (fun k9 => s k9)).1)), (7, .slice rq11 n rc12), (6, .bool false), (0, .int .i64 (z : Int)), (1, .slice p n c), (2, sB X)] O28) (by kernel_rfl) (fun _ => by kernel_rfl) (fun ac36 wd36 FF36 MM36 => ?_)
  refine st_callE [13, 12, 11, 10, 9, 8, 7, 6, 0, 1, 2, 53] FF36 (d := 53) (mk := fun v => .tuple #[.slice (pOf v) (itemsN z X) (cOf v), iN (itemsE z X)]) en_ritems rfl rfl (ritems_any X hX z wd36) rfl (by kernel_rfl) (by decide) fun ac40 wd40 lv39 (FF40 : Fr 82 ac40 [(53, .tuple #[.slice (pOf lv39) (itemsN z X) (cOf lv39), iN (itemsE z X)]), (13, iN (itemsE z X)), (12, .slice (pOf lv25) (itemsN z X) (cOf lv25)), (11, iN ((listR z n (fun k9 => s k9)).2)), (10, sB ((listR z n (fun k9 => s k9)).1)), (9, iN ((listR z n (fun k9 => s k9)).2)), (8, sB ((listR z n (fun k9 => s k9)).1)), (7, .slice rq11 n rc12), (6, .bool false), (0, .int .i64 (z : Int)), (1, .slice p n c), (2, sB X)]) hr41 => ?_
  have hcp_lv39 := hr41.2.2
  have hrw38 := And.intro hr41.1 hr41.2.1
  obtain ⟨O42, MM430, hR44, hs45⟩ := MemS.addRow (K := []) (O := O28) MM36 hrw38.1 hrw38.2
  have MM43 : MemS (fun k => k < w0.heap.size ∧ ∀ x ∈ O, x.1 ≠ k) w0 wd40 O42 [] := MM430
  have hk46 := hk32.mono hs45
  have hk47 := hk33.mono hs45
  have hk48 := hR30.mono hs45
  have hz49 : ∀ x ∈ O, x ∈ O42 := fun x hx => hs45 x (hz34 x hx)
  refine rg_part 5 FF40 MM43 [o_, o_, o_, o_, o_] [13, 12, 11, 10, 9, 8, 7, 6, 0, 1, 2, 14, 15] (fun Kt => Kt [(15, iN (itemsE z X)), (14, .slice (pOf lv39) (itemsN z X) (cOf lv39)), (13, iN (itemsE z X)), (12, .slice (pOf lv25) (itemsN z X) (cOf lv25)), (11, iN ((listR z n (fun k9 => s k9)).2)), (10, sB ((listR z n (fun k9 => s k9)).1)), (9, iN ((listR z n (fun k9 => s k9)).2)), (8, sB ((listR z n (fun k9 => s k9)).1)), (7, .slice rq11 n rc12), (6, .bool false), (0, .int .i64 (z : Int)), (1, .slice p n c), (2, sB X)] O42) (by kernel_rfl) (fun _ => by kernel_rfl) (fun ac50 wd50 FF50 MM50 => ?_)
  refine wpl_nil (then_n ?_)
  refine wp_seq (rg_seq FF50 MM50 [o_, o_, w_ 2, o_, o_, o_, w_ 2, o_, o_, o_, o_, u_ 1 (.bool true), o_, o_, o_, o_, w_ 2, o_, o_, o_, o_, u_ 1 (.bool true), o_, o_, t_ (.bool true), o_, o_] [7, 6, 0, 1, 2] (fun Kt => bs ((listR z n (fun k9 => s k9)).1) = bs ((listR z n (fun k9 => s k9)).1) ∧ ((listR z n (fun k9 => s k9)).2) = ((listR z n (fun k9 => s k9)).2) ∧ CallP Try.prog 24 [.slice (pOf lv25) (itemsN z X) (cOf lv25), .slice (pOf lv39) (itemsN z X) (cOf lv39)] O42 (.bool true) ∧ (itemsE z X) = (itemsE z X) ∧ CallP Try.prog 24 [.slice rq11 n rc12, .slice p n c] O42 (.bool true) ∧ CallP Try.prog 8 [] [] (.bool true) ∧ Kt [(6, .bool true), (7, .slice rq11 n rc12), (0, .int .i64 (z : Int)), (1, .slice p n c), (2, sB X)] O42) (by kernel_rfl) (fun _ => by kernel_rfl) (⟨rfl, rfl, ⟨en_ktexts, fun w Hw => ktexts_w (pOf lv25) (itemsN z X) (cOf lv25) (pOf lv39) (cOf lv39) (fun k9 => itemAt z X k9) (fun k9 => itemAt z X k9) (Nat.le_trans (itemsN_le z X) (by decide)) (fun _ _ => rfl) w (hk48.at Hw) (hR44.at Hw)⟩, rfl, ⟨en_ktexts, fun w Hw => ktexts_w rq11 n rc12 p c (fun k9 => s k9) (fun k9 => s k9) (by omega) (fun _ _ => rfl) w (hk47.at Hw) (hk46.at Hw)⟩, (callP_of en_wakes wakes_w _), fun ac51 wd51 FF51 MM51 => then_n ?_⟩))
  refine wp_ret ?_
  repeat first | refine then_ret ?_ | refine inb_ret ?_
  exact (ret_fr FF51 0 Try.results4 rfl ⟨rfl, MM51.belowN H (fun _ hx => hz49 _ hx)⟩)
end Go.Proofs.Ytjpfdmkbmpecnaa
