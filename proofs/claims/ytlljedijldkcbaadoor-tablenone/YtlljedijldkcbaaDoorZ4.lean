/- Several texts in one: Package nat: what a number is, which is less. Rows of words that a walk owns: as cells, as blocks; sums and differences of words. Sums of words. No program in this text. Package nat: sums. Package nat: sums of rows of numbers. Products of words. No program in this text. Package nat: a row, and a number times a word. Package nat: a product of two rows. Package nat: products. -/
import Derived.Test.YtlljedijldkcbaaDoorZ3
import Derived.Test.YtlljedijldkcbaaDoorZ2
import Derived.Shelf.Spec.BitsCarry
namespace Go.Proofs.YtlljedijldkcbaaDoor
open Go.RowKit
theorem natO_cells {O : Blks} {N : Nat} {x : Value} (h : NatO O (nv N x) N) : CellsO O (pOf x) (qsz N) (fun j => iW (qd N j)) := by
  obtain ⟨p, c, h1, _, _, _, h4⟩ := h
  simp only [nv, Value.slice.injEq] at h1
  rw [h1.1]; exact h4
theorem natO_none {O : Blks} {N : Nat} {x : Value} (h : NatO O (nv N x) N) : (pOf x).isNone = decide (N = 0) := by
  obtain ⟨p, c, h1, h2, h3, _⟩ := h
  simp only [nv, Value.slice.injEq] at h1
  rw [h1.1]
  by_cases hN : N = 0
  · simp [hN, (h2 hN).1]
  · have := h3 hN
    cases p with
    | none => exact (this rfl).elim
    | some a => simp [hN]
theorem qz0 {M : Nat} (h : qsz M = 0) : M = 0 := by have := (qsz_ok M).1; rw [h] at this; simpa using this
theorem bits_top {M : Nat} (h : ¬ qsz M = 0) : (qsz M - 1) * 64 + bsz (qd M (qsz M - 1)) = bsz M := by
  have h2 := (qsz_ok M).2.resolve_left h
  have e : 18446744073709551616 ^ (qsz M - 1) = 2 ^ ((qsz M - 1) * 64) := by rw [show 18446744073709551616 = 2 ^ 64 by rfl, ← Nat.pow_mul, Nat.mul_comm]
  have h1 := (qsz_ok M).1
  have e2 : 18446744073709551616 ^ qsz M = 18446744073709551616 ^ (qsz M - 1) * 18446744073709551616 := by rw [← Nat.pow_succ]; congr 1; omega
  rw [bsz_div (k := (qsz M - 1) * 64) (x := M) (by rw [← e]; exact h2), ← e]
  unfold qd
  rw [Nat.mod_eq_of_lt (Nat.div_lt_of_lt_mul (by rw [← e2]; exact h1))]
theorem cmp_sizes {M N : Nat} (h : qsz M ≠ qsz N) : cmpN (qsz M) (qsz N) = cmpN M N := by
  rcases Nat.lt_or_gt_of_ne h with c | c
  · have := qcmp_len c
    rw [cmpN, if_pos c, cmpN, if_pos this]
  · have := qcmp_len c
    rw [cmpN, if_neg (by omega), if_neg (by omega), cmpN, if_neg (by omega), if_neg (by omega)]
theorem cmp_word {M N j : Nat} (hq : M / 18446744073709551616 ^ (j + 1) = N / 18446744073709551616 ^ (j + 1)) (h : qd M j ≠ qd N j) : cmpN (qd M j) (qd N j) = cmpN M N := by
  rcases Nat.lt_or_gt_of_ne h with c | c
  · have := qcmp_lt hq c
    rw [cmpN, if_pos c, cmpN, if_pos this]
  · have := qcmp_lt hq.symm c
    rw [cmpN, if_neg (by omega), if_neg (by omega), cmpN, if_neg (by omega), if_neg (by omega)]
set_option maxRecDepth 100000 in
theorem nbits_O (O : Blks) (hD : Distinct O) (M : Nat) (x : Value) (hM : NatO O (nv M x) M) (hs : qsz M < 1000000)  (w0 : World) (H : Has w0 O) :
    Calls Tryd.prog 35 #[.agg #[nv M x]] w0 fun e w' => e = .returned (iN (bsz M)) ∧ Below w0.heap.size w0 w' := by
  refine enter_fr Tryd.func35 rfl Tryd.ntmps35 (by simp) fun ac (FF : Fr 20 ac [(0, aG #[nv M x])]) => ?_
  have MM : MemS (fun k => k < w0.heap.size ∧ ∀ x ∈ O, x.1 ≠ k) w0 w0 O [] := MemS.startN H hD
  refine wp_seq (rg_seq FF MM [o_, o_] [1, 2] (fun Kt => ∀ b1, Kt [(2, iN 0), (1, pT b1)] ((b1, oC #[nv M x] 37) :: O)) (by kernel_rfl) (fun _ => by kernel_rfl) (fun b1 => fun ac1 wd1 FF1 MM1 => then_n ?_))
  refine wp_seq (rg_seq FF1 MM1 [o_, l_ 0 (nv M x), o_, o_] [2, 1, 3] (fun Kt => b1 = b1 ∧ (#[nv M x] : Array Value)[0]? = some (nv M x) ∧ Kt [(3, iN (qsz M)), (2, iN 0), (1, pT b1)] ((b1, oC #[nv M x] 37) :: O)) (by kernel_rfl) (fun _ => by kernel_rfl) (⟨rfl, rfl, fun ac2 wd2 FF2 MM2 => then_n ?_⟩))
  refine wp_seq ?_
  refine wp_seq (rg_seq FF2 MM2 [o_, o_] [3, 2, 1, 8] (fun Kt => Kt [(8, .bool (decide ((qsz M) = 0))), (3, iN (qsz M)), (2, iN 0), (1, pT b1)] ((b1, oC #[nv M x] 37) :: O)) (by kernel_rfl) (fun _ => by kernel_rfl) (fun ac3 wd3 FF3 MM3 => then_n ?_))
  by_cases hs8 : (qsz M) = 0
  · refine wp_cond_true ((FF3.ev 0 rfl).trans (dec_t hs8)) ?_
    refine wp_seq (rg_seq FF3 MM3 [t_ (iN (bsz M))] [3, 2, 1] (fun Kt => iN 0 = iN (bsz M) ∧ Kt [(2, iN (bsz M)), (3, iN (qsz M)), (1, pT b1)] ((b1, oC #[nv M x] 37) :: O)) (by kernel_rfl) (fun _ => by kernel_rfl) (⟨(vI (by rw [qz0 hs8]; rfl)), fun ac4 wd4 FF4 MM4 => then_n ?_⟩))
    refine wp_ret ?_
    repeat first | refine then_ret ?_ | refine inb_ret ?_
    exact (ret_fr FF4 0 Tryd.results35 rfl ⟨rfl, MM4.belowN H (fun _ hx => List.mem_cons_of_mem _ (hx))⟩)
  · refine wp_cond_false ((FF3.ev 0 rfl).trans (dec_f hs8)) ?_
    refine wp_skip ?_
    refine then_n ?_
    refine wp_seq (rg_seq FF3 MM3 [o_, o_, o_, o_, l_ 0 (nv M x), o_, o_, f_ (.pointer (some ⟨gOf (pOf x), (qsz M) - 1, none⟩)), f_ (iW (qd M ((qsz M) - 1))), t_ (iN (bsz (qd M ((qsz M) - 1)))), t_ (iN (bsz M)), o_] [3, 2, 1] (fun Kt => 1 ≤ (qsz M) ∧ (qsz M) - 1 < 9223372036854775808 ∧ ((qsz M) - 1) * 64 < 9223372036854775808 ∧ b1 = b1 ∧ (#[nv M x] : Array Value)[0]? = some (nv M x) ∧ 1 ≤ (qsz M) ∧ (qsz M) - 1 < 9223372036854775808 ∧ RunV Tryd.prog [(15, iN ((qsz M) - 1)), (14, iN (qsz M)), (13, nv M x), (12, pT b1), (11, iN (((qsz M) - 1) * 64)), (10, iN ((qsz M) - 1)), (9, iN (qsz M)), (8, .bool (decide ((qsz M) = 0))), (3, iN (qsz M)), (2, iN 0), (1, pT b1)] ((b1, oC #[nv M x] 37) :: O) (opAt Tryd.f35 4 7) (.pointer (some ⟨gOf (pOf x), (qsz M) - 1, none⟩)) ∧ RunV Tryd.prog [(16, .pointer (some ⟨gOf (pOf x), (qsz M) - 1, none⟩)), (15, iN ((qsz M) - 1)), (14, iN (qsz M)), (13, nv M x), (12, pT b1), (11, iN (((qsz M) - 1) * 64)), (10, iN ((qsz M) - 1)), (9, iN (qsz M)), (8, .bool (decide ((qsz M) = 0))), (3, iN (qsz M)), (2, iN 0), (1, pT b1)] ((b1, oC #[nv M x] 37) :: O) (opAt Tryd.f35 4 8) (iW (qd M ((qsz M) - 1))) ∧ CallP Tryd.prog 55 [iW (qd M ((qsz M) - 1))] [] (iN (bsz (qd M ((qsz M) - 1)))) ∧ (((qsz M) - 1) * 64) + (bsz (qd M ((qsz M) - 1))) < 9223372036854775808 ∧ iN ((((qsz M) - 1) * 64) + (bsz (qd M ((qsz M) - 1)))) = iN (bsz M) ∧ Kt [(2, iN (bsz M)), (3, iN (qsz M)), (1, pT b1)] ((b1, oC #[nv M x] 37) :: O)) (by kernel_rfl) (fun _ => by kernel_rfl) (⟨(by omega), (by omega), (by omega), rfl, rfl, (by omega), (by omega), (rowAddr_ok (x := (.tmp 13)) (y := (.tmp 15)) (by kernel_rfl) rfl rfl Tryd.underlying35 (by kernel_rfl) (natO_cells hM) (by omega)), (rowLoad_ok (x := (.tmp 16)) (i := (qsz M) - 1) (by kernel_rfl) rfl Tryd.underlying61 rfl (natO_cells hM) (fun _ hx => List.mem_cons_of_mem _ (hx)) (by omega)), (callP_of en_len64 (len64_any (qd M ((qsz M) - 1)) (qd_lt _ _)) _), (by have := bsz64 (show qd M ((qsz M) - 1) < 18446744073709551616 from (qd_lt _ _)); omega), (vI (bits_top hs8)), fun ac5 wd5 FF5 MM5 => then_n ?_⟩))
    refine wp_ret ?_
    repeat first | refine then_ret ?_ | refine inb_ret ?_
    exact (ret_fr FF5 0 Tryd.results35 rfl ⟨rfl, MM5.belowN H (fun _ hx => List.mem_cons_of_mem _ (hx))⟩)
set_option maxRecDepth 100000 in
theorem ncmp_O (O : Blks) (hD : Distinct O) (M : Nat) (x : Value) (hM : NatO O (nv M x) M) (hs : qsz M < 1000000) (N : Nat) (y : Value) (hN : NatO O (nv N y) N) (w0 : World) (H : Has w0 O) :
    Calls Tryd.prog 33 #[.agg #[nv M x], .agg #[nv N y]] w0 fun e w' => e = .returned (.int .i64 (cmpN M N)) ∧ Below w0.heap.size w0 w' := by
  refine enter_fr Tryd.func33 rfl Tryd.ntmps33 (by simp) fun ac (FF : Fr 50 ac [(0, aG #[nv M x]), (1, aG #[nv N y])]) => ?_
  have MM : MemS (fun k => k < w0.heap.size ∧ ∀ x ∈ O, x.1 ≠ k) w0 w0 O [] := MemS.startN H hD
  refine wp_seq (rg_seq FF MM [o_, o_, o_] [2, 3, 4] (fun Kt => ∀ ba, ∀ bb, Kt [(4, iN 0), (3, pT bb), (2, pT ba)] ((bb, oC #[nv N y] 37) :: (ba, oC #[nv M x] 37) :: O)) (by kernel_rfl) (fun _ => by kernel_rfl) (fun ba => fun bb => fun ac1 wd1 FF1 MM1 => then_n ?_))
  refine wp_seq ?_
  refine wp_seq (rg_seq FF1 MM1 [o_, l_ 1 (nv M x), o_, o_, l_ 0 (nv N y), o_, o_] [4, 3, 2, 12] (fun Kt => ba = ba ∧ (#[nv M x] : Array Value)[0]? = some (nv M x) ∧ bb = bb ∧ (#[nv N y] : Array Value)[0]? = some (nv N y) ∧ Kt [(12, .bool (decide ((qsz M) ≠ (qsz N)))), (4, iN 0), (3, pT bb), (2, pT ba)] ((bb, oC #[nv N y] 37) :: (ba, oC #[nv M x] 37) :: O)) (by kernel_rfl) (fun _ => by kernel_rfl) (⟨rfl, rfl, rfl, rfl, fun ac2 wd2 FF2 MM2 => then_n ?_⟩))
  by_cases hs12 : (qsz M) ≠ (qsz N)
  · refine wp_cond_true ((FF2.ev 0 rfl).trans (dec_t hs12)) ?_
    refine wp_seq (rg_seq FF2 MM2 [o_, l_ 1 (nv M x), o_, o_, l_ 0 (nv N y), o_, t_ (.int .i64 (cmpN M N : Int)), o_] [4, 3, 2] (fun Kt => ba = ba ∧ (#[nv M x] : Array Value)[0]? = some (nv M x) ∧ bb = bb ∧ (#[nv N y] : Array Value)[0]? = some (nv N y) ∧ CallP Tryd.prog 52 [iN (qsz M), iN (qsz N)] [] (.int .i64 (cmpN M N : Int)) ∧ Kt [(4, .int .i64 (cmpN M N : Int)), (3, pT bb), (2, pT ba)] ((bb, oC #[nv N y] 37) :: (ba, oC #[nv M x] 37) :: O)) (by kernel_rfl) (fun _ => by kernel_rfl) (⟨rfl, rfl, rfl, rfl, (callP_of en_cmpi (fun w => by have h0 := cmpi_any (qsz M) (qsz N) w; rw [cmp_sizes hs12] at h0; exact h0) _), fun ac3 wd3 FF3 MM3 => then_n ?_⟩))
    refine wp_ret ?_
    repeat first | refine then_ret ?_ | refine inb_ret ?_
    exact (ret_fr FF3 0 Tryd.results33 rfl ⟨rfl, MM3.belowN H (fun _ hx => List.mem_cons_of_mem _ (List.mem_cons_of_mem _ (hx)))⟩)
  · refine wp_cond_false ((FF2.ev 0 rfl).trans (dec_f hs12)) ?_
    have hq0 : qsz M = qsz N := by omega
    refine wp_skip ?_
    refine then_n ?_
    refine wp_seq ?_
    refine wp_seq (rg_seq FF2 MM2 [o_, l_ 1 (nv M x), o_, u_ 4 (.int .i64 (((qsz M : Nat) : Int) - 1 : Int)), o_] [4, 3, 2, 5] (fun Kt => ba = ba ∧ (#[nv M x] : Array Value)[0]? = some (nv M x) ∧ -(9223372036854775808 : Int) ≤ ((qsz M : Nat) : Int) - ((1 : Nat) : Int) ∧ ((qsz M : Nat) : Int) - ((1 : Nat) : Int) < (9223372036854775808 : Nat) ∧ Value.int .i64 (((qsz M : Nat) : Int) - ((1 : Nat) : Int) : Int) = .int .i64 (((qsz M : Nat) : Int) - 1 : Int) ∧ Kt [(5, .int .i64 (((qsz M : Nat) : Int) - 1 : Int)), (4, iN 0), (3, pT bb), (2, pT ba)] ((bb, oC #[nv N y] 37) :: (ba, oC #[nv M x] 37) :: O)) (by kernel_rfl) (fun _ => by kernel_rfl) (⟨rfl, rfl, (by omega), (by omega), (vZ (by omega)), fun ac4 wd4 FF4 MM4 => then_n ?_⟩))
    refine wp_for2 (fun a' w' => ∃ j : Nat, j ≤ qsz M ∧ M / 18446744073709551616 ^ j = N / 18446744073709551616 ^ j ∧ Fr 50 a' [(5, .int .i64 (((j : Nat) : Int) - 1 : Int)), (3, pT bb), (2, pT ba)] ∧ MemS (fun k => k < w0.heap.size ∧ ∀ x ∈ O, x.1 ≠ k) w0 w' ((bb, oC #[nv N y] 37) :: (ba, oC #[nv M x] 37) :: O) []) (fun a' _ => (cnt 5 a' + 1).toNat) ⟨qsz M, Nat.le_refl _, qcmp_top hq0, FF4.pick [0, 2, 3], MM4⟩ ?_
    rintro ac5 wd5 ⟨j, hj, hq, FF5, MM5⟩
    have hc := cnt_of (FF5.get 0 rfl)
    refine rg_seq FF5 MM5 [o_, w_ 4] [5, 3, 2, 25] (fun Kt => Kt [(25, .bool (decide ((((j : Nat) : Int) - 1) ≥ ((0 : Nat) : Int)))), (5, .int .i64 (((j : Nat) : Int) - 1 : Int)), (3, pT bb), (2, pT ba)] ((bb, oC #[nv N y] 37) :: (ba, oC #[nv M x] 37) :: O)) (by kernel_rfl) (fun _ => by kernel_rfl) (fun ac6 wd6 FF6 MM6 => ?_)
    by_cases hlt : (((j : Nat) : Int) - 1) ≥ ((0 : Nat) : Int)
    · skip
      refine then_n (.inl ⟨(FF6.ev 0 rfl).trans (dec_t hlt), ?_⟩)
      obtain ⟨j, rfl⟩ : ∃ z, j = z + 1 := ⟨j - 1, by omega⟩
      refine wp_seq (rg_draw FF6 MM6 [.inl (pT ba), .inl (nv M x), .inl (iN j), .inl (.pointer (some ⟨gOf (pOf x), j, none⟩)), .inl (iW (qd M j)), .inl (pT bb), .inl (nv N y), .inl (iN j), .inl (.pointer (some ⟨gOf (pOf y), j, none⟩)), .inl (iW (qd N j)), .inl (.bool (decide ((qd M j) ≠ (qd N j))))] [] [o_, l_ 1 (nv M x), t_ (iN j), f_ (.pointer (some ⟨gOf (pOf x), j, none⟩)), f_ (iW (qd M j)), o_, l_ 0 (nv N y), t_ (iN j), f_ (.pointer (some ⟨gOf (pOf y), j, none⟩)), f_ (iW (qd N j)), o_] [] [5, 3, 2, 38] (fun nb => [ba = ba, (#[nv M x] : Array Value)[0]? = some (nv M x), Value.int .i64 ((((j + 1) : Nat) : Int) - 1 : Int) = iN j, RunV Tryd.prog [(29, nv M x), (30, iN j), (25, .bool (decide (((((j + 1) : Nat) : Int) - 1) ≥ ((0 : Nat) : Int)))), (5, .int .i64 ((((j + 1) : Nat) : Int) - 1 : Int)), (3, pT bb), (2, pT ba)] ((bb, oC #[nv N y] 37) :: (ba, oC #[nv M x] 37) :: O) (opAt Tryd.f33 6 3) (.pointer (some ⟨gOf (pOf x), j, none⟩)), RunV Tryd.prog [(31, .pointer (some ⟨gOf (pOf x), j, none⟩)), (25, .bool (decide (((((j + 1) : Nat) : Int) - 1) ≥ ((0 : Nat) : Int)))), (5, .int .i64 ((((j + 1) : Nat) : Int) - 1 : Int)), (3, pT bb), (2, pT ba)] ((bb, oC #[nv N y] 37) :: (ba, oC #[nv M x] 37) :: O) (opAt Tryd.f33 6 4) (iW (qd M j)), bb = bb, (#[nv N y] : Array Value)[0]? = some (nv N y), Value.int .i64 ((((j + 1) : Nat) : Int) - 1 : Int) = iN j, RunV Tryd.prog [(34, nv N y), (35, iN j), (25, .bool (decide (((((j + 1) : Nat) : Int) - 1) ≥ ((0 : Nat) : Int)))), (5, .int .i64 ((((j + 1) : Nat) : Int) - 1 : Int)), (3, pT bb), (2, pT ba)] ((bb, oC #[nv N y] 37) :: (ba, oC #[nv M x] 37) :: O) (opAt Tryd.f33 6 8) (.pointer (some ⟨gOf (pOf y), j, none⟩)), RunV Tryd.prog [(36, .pointer (some ⟨gOf (pOf y), j, none⟩)), (25, .bool (decide (((((j + 1) : Nat) : Int) - 1) ≥ ((0 : Nat) : Int)))), (5, .int .i64 ((((j + 1) : Nat) : Int) - 1 : Int)), (3, pT bb), (2, pT ba)] ((bb, oC #[nv N y] 37) :: (ba, oC #[nv M x] 37) :: O) (opAt Tryd.f33 6 9) (iW (qd N j))]) (fun nb Kt => Kt [(38, .bool (decide ((qd M j) ≠ (qd N j)))), (5, .int .i64 ((((j + 1) : Nat) : Int) - 1 : Int)), (3, pT bb), (2, pT ba)] ((bb, oC #[nv N y] 37) :: (ba, oC #[nv M x] 37) :: O)) (by kernel_rfl) (by kernel_rfl) (by kernel_rfl) (fun _ => by kernel_rfl) (fun _ _ => by kernel_rfl) trivial (fun nb => ⟨rfl, rfl, (vZ (by omega)), (rowAddr_ok (x := (.tmp 29)) (y := (.tmp 30)) (by kernel_rfl) rfl rfl Tryd.underlying35 (by kernel_rfl) (natO_cells hM) (by omega)), (rowLoad_ok (x := (.tmp 31)) (i := j) (by kernel_rfl) rfl Tryd.underlying61 rfl (natO_cells hM) (fun _ hx => List.mem_cons_of_mem _ (List.mem_cons_of_mem _ (hx))) (by omega)), rfl, rfl, (vZ (by omega)), (rowAddr_ok (x := (.tmp 34)) (y := (.tmp 35)) (by kernel_rfl) rfl rfl Tryd.underlying35 (by kernel_rfl) (natO_cells hN) (by omega)), (rowLoad_ok (x := (.tmp 36)) (i := j) (by kernel_rfl) rfl Tryd.underlying61 rfl (natO_cells hN) (fun _ hx => List.mem_cons_of_mem _ (List.mem_cons_of_mem _ (hx))) (by omega)), trivial⟩) (fun nb => fun ac7 wd7 FF7 MM7 => then_n ?_))
      by_cases hs38 : (qd M j) ≠ (qd N j)
      · refine wp_cond_true ((FF7.ev 0 rfl).trans (dec_t hs38)) ?_
        refine wp_seq (rg_draw FF7 MM7 [.inl (pT ba), .inl (nv M x), .inl (iN j), .inl (.pointer (some ⟨gOf (pOf x), j, none⟩)), .inl (iW (qd M j)), .inl (pT bb), .inl (nv N y), .inl (iN j), .inl (.pointer (some ⟨gOf (pOf y), j, none⟩)), .inl (iW (qd N j)), .inl (.int .i64 (cmpN M N : Int)), .inl (.int .i64 (cmpN M N : Int))] [] [o_, l_ 1 (nv M x), t_ (iN j), f_ (.pointer (some ⟨gOf (pOf x), j, none⟩)), f_ (iW (qd M j)), o_, l_ 0 (nv N y), t_ (iN j), f_ (.pointer (some ⟨gOf (pOf y), j, none⟩)), f_ (iW (qd N j)), t_ (.int .i64 (cmpN M N : Int)), o_] [] [5, 3, 2, 4] (fun nb => [ba = ba, (#[nv M x] : Array Value)[0]? = some (nv M x), Value.int .i64 ((((j + 1) : Nat) : Int) - 1 : Int) = iN j, RunV Tryd.prog [(40, nv M x), (41, iN j), (38, .bool (decide ((qd M j) ≠ (qd N j)))), (5, .int .i64 ((((j + 1) : Nat) : Int) - 1 : Int)), (3, pT bb), (2, pT ba)] ((bb, oC #[nv N y] 37) :: (ba, oC #[nv M x] 37) :: O) (opAt Tryd.f33 7 3) (.pointer (some ⟨gOf (pOf x), j, none⟩)), RunV Tryd.prog [(42, .pointer (some ⟨gOf (pOf x), j, none⟩)), (38, .bool (decide ((qd M j) ≠ (qd N j)))), (5, .int .i64 ((((j + 1) : Nat) : Int) - 1 : Int)), (3, pT bb), (2, pT ba)] ((bb, oC #[nv N y] 37) :: (ba, oC #[nv M x] 37) :: O) (opAt Tryd.f33 7 4) (iW (qd M j)), bb = bb, (#[nv N y] : Array Value)[0]? = some (nv N y), Value.int .i64 ((((j + 1) : Nat) : Int) - 1 : Int) = iN j, RunV Tryd.prog [(45, nv N y), (46, iN j), (38, .bool (decide ((qd M j) ≠ (qd N j)))), (5, .int .i64 ((((j + 1) : Nat) : Int) - 1 : Int)), (3, pT bb), (2, pT ba)] ((bb, oC #[nv N y] 37) :: (ba, oC #[nv M x] 37) :: O) (opAt Tryd.f33 7 8) (.pointer (some ⟨gOf (pOf y), j, none⟩)), RunV Tryd.prog [(47, .pointer (some ⟨gOf (pOf y), j, none⟩)), (38, .bool (decide ((qd M j) ≠ (qd N j)))), (5, .int .i64 ((((j + 1) : Nat) : Int) - 1 : Int)), (3, pT bb), (2, pT ba)] ((bb, oC #[nv N y] 37) :: (ba, oC #[nv M x] 37) :: O) (opAt Tryd.f33 7 9) (iW (qd N j)), CallP Tryd.prog 53 [iW (qd M j), iW (qd N j)] [] (.int .i64 (cmpN M N : Int))]) (fun nb Kt => Kt [(4, .int .i64 (cmpN M N : Int)), (5, .int .i64 ((((j + 1) : Nat) : Int) - 1 : Int)), (3, pT bb), (2, pT ba)] ((bb, oC #[nv N y] 37) :: (ba, oC #[nv M x] 37) :: O)) (by kernel_rfl) (by kernel_rfl) (by kernel_rfl) (fun _ => by kernel_rfl) (fun _ _ => by kernel_rfl) trivial (fun nb => ⟨rfl, rfl, (vZ (by omega)), (rowAddr_ok (x := (.tmp 40)) (y := (.tmp 41)) (by kernel_rfl) rfl rfl Tryd.underlying35 (by kernel_rfl) (natO_cells hM) (by omega)), (rowLoad_ok (x := (.tmp 42)) (i := j) (by kernel_rfl) rfl Tryd.underlying61 rfl (natO_cells hM) (fun _ hx => List.mem_cons_of_mem _ (List.mem_cons_of_mem _ (hx))) (by omega)), rfl, rfl, (vZ (by omega)), (rowAddr_ok (x := (.tmp 45)) (y := (.tmp 46)) (by kernel_rfl) rfl rfl Tryd.underlying35 (by kernel_rfl) (natO_cells hN) (by omega)), (rowLoad_ok (x := (.tmp 47)) (i := j) (by kernel_rfl) rfl Tryd.underlying61 rfl (natO_cells hN) (fun _ hx => List.mem_cons_of_mem _ (List.mem_cons_of_mem _ (hx))) (by omega)), (callP_of en_cmpu (fun w => by have h0 := cmpu_any (qd M j) (qd N j) w; rw [cmp_word hq hs38] at h0; exact h0) _), trivial⟩) (fun nb => fun ac8 wd8 FF8 MM8 => then_n ?_))
        refine wp_ret ?_
        repeat first | refine then_ret ?_ | refine inb_ret ?_
        exact (ret_fr FF8 0 Tryd.results33 rfl ⟨rfl, MM8.belowN H (fun _ hx => List.mem_cons_of_mem _ (List.mem_cons_of_mem _ (hx)))⟩)
      · refine wp_cond_false ((FF7.ev 0 rfl).trans (dec_f hs38)) ?_
        have hq2 := qcmp_eq hq (Classical.byContradiction fun h => hs38 h)
        refine wp_skip ?_
        refine inb_n (then_n ?_)
        refine rg_seq FF7 MM7 [o_, u_ 4 (.int .i64 (((j : Nat) : Int) - 1 : Int)), o_] [5, 3, 2] (fun Kt => -(9223372036854775808 : Int) ≤ ((((j + 1) : Nat) : Int) - 1) - ((1 : Nat) : Int) ∧ ((((j + 1) : Nat) : Int) - 1) - ((1 : Nat) : Int) < (9223372036854775808 : Nat) ∧ Value.int .i64 (((((j + 1) : Nat) : Int) - 1) - ((1 : Nat) : Int) : Int) = .int .i64 (((j : Nat) : Int) - 1 : Int) ∧ Kt [(5, .int .i64 (((j : Nat) : Int) - 1 : Int)), (3, pT bb), (2, pT ba)] ((bb, oC #[nv N y] 37) :: (ba, oC #[nv M x] 37) :: O)) (by kernel_rfl) (fun _ => by kernel_rfl) (⟨(by omega), (by omega), (vZ (by omega)), fun ac9 wd9 FF9 MM9 => ?_⟩)
        have hd := cnt_of (FF9.get 0 rfl)
        refine then_n ⟨⟨j, by omega, hq2, FF9.pick [0, 1, 2], MM9⟩, ?_⟩
        rw [hc, hd]; omega
    · skip
      refine then_n (.inr ⟨(FF6.ev 0 rfl).trans (dec_f hlt), ?_⟩)
      obtain rfl : j = 0 := by omega
      have hMN : M = N := by simpa using hq
      refine then_n ?_
      refine wp_seq (rg_seq FF6 MM6 [t_ (.int .i64 (cmpN M N : Int))] [5, 3, 2, 4] (fun Kt => iN 0 = .int .i64 (cmpN M N : Int) ∧ Kt [(4, .int .i64 (cmpN M N : Int)), (5, .int .i64 (((0 : Nat) : Int) - 1 : Int)), (3, pT bb), (2, pT ba)] ((bb, oC #[nv N y] 37) :: (ba, oC #[nv M x] 37) :: O)) (by kernel_rfl) (fun _ => by kernel_rfl) (⟨(vZ (cmp0 hMN)), fun ac10 wd10 FF10 MM10 => then_n ?_⟩))
      refine wp_ret ?_
      repeat first | refine then_ret ?_ | refine inb_ret ?_
      exact (ret_fr FF10 0 Tryd.results33 rfl ⟨rfl, MM10.belowN H (fun _ hx => List.mem_cons_of_mem _ (List.mem_cons_of_mem _ (hx)))⟩)
theorem nat1_O {w : World} {M : Nat} {x : Value} (h : NatIn w (nv M x) M) : ∃ O : Blks, Has w O ∧ Distinct O ∧ NatO O (nv M x) M := by
  obtain ⟨O, h1, h2, h3, _⟩ := nats_O [(nv M x, M)] (fun y hy => by rw [List.mem_singleton] at hy; subst hy; exact h) [] (fun i y hy => by simp at hy) .nil
  exact ⟨O, h1, distinct_of h2, h3.get 0 rfl⟩
theorem nat2_O {w : World} {M N : Nat} {x y : Value} (h : NatIn w (nv M x) M) (h' : NatIn w (nv N y) N) : ∃ O : Blks, Has w O ∧ Distinct O ∧ NatO O (nv M x) M ∧ NatO O (nv N y) N := by
  obtain ⟨O, h1, h2, h3, _⟩ := nats_O [(nv M x, M), (nv N y, N)] (fun z hz => by
    simp only [List.mem_cons, List.not_mem_nil, or_false] at hz
    rcases hz with rfl | rfl <;> assumption) [] (fun i y hy => by simp at hy) .nil
  exact ⟨O, h1, distinct_of h2, h3.get 0 rfl, h3.get 1 rfl⟩
theorem nbits_any (M : Nat) (x : Value) (hs : qsz M < 1000000) (w : World) (hM : NatIn w (nv M x) M) : Calls Tryd.prog 35 #[.agg #[nv M x]] w fun e w' => e = .returned (iN (bsz M)) ∧ Below w.heap.size w w' := by
  obtain ⟨O, h1, h2, h3⟩ := nat1_O hM
  exact nbits_O O h2 M x h3 hs w h1
theorem ncmp_any (M : Nat) (x : Value) (hs : qsz M < 1000000) (N : Nat) (y : Value) (w : World) (hM : NatIn w (nv M x) M) (hN : NatIn w (nv N y) N) : Calls Tryd.prog 33 #[.agg #[nv M x], .agg #[nv N y]] w fun e w' => e = .returned (.int .i64 (cmpN M N)) ∧ Below w.heap.size w w' := by
  obtain ⟨O, h1, h2, h3, h4⟩ := nat2_O hM hN
  exact ncmp_O O h2 M x h3 hs N y h4 w h1
end Go.Proofs.YtlljedijldkcbaaDoor
namespace Go.Proofs.YtlljedijldkcbaaDoor
open Go.RowKit
section
variable {P : Program} {o : Oper} {w0 w w' : World} {n : Nat} {l : Slots} {L O : Blks} {S : Nat → Prop} {R : List Row}
theorem add64_ok {f : FuncId} {fn : Func} {ts : Array TypeId} {x y z : Operand} {a b c : Nat} (hc : c ≤ 1) (ho : o.op = .call ⟨.value (.func f), #[x, y, z], ts⟩) (hx : evO l x = some (.int .u64 (a : Nat))) (hy : evO l y = some (.int .u64 (b : Nat))) (hz : evO l z = some (.int .u64 (c : Nat))) (hf : P.funcs[f]? = some fn) (hname : (fn.name == "runtime.NumGoroutine") = false) (hb : fn.body.isNone = true) (hn : Extern.findNext fn = none)
    (he : Extern.find fn = some add64Entry) : RunV P l L o (.tuple #[.int .u64 ((a + b + c) % 18446744073709551616 : Nat), .int .u64 ((a + b + c) / 18446744073709551616 : Nat)]) := fun ρ w A _ => by
  have h1 : ρ x = .int .u64 (a : Int) := A x _ hx
  have h2 : ρ y = .int .u64 (b : Int) := A y _ hy
  have h5 : ρ z = .int .u64 (c : Int) := A z _ hz
  have h3 : ρ (.func f) = .func (.func f) #[] #[] := A (.func f) _ rfl
  have h4 : (callFunc f #[.int .u64 (a : Int), .int .u64 (b : Int), .int .u64 (c : Int)]).run P w = .ok (.value (.tuple #[.int .u64 ((a + b + c) % 18446744073709551616 : Nat), .int .u64 ((a + b + c) / 18446744073709551616 : Nat)])) w := by
    rw [run_callFunc_extern hf hname hb hn he, run_add64 a b c (by omega) (by omega) (by omega) (by omega)]
    simp only [Result.andThen]
    congr 5 <;> omega
  simp [execOp, ho, resolve, h1, h2, h5, h3, Deferred.ofValue, invoke, h4]
/-- Words as cells. -/
def wc (X : List Nat) : List Value := X.map fun x => .int .u64 (x : Nat)
theorem wc_len (X : List Nat) : (wc X).length = X.length * 1 := by simp [wc]
theorem wc_cn (X : List Nat) : (cn .u64 X).toList = wc X := by simp [cn, wc]
theorem wc_app (X Y : List Nat) : wc X ++ wc Y = wc (X ++ Y) := by simp [wc]
theorem wc_one (X : List Nat) : ∀ u ∈ wc X, u.oneCell' = true := fun u hu => by
  obtain ⟨x, _, rfl⟩ := List.mem_map.1 hu
  rfl
theorem wc_rep (k : Nat) : List.replicate k (Value.int .u64 0) = wc (List.replicate k 0) := by simp [wc]
theorem lies_cn64 {b : Nat} {X : List Nat} {T : TypeId} {fr : Nat × Nat} (h : w.heap[b]? = some (.cells (cn .u64 X) T fr)) : ∀ (j : Nat) u, (wc X)[j]? = some u → w.cell? ((⟨b, 0, none⟩ : Addr).add j) = some u := fun j u hu => by
  rw [add_off, cell_of h, ← hu, ← wc_cn]; simp
theorem lies_O {p : Option Addr} {X : List Nat} (h : CellsIn w p X.length (fun j => .int .u64 (X.getD j 0 : Nat))) {ad : Addr} (hp : p = some ad) : ∀ (j : Nat) u, (wc X)[j]? = some u → w.cell? (ad.add j) = some u := fun j u hu => by
  have hj : j < X.length := by
    rcases Nat.lt_or_ge j X.length with h | h
    · exact h
    · rw [List.getElem?_eq_none (by rw [wc_len]; omega)] at hu; cases hu
  rcases h with h | ⟨b, cs, T, fr, h1, h2, h3⟩
  · omega
  · rw [hp] at h1
    obtain rfl := Option.some.inj h1
    rw [add_off, cell_of h2, Nat.zero_add, h3 j hj, ← hu]
    simp [wc, hj]
/-- A row of words as a block. -/
theorem MemS.freezeW {g m cap : Nat} {e : TypeId} {X : List Nat} (M : MemS S w0 w L ((.slice (some ⟨g, 0, none⟩) m cap, e, 1, m, wc X) :: R)) : ∃ rest : Array Value, MemS S w0 w ((g, .cells (cn .u64 X ++ rest) e) :: L) R ∧ w0.heap.size ≤ g ∧ m ≤ cap ∧ cap ≤ maxLen ∧ (cn .u64 X ++ rest).size = cap ∧ X.length = m := by
  obtain ⟨cur, h1, h2, h3, h4, h5, h6, h7⟩ := M.freeze
  have e1 : cur = cn .u64 X ++ (cur.toList.drop m).toArray := by
    apply Array.ext'
    rw [Array.toList_append, wc_cn]
    conv => lhs; rw [← List.take_append_drop m cur.toList]
    rw [Nat.mul_one] at h6
    rw [h6]
  refine ⟨(cur.toList.drop m).toArray, ?_, h2, h3, h4, ?_, ?_⟩
  · rw [← e1]; exact h1
  · rw [← e1, h5, Nat.mul_one]
  · rw [wc_len] at h7; omega
theorem MemS.thawW {g m cap : Nat} {e : TypeId} {X : List Nat} {rest : Array Value} (M : MemS S w0 w ((g, .cells (cn .u64 X ++ rest) e) :: L) R) (hg : w0.heap.size ≤ g) (hX : X.length = m) (hm : m ≤ cap) (hc : cap ≤ maxLen) (hs : (cn .u64 X ++ rest).size = cap) : MemS S w0 w L ((.slice (some ⟨g, 0, none⟩) m cap, e, 1, m, wc X) :: R) := by
  refine M.thaw hg hm hc (by rw [hs, Nat.mul_one]) (by rw [wc_len, hX]) ?_
  rw [Nat.mul_one, Array.toList_append, wc_cn, ← hX, show X.length = (wc X).length by simp [wc], List.take_left]
theorem MemS.rowSome {q : Option Addr} {m c k : Nat} {e : TypeId} {X : List Value} (M : MemS S w0 w L ((.slice q m c, e, k, m, X) :: R)) (h : 0 < m) : ∃ g, q = some ⟨g, 0, none⟩ := by
  rcases M.rowForm with ⟨_, h2⟩ | ⟨g, cap, h1⟩
  · omega
  · simp only [Value.slice.injEq] at h1
    exact ⟨g, h1.1⟩
/-- One block turns. -/
structure Turn (g : Nat) (ob : Obj) (w w' : World) : Prop where
  os : w'.os = w.os
  tape : w'.tape = w.tape
  output : w'.output = w.output
  size : w.heap.size ≤ w'.heap.size
  block : ∀ k, k < w.heap.size → k ≠ g → w'.heap[k]? = w.heap[k]?
  now : w'.heap[g]? = some ob
theorem MemS.turn {g : Nat} {ob ob' : Obj} (M : MemS (fun k => k < w0.heap.size ∧ ∀ x ∈ (g, ob) :: O, x.1 ≠ k) w0 w L R) (H : Has w0 O) (i : Nat) (hi : L[i]? = some (g, ob')) (hO : ∀ x ∈ O, x ∈ L) : Turn g ob' w0 w := by
  refine ⟨M.os, M.tape, M.output, M.size, fun k hk hne => ?_, M.get i hi⟩
  by_cases h : ∃ x ∈ O, x.1 = k
  · obtain ⟨x, hx, rfl⟩ := h
    rw [Has.mem M.hasL (hO x hx), Has.mem H hx]
  · exact M.block k ⟨hk, fun x hx e => by
      rcases List.mem_cons.1 hx with rfl | hx
      · exact hne e.symm
      · exact h ⟨x, hx, e⟩⟩
theorem MemS.turned {g : Nat} {ob ob' : Obj} (M : MemS S w0 w ((g, ob) :: L) R) (t : Turn g ob' w w') : MemS S w0 w' ((g, ob') :: L) R := by
  have p : Post w w' ((g, ob) :: L) ⟨fun _ => undef, none, [(0, ob')]⟩ 0 := ⟨t.os, t.tape, t.output, t.size, fun k hk hn => t.block k hk (fun e => hn _ (List.mem_singleton.2 rfl) (g, ob) rfl e.symm), fun _ h => (nomatch h), fun _ => rfl, fun u hu y hy => by
    rw [List.mem_singleton] at hu
    subst hu
    obtain rfl := Option.some.inj hy
    exact t.now⟩
  have := M.post p
  simpa [newL, setAll, modAt] using this
end
end Go.Proofs.YtlljedijldkcbaaDoor
namespace Go.Proofs.YtlljedijldkcbaaDoor
open Go.RowKit
theorem qd_out {N i : Nat} (h : qsz N ≤ i) : qd N i = 0 := by unfold qd; rw [Nat.div_eq_of_lt (qlt_sz h)]
/-- The words of a sum, up to i; then those of the first number. -/
def adL (n M N i : Nat) : List Nat := (List.range n).map fun j => if j < i then qd (M + N) j else qd M j
theorem adL_len (n M N i : Nat) : (adL n M N i).length = n := by simp [adL]
theorem adL_get (n M N i : Nat) {j : Nat} (h : j < n) : (adL n M N i).getD j 0 = if j < i then qd (M + N) j else qd M j := by simp [adL, h]
theorem adL_zero (n M N : Nat) : adL n M N 0 = qleB n M := by
  refine ext_getD (by rw [adL_len, qleB_len]) fun j hj => ?_
  rw [adL_len] at hj
  rw [adL_get n M N 0 hj, qleB_get hj, if_neg (by omega)]; rfl
theorem adL_step (n M N i : Nat) (h : i < n) : (adL n M N i).set i (qd (M + N) i) = adL n M N (i + 1) := by
  refine ext_getD (by simp [adL]) fun j hj => ?_
  simp only [List.length_set, adL_len] at hj
  rw [getD_set, adL_get n M N i hj, adL_get n M N (i + 1) hj, adL_len]
  by_cases e : i = j
  · subst e; rw [if_pos ⟨rfl, h⟩, if_pos (by omega)]
  · rw [if_neg (fun h => e h.1)]
    by_cases h1 : j < i
    · rw [if_pos h1, if_pos (by omega)]
    · rw [if_neg h1, if_neg (by omega)]
theorem add_word (M N i : Nat) : (qd M i + qd N i + qcarB M N i) % 18446744073709551616 = qd (M + N) i := by
  have := qcar_digit M N i
  unfold qd
  rw [← this]; congr 1; omega
theorem add_carry (M N i : Nat) : (qd M i + qd N i + qcarB M N i) / 18446744073709551616 = qcarB M N (i + 1) := by
  have := qcar_step M N i
  unfold qd
  rw [← this]; congr 1; omega
theorem qcar_le (M N i : Nat) : qcarB M N i ≤ 1 := by have := qcar_lt M N i; omega
theorem add_same {M N i : Nat} (h : qsz N ≤ i) (hc : qcarB M N i = 0) : (M + N) / 18446744073709551616 ^ i = M / 18446744073709551616 ^ i := by
  rw [sum_div _ _ _ (qpw_pos i), Nat.div_eq_of_lt (qlt_sz h)]
  unfold qcarB at hc
  omega
theorem div_more (K : Nat) {i j : Nat} (h : i ≤ j) : K / 18446744073709551616 ^ j = K / 18446744073709551616 ^ i / 18446744073709551616 ^ (j - i) := by
  rw [Nat.div_div_eq_div_mul, ← Nat.pow_add]; congr 2; omega
theorem add_fin0 {n M N i : Nat} (h : qsz N ≤ i) (hi : i ≤ n) (hM : qsz M ≤ n) (hc : qcarB M N i = 0) : adL n M N i = qleB n (M + N) ∧ M + N < 18446744073709551616 ^ n := by
  have e := add_same h hc
  constructor
  · refine ext_getD (by rw [adL_len, qleB_len]) fun j hj => ?_
    rw [adL_len] at hj
    rw [adL_get n M N i hj, qleB_get hj]
    split
    · rfl
    · unfold qd
      rw [div_more M (show i ≤ j by omega), div_more (M + N) (show i ≤ j by omega), e]
  · have h1 := div_more M hi
    have h2 := div_more (M + N) hi
    rw [e, ← h1, Nat.div_eq_of_lt (qlt_sz hM)] at h2
    rcases Nat.lt_or_ge (M + N) (18446744073709551616 ^ n) with c | c
    · exact c
    · have := Nat.div_pos c (qpw_pos n); omega
theorem add_fin1 (n M N : Nat) : adL n M N n = qleB n (M + N) := by
  refine ext_getD (by rw [adL_len, qleB_len]) fun j hj => ?_
  rw [adL_len] at hj
  rw [adL_get n M N n hj, qleB_get hj, if_pos hj]; rfl
theorem add_size0 {n M N : Nat} (hn : n = qsz M ∨ n = qsz N) (h : M + N < 18446744073709551616 ^ n) : n = qsz (M + N) := by
  have h1 := qsz_le h
  have h2 := qsz_mono (Nat.le_add_right M N)
  have h3 := qsz_mono (Nat.le_add_left N M)
  omega
theorem add_size1 {n M N : Nat} (hM : qsz M ≤ n) (hN : qsz N ≤ n) (hc : qcarB M N n > 0) : n + 1 = qsz (M + N) ∧ qd (M + N) n = qcarB M N n := by
  have e : (M + N) / 18446744073709551616 ^ n = qcarB M N n := by
    rw [sum_div _ _ _ (qpw_pos n), Nat.div_eq_of_lt (qlt_sz hM), Nat.div_eq_of_lt (qlt_sz hN)]
    unfold qcarB; omega
  have hl := qcar_lt M N n
  have h1 : 18446744073709551616 ^ n ≤ M + N := Nat.le_of_not_lt fun h => by rw [Nat.div_eq_of_lt h] at e; omega
  have h2 : M + N < 18446744073709551616 ^ (n + 1) := by
    rw [Nat.pow_succ]
    refine (Nat.div_lt_iff_lt_mul (qpw_pos n)).1 ?_ |> fun h => by rwa [Nat.mul_comm] at h
    rw [e]; omega
  refine ⟨qsz_of h2 (.inr (by simpa using h1)), ?_⟩
  unfold qd
  rw [e, Nat.mod_eq_of_lt (by omega)]
theorem add_row1 {n M N : Nat} (h : n + 1 = qsz (M + N) ∧ qd (M + N) n = qcarB M N n) : qleB n (M + N) ++ [qcarB M N n] = qminB (M + N) := by
  rw [qminB, ← h.1, qleB_succ, ← h.2]; rfl
end Go.Proofs.YtlljedijldkcbaaDoor
namespace Go.Proofs.YtlljedijldkcbaaDoor
open Go.RowKit
theorem pad_min {M n : Nat} (h : qsz M ≤ n) : qminB M ++ List.replicate (n - qsz M) 0 = qleB n M := by
  have := qpad_leB (N := M) (n := n) (k := n) (Nat.le_refl _)
  rw [← this, List.take_append, qminB_len, List.take_of_length_le (by rw [qminB_len]; exact h), List.take_replicate, Nat.min_eq_left (by omega)]
set_option maxRecDepth 100000 in
theorem plus_main {S : Nat → Prop} {w0 : World} {L : Blks} {R : List Row} {q : Option Addr} {c : Nat} (M N : Nat) (y : Value) (hN : NatO L (nv N y) N) (h0 : 0 < qsz M ∨ 0 < qsz N) (hs : qsz M < 1000000) (hs2 : qsz N < 1000000) (w : World) (MM : MemS S w0 w L ((Value.slice q (qsz M) c, 61, 1, qsz M, wc (qminB M)) :: R)) :
    Calls Tryd.prog 49 #[.slice q (qsz M) c, nv N y] w fun e w' => ∃ q' c', e = .returned (.slice q' (qsz (M + N)) c') ∧ MemS S w0 w' L ((Value.slice q' (qsz (M + N)) c', 61, 1, qsz (M + N), wc (qminB (M + N))) :: R) := by
  refine enter_fr Tryd.func49 rfl Tryd.ntmps49 (by simp) fun ac (FF : Fr 73 ac [(0, .slice q (qsz M) c), (1, nv N y)]) => ?_
  refine wp_seq (rg_seq FF MM [o_] [0, 1, 4] (fun Kt => Kt [(4, .slice none 0 0), (0, .slice q (qsz M) c), (1, nv N y)] L) (by kernel_rfl) (fun _ => by kernel_rfl) (fun ac1 wd1 FF1 MM1 => then_n ?_))
  refine wp_seq ?_
  refine wp_seq (rg_seq FF1 MM1 [o_, o_, o_, o_, o_] [4, 0, 1, 13] (fun Kt => Kt [(13, .bool (decide ((qsz N) > (qsz M)))), (4, .slice none 0 0), (0, .slice q (qsz M) c), (1, nv N y)] L) (by kernel_rfl) (fun _ => by kernel_rfl) (fun ac2 wd2 FF2 MM2 => then_n ?_))
  by_cases hs13 : (qsz N) > (qsz M)
  · refine wp_cond_true ((FF2.ev 0 rfl).trans (dec_t hs13)) ?_
    refine wp_region_list ?_
    refine rg_part 6 FF2 MM2 [o_, o_, o_, o_, o_, o_] [4, 0, 1, 14, 19] (fun Kt => (qsz M) ≤ (qsz N) ∧ (qsz N) - (qsz M) < 9223372036854775808 ∧ Kt [(19, iN ((qsz N) - (qsz M))), (14, .slice q (qsz M) c), (4, .slice none 0 0), (0, .slice q (qsz M) c), (1, nv N y)] L) (by kernel_rfl) (fun _ => by kernel_rfl) (⟨(by omega), (by omega), fun ac3 wd3 FF3 MM3 => ?_⟩)
    refine st_appZ [4, 0, 1, 20] FF3 MM3 (d := 20) (s := 14) (x := (.tmp 19)) (z := .int .u64 0) (bb := 8) rfl rfl rfl rfl rfl Tryd.underlying35 Tryd.underlying3 (by kernel_rfl) (by omega) (by simp only [maxLen]; omega) (by omega) rfl rfl (by decide) fun ac6 wd6 rg4 rc5 (FF6 : Fr 73 ac6 [(20, .slice (some ⟨rg4, 0, none⟩) ((qsz M) + ((qsz N) - (qsz M))) rc5), (4, .slice none 0 0), (0, .slice q (qsz M) c), (1, nv N y)]) (MM6 : MemS S w0 wd6 L ((.slice (some ⟨rg4, 0, none⟩) ((qsz M) + ((qsz N) - (qsz M))) rc5, 61, 1, ((qsz M) + ((qsz N) - (qsz M))), ((wc (qminB M)) ++ List.replicate ((qsz N) - (qsz M)) (Value.int .u64 0))) :: R)) => ?_
    have MMx : MemS S w0 wd6 L ((.slice (some ⟨rg4, 0, none⟩) (qsz N) rc5, 61, 1, (qsz N), (wc (qleB (qsz N) M))) :: R) := by have h9 := MM6; rw [wc_rep, wc_app, pad_min (show qsz M ≤ qsz N by omega), show qsz M + (qsz N - qsz M) = qsz N by omega] at h9; exact h9
    rw [show qsz M + (qsz N - qsz M) = qsz N by omega] at FF6
    refine rg_part 1 FF6 MMx [o_] [4, 0, 1] (fun Kt => Kt [(0, .slice (some ⟨rg4, 0, none⟩) (qsz N) rc5), (4, .slice none 0 0), (1, nv N y)] L) (by kernel_rfl) (fun _ => by kernel_rfl) (fun ac7 wd7 FF7 MM7 => ?_)
    refine wpl_nil ?_
    obtain ⟨rs, MMz, hg, hcap, hmx, hsz, hlen⟩ := MemS.freezeW (X := qleB (qsz N) M) MM7
    have MMy : MemS S w0 wd7 ((rg4, .cells ((cn .u64 (adL (qsz N) M N 0)) ++ rs) 61) :: L) R := by rw [adL_zero]; exact MMz
    have hsz2 : ∀ i, (cn .u64 (adL (qsz N) M N i) ++ rs).size = rc5 := fun i => by rw [Array.size_append, cn_size, adL_len]; rw [Array.size_append, cn_size, qleB_len] at hsz; exact hsz
    have hnM : qsz M ≤ qsz N := by omega
    have hnN : qsz N ≤ qsz N := by omega
    have hn0 : qsz N = qsz M ∨ qsz N = qsz N := by first | exact .inl rfl | exact .inr rfl
    refine then_n ?_
    refine wp_seq (rg_seq FF7 MMy [o_] [0, 4, 1, 5] (fun Kt => Kt [(5, iW 0), (0, .slice (some ⟨rg4, 0, none⟩) (qsz N) rc5), (4, .slice none 0 0), (1, nv N y)] ((rg4, .cells ((cn .u64 (adL (qsz N) M N 0)) ++ rs) 61) :: L)) (by kernel_rfl) (fun _ => by kernel_rfl) (fun ac8 wd8 FF8 MM8 => then_n ?_))
    refine wp_seq ?_
    refine wp_seq (rg_seq FF8 MM8 [o_, o_, o_] [5, 0, 4, 1, 21, 22, 23] (fun Kt => Kt [(23, iN 0), (22, iN (qsz N)), (21, nv N y), (5, iW 0), (0, .slice (some ⟨rg4, 0, none⟩) (qsz N) rc5), (4, .slice none 0 0), (1, nv N y)] ((rg4, .cells ((cn .u64 (adL (qsz N) M N 0)) ++ rs) 61) :: L)) (by kernel_rfl) (fun _ => by kernel_rfl) (fun ac9 wd9 FF9 MM9 => then_n ?_))
    refine wp_for (fun a' w' => ∃ i : Nat, ∃ cc : Nat, i ≤ qsz N ∧ cc = qcarB M N i ∧ Fr 73 a' [(23, iN i), (22, iN (qsz N)), (21, nv N y), (5, iW cc), (0, .slice (some ⟨rg4, 0, none⟩) (qsz N) rc5), (4, .slice none 0 0), (1, nv N y)] ∧ MemS S w0 w' ((rg4, .cells ((cn .u64 (adL (qsz N) M N i)) ++ rs) 61) :: L) R) (fun a' _ => (qsz N - cnt 23 a').toNat) ⟨0, 0, by omega, (qcar_zero M N).symm, FF9.pick [0, 1, 2, 3, 4, 5, 6], MM9⟩ ?_
    rintro ac10 wd10 ⟨i, cc, hi, hcc, FF10, MM10⟩
    have hc := cnt_of (FF10.get 0 rfl)
    refine rg_seq FF10 MM10 [o_] [23, 22, 21, 5, 0, 4, 1, 24] (fun Kt => Kt [(24, .bool (decide (i < (qsz N)))), (23, iN i), (22, iN (qsz N)), (21, nv N y), (5, iW cc), (0, .slice (some ⟨rg4, 0, none⟩) (qsz N) rc5), (4, .slice none 0 0), (1, nv N y)] ((rg4, .cells ((cn .u64 (adL (qsz N) M N i)) ++ rs) 61) :: L)) (by kernel_rfl) (fun _ => by kernel_rfl) (fun ac11 wd11 FF11 MM11 => ?_)
    by_cases hlt : i < (qsz N)
    · skip
      refine then_n (.inl ⟨(FF11.ev 0 rfl).trans (dec_t hlt), ?_⟩)
      refine wp_seq (rg_seq FF11 MM11 [o_, f_ (.pointer (some ⟨gOf (pOf y), i, none⟩)), f_ (iW (qd N i)), o_, o_] [23, 22, 21, 5, 0, 4, 1, 6, 7] (fun Kt => RunV Tryd.prog [(25, iN i), (24, .bool (decide (i < (qsz N)))), (23, iN i), (22, iN (qsz N)), (21, nv N y), (5, iW cc), (0, .slice (some ⟨rg4, 0, none⟩) (qsz N) rc5), (4, .slice none 0 0), (1, nv N y)] ((rg4, .cells ((cn .u64 (adL (qsz N) M N i)) ++ rs) 61) :: L) (opAt Tryd.f49 6 1) (.pointer (some ⟨gOf (pOf y), i, none⟩)) ∧ RunV Tryd.prog [(26, .pointer (some ⟨gOf (pOf y), i, none⟩)), (25, iN i), (24, .bool (decide (i < (qsz N)))), (23, iN i), (22, iN (qsz N)), (21, nv N y), (5, iW cc), (0, .slice (some ⟨rg4, 0, none⟩) (qsz N) rc5), (4, .slice none 0 0), (1, nv N y)] ((rg4, .cells ((cn .u64 (adL (qsz N) M N i)) ++ rs) 61) :: L) (opAt Tryd.f49 6 2) (iW (qd N i)) ∧ Kt [(7, iW (qd N i)), (6, iN i), (23, iN i), (22, iN (qsz N)), (21, nv N y), (5, iW cc), (0, .slice (some ⟨rg4, 0, none⟩) (qsz N) rc5), (4, .slice none 0 0), (1, nv N y)] ((rg4, .cells ((cn .u64 (adL (qsz N) M N i)) ++ rs) 61) :: L)) (by kernel_rfl) (fun _ => by kernel_rfl) (⟨(rowAddr_ok (x := (.tmp 21)) (y := (.tmp 23)) (by kernel_rfl) rfl rfl Tryd.underlying35 (by kernel_rfl) (natO_cells hN) (by omega)), (rowLoad_ok (x := (.tmp 26)) (i := i) (by kernel_rfl) rfl Tryd.underlying61 rfl (natO_cells hN) (fun _ hx => List.mem_cons_of_mem _ (hx)) (by omega)), fun ac12 wd12 FF12 MM12 => then_n ?_⟩))
      have hcl := qcar_le M N i
      have hw := add_word M N i
      have hy := add_carry M N i
      rw [← hcc] at hw hy
      refine rg_seq FF12 MM12 [o_, o_, o_, o_, w_ 1, l_ 0 (iW (qd M i)), o_, o_, f_ (.tuple #[iW (((qd M i) + (qd N i) + cc) % 18446744073709551616), iW (((qd M i) + (qd N i) + cc) / 18446744073709551616)]), o_, t_ (iW (qd (M + N) i)), t_ (iW (qcarB M N (i + 1))), w_ 1, s_ 0 (.cells ((cn .u64 (adL (qsz N) M N (i + 1))) ++ rs) 61), o_] [7, 6, 23, 22, 21, 5, 0, 4, 1] (fun Kt => i < (qsz N) ∧ rg4 = rg4 ∧ ((cn .u64 (adL (qsz N) M N i)) ++ rs)[i]? = some (iW (qd M i)) ∧ RunV Tryd.prog [(36, iW cc), (35, iW (qd N i)), (34, iW (qd M i)), (33, .pointer (some ⟨rg4, i, none⟩)), (32, iN i), (31, .slice (some ⟨rg4, 0, none⟩) (qsz N) rc5), (30, iN i), (29, .slice (some ⟨rg4, 0, none⟩) (qsz N) rc5), (7, iW (qd N i)), (6, iN i), (23, iN i), (22, iN (qsz N)), (21, nv N y), (5, iW cc), (0, .slice (some ⟨rg4, 0, none⟩) (qsz N) rc5), (4, .slice none 0 0), (1, nv N y)] ((rg4, .cells ((cn .u64 (adL (qsz N) M N i)) ++ rs) 61) :: L) (opAt Tryd.f49 7 8) (.tuple #[iW (((qd M i) + (qd N i) + cc) % 18446744073709551616), iW (((qd M i) + (qd N i) + cc) / 18446744073709551616)]) ∧ iW (((qd M i) + (qd N i) + cc) % 18446744073709551616) = iW (qd (M + N) i) ∧ iW (((qd M i) + (qd N i) + cc) / 18446744073709551616) = iW (qcarB M N (i + 1)) ∧ i < (qsz N) ∧ rg4 = rg4 ∧ i < ((cn .u64 (adL (qsz N) M N i)) ++ rs).size ∧ (((0, 0)).2 = 0 ∨ i < ((0, 0)).1) ∧ ((cn .u64 (adL (qsz N) M N i)) ++ rs).setIfInBounds i (iW (qd (M + N) i)) = (cn .u64 (adL (qsz N) M N (i + 1))) ++ rs ∧ Kt [(5, iW (qcarB M N (i + 1))), (7, iW (qd N i)), (6, iN i), (23, iN i), (22, iN (qsz N)), (21, nv N y), (0, .slice (some ⟨rg4, 0, none⟩) (qsz N) rc5), (4, .slice none 0 0), (1, nv N y)] ((rg4, .cells ((cn .u64 (adL (qsz N) M N (i + 1))) ++ rs) 61) :: L)) (by kernel_rfl) (fun _ => by kernel_rfl) (⟨(by omega), rfl, ((cat_l (by rw [cn_size, adL_len]; omega)).trans ((cn_get _ _ _ (by rw [adL_len]; omega)).trans (congrArg some (vI ((adL_get _ _ _ _ (by omega)).trans (if_neg (by omega))))))), (add64_ok (f := 66) (ts := #[61, 61, 61]) (x := (.tmp 34)) (y := (.tmp 35)) (z := (.tmp 36)) (by omega) (by kernel_rfl) rfl rfl rfl Tryd.func66 (by kernel_rfl) (by kernel_rfl) (by kernel_rfl) (by kernel_rfl)), (vI hw), (vI hy), (by omega), rfl, (by rw [hsz2]; omega), (.inl rfl), ((cat_set_l (by rw [cn_size, adL_len]; omega)).trans (congrArg (· ++ _) ((cn_set _ _ _ _).trans (congrArg _ (adL_step _ _ _ _ (by omega)))))), fun ac13 wd13 FF13 MM13 => ?_⟩)
      refine inb_n (then_n ?_)
      refine rg_seq FF13 MM13 [o_, o_] [5, 7, 6, 23, 22, 21, 0, 4, 1] (fun Kt => i + 1 < 9223372036854775808 ∧ Kt [(23, iN (i + 1)), (5, iW (qcarB M N (i + 1))), (7, iW (qd N i)), (6, iN i), (22, iN (qsz N)), (21, nv N y), (0, .slice (some ⟨rg4, 0, none⟩) (qsz N) rc5), (4, .slice none 0 0), (1, nv N y)] ((rg4, .cells ((cn .u64 (adL (qsz N) M N (i + 1))) ++ rs) 61) :: L)) (by kernel_rfl) (fun _ => by kernel_rfl) (⟨(by omega), fun ac14 wd14 FF14 MM14 => ?_⟩)
      have hd := cnt_of (FF14.get 0 rfl)
      refine then_n ⟨⟨i + 1, qcarB M N (i + 1), by omega, rfl, FF14.pick [0, 4, 5, 1, 6, 7, 8], MM14⟩, ?_⟩
      rw [hc, hd]; omega
    · skip
      refine then_n (.inr ⟨(FF11.ev 0 rfl).trans (dec_f hlt), ?_⟩)
      obtain rfl : i = qsz N := by omega
      refine then_n ?_
      refine wp_seq ?_
      refine wp_seq (rg_seq FF11 MM11 [o_, o_, o_] [23, 22, 21, 5, 0, 4, 1, 8] (fun Kt => Kt [(8, iN (qsz N)), (23, iN (qsz N)), (22, iN (qsz N)), (21, nv N y), (5, iW cc), (0, .slice (some ⟨rg4, 0, none⟩) (qsz N) rc5), (4, .slice none 0 0), (1, nv N y)] ((rg4, .cells ((cn .u64 (adL (qsz N) M N (qsz N))) ++ rs) 61) :: L)) (by kernel_rfl) (fun _ => by kernel_rfl) (fun ac15 wd15 FF15 MM15 => then_n ?_))
      refine wp_for2 (fun a' w' => ∃ i : Nat, ∃ cc : Nat, qsz N ≤ i ∧ i ≤ qsz N ∧ cc = qcarB M N i ∧ Fr 73 a' [(8, iN i), (23, iN (qsz N)), (22, iN (qsz N)), (21, nv N y), (5, iW cc), (0, .slice (some ⟨rg4, 0, none⟩) (qsz N) rc5), (4, .slice none 0 0), (1, nv N y)] ∧ MemS S w0 w' ((rg4, .cells ((cn .u64 (adL (qsz N) M N i)) ++ rs) 61) :: L) R) (fun a' _ => (qsz N - cnt 8 a').toNat) ⟨qsz N, cc, Nat.le_refl _, hnN, hcc, FF15.pick [0, 1, 2, 3, 4, 5, 6, 7], MM15⟩ ?_
      rintro ac16 wd16 ⟨i, cc, hi2, hi, hcc, FF16, MM16⟩
      have hc := cnt_of (FF16.get 0 rfl)
      by_cases h1 : cc > 0
      · by_cases h2 : i < qsz N
        · skip
          refine rg_seq FF16 MM16 [o_, w_ 2, o_, o_, o_, o_, w_ 2, o_] [8, 23, 22, 21, 5, 0, 4, 1, 51] (fun Kt => cc > 0 ∧ i < (qsz N) ∧ Kt [(51, .bool true), (8, iN i), (23, iN (qsz N)), (22, iN (qsz N)), (21, nv N y), (5, iW cc), (0, .slice (some ⟨rg4, 0, none⟩) (qsz N) rc5), (4, .slice none 0 0), (1, nv N y)] ((rg4, .cells ((cn .u64 (adL (qsz N) M N i)) ++ rs) 61) :: L)) (by kernel_rfl) (fun _ => by kernel_rfl) (⟨h1, h2, fun ac17 wd17 FF17 MM17 => ?_⟩)
          refine then_n (.inl ⟨FF17.ev 0 rfl, ?_⟩)
          have hcl := qcar_le M N i
          have hw := add_word M N i
          have hy := add_carry M N i
          rw [qd_out hi2, ← hcc] at hw hy
          refine rg_seq FF17 MM17 [o_, o_, o_, o_, w_ 1, l_ 0 (iW (qd M i)), o_, f_ (.tuple #[iW (((qd M i) + 0 + cc) % 18446744073709551616), iW (((qd M i) + 0 + cc) / 18446744073709551616)]), o_, t_ (iW (qd (M + N) i)), t_ (iW (qcarB M N (i + 1))), w_ 1, s_ 0 (.cells ((cn .u64 (adL (qsz N) M N (i + 1))) ++ rs) 61), o_] [8, 23, 22, 21, 5, 0, 4, 1] (fun Kt => i < (qsz N) ∧ rg4 = rg4 ∧ ((cn .u64 (adL (qsz N) M N i)) ++ rs)[i]? = some (iW (qd M i)) ∧ RunV Tryd.prog [(61, iW cc), (60, iW (qd M i)), (59, .pointer (some ⟨rg4, i, none⟩)), (58, iN i), (57, .slice (some ⟨rg4, 0, none⟩) (qsz N) rc5), (56, iN i), (55, .slice (some ⟨rg4, 0, none⟩) (qsz N) rc5), (51, .bool true), (8, iN i), (23, iN (qsz N)), (22, iN (qsz N)), (21, nv N y), (5, iW cc), (0, .slice (some ⟨rg4, 0, none⟩) (qsz N) rc5), (4, .slice none 0 0), (1, nv N y)] ((rg4, .cells ((cn .u64 (adL (qsz N) M N i)) ++ rs) 61) :: L) (opAt Tryd.f49 12 7) (.tuple #[iW (((qd M i) + 0 + cc) % 18446744073709551616), iW (((qd M i) + 0 + cc) / 18446744073709551616)]) ∧ iW (((qd M i) + 0 + cc) % 18446744073709551616) = iW (qd (M + N) i) ∧ iW (((qd M i) + 0 + cc) / 18446744073709551616) = iW (qcarB M N (i + 1)) ∧ i < (qsz N) ∧ rg4 = rg4 ∧ i < ((cn .u64 (adL (qsz N) M N i)) ++ rs).size ∧ (((0, 0)).2 = 0 ∨ i < ((0, 0)).1) ∧ ((cn .u64 (adL (qsz N) M N i)) ++ rs).setIfInBounds i (iW (qd (M + N) i)) = (cn .u64 (adL (qsz N) M N (i + 1))) ++ rs ∧ Kt [(5, iW (qcarB M N (i + 1))), (8, iN i), (23, iN (qsz N)), (22, iN (qsz N)), (21, nv N y), (0, .slice (some ⟨rg4, 0, none⟩) (qsz N) rc5), (4, .slice none 0 0), (1, nv N y)] ((rg4, .cells ((cn .u64 (adL (qsz N) M N (i + 1))) ++ rs) 61) :: L)) (by kernel_rfl) (fun _ => by kernel_rfl) (⟨(by omega), rfl, ((cat_l (by rw [cn_size, adL_len]; omega)).trans ((cn_get _ _ _ (by rw [adL_len]; omega)).trans (congrArg some (vI ((adL_get _ _ _ _ (by omega)).trans (if_neg (by omega))))))), (add64_ok (f := 66) (ts := #[61, 61, 61]) (x := (.tmp 60)) (y := (.const (iW 0))) (z := (.tmp 61)) (by omega) (by kernel_rfl) rfl rfl rfl Tryd.func66 (by kernel_rfl) (by kernel_rfl) (by kernel_rfl) (by kernel_rfl)), (vI hw), (vI hy), (by omega), rfl, (by rw [hsz2]; omega), (.inl rfl), ((cat_set_l (by rw [cn_size, adL_len]; omega)).trans (congrArg (· ++ _) ((cn_set _ _ _ _).trans (congrArg _ (adL_step _ _ _ _ (by omega)))))), fun ac18 wd18 FF18 MM18 => ?_⟩)
          refine inb_n (then_n ?_)
          refine rg_seq FF18 MM18 [o_, o_, o_] [5, 8, 23, 22, 21, 0, 4, 1] (fun Kt => i + 1 < 9223372036854775808 ∧ Kt [(8, iN (i + 1)), (5, iW (qcarB M N (i + 1))), (23, iN (qsz N)), (22, iN (qsz N)), (21, nv N y), (0, .slice (some ⟨rg4, 0, none⟩) (qsz N) rc5), (4, .slice none 0 0), (1, nv N y)] ((rg4, .cells ((cn .u64 (adL (qsz N) M N (i + 1))) ++ rs) 61) :: L)) (by kernel_rfl) (fun _ => by kernel_rfl) (⟨(by omega), fun ac19 wd19 FF19 MM19 => ?_⟩)
          have hd := cnt_of (FF19.get 0 rfl)
          refine then_n ⟨⟨i + 1, qcarB M N (i + 1), by omega, by omega, rfl, FF19.pick [0, 2, 3, 4, 1, 5, 6, 7], MM19⟩, ?_⟩
          rw [hc, hd]; omega
        · skip
          refine rg_seq FF16 MM16 [o_, w_ 2, o_, o_, o_, o_, w_ 3, o_] [8, 23, 22, 21, 5, 0, 4, 1, 51] (fun Kt => cc > 0 ∧ ¬ (i < (qsz N)) ∧ Kt [(51, .bool false), (8, iN i), (23, iN (qsz N)), (22, iN (qsz N)), (21, nv N y), (5, iW cc), (0, .slice (some ⟨rg4, 0, none⟩) (qsz N) rc5), (4, .slice none 0 0), (1, nv N y)] ((rg4, .cells ((cn .u64 (adL (qsz N) M N i)) ++ rs) 61) :: L)) (by kernel_rfl) (fun _ => by kernel_rfl) (⟨h1, h2, fun ac20 wd20 FF20 MM20 => ?_⟩)
          refine then_n (.inr ⟨FF20.ev 0 rfl, ?_⟩)
          obtain rfl : i = qsz N := by omega
          have hsz1 := add_size1 hnM hnN (hcc ▸ h1)
          have hrow : qleB (qsz N) (M + N) ++ [cc] = qminB (M + N) := by rw [hcc]; exact add_row1 hsz1
          have hfin := add_fin1 (qsz N) M N
          have MMt := MemS.thawW (X := qleB (qsz N) (M + N)) (m := qsz N) (cap := rc5) (by rw [← hfin]; exact MM20) hg (qleB_len _ _) hcap hmx (by rw [← hfin]; exact hsz2 _)
          refine then_n ?_
          refine wp_seq ?_
          refine wp_seq (rg_seq FF20 MMt [o_, w_ 2] [8, 23, 22, 21, 5, 0, 4, 1, 67] (fun Kt => cc > 0 ∧ Kt [(67, .bool true), (8, iN (qsz N)), (23, iN (qsz N)), (22, iN (qsz N)), (21, nv N y), (5, iW cc), (0, .slice (some ⟨rg4, 0, none⟩) (qsz N) rc5), (4, .slice none 0 0), (1, nv N y)] L) (by kernel_rfl) (fun _ => by kernel_rfl) (⟨h1, fun ac21 wd21 FF21 MM21 => then_n ?_⟩))
          refine wp_cond_true (FF21.ev 0 rfl) ?_
          refine wp_region_list ?_
          refine rg_part 3 FF21 MM21 [o_, o_, o_] [8, 23, 22, 21, 5, 0, 4, 1, 68, 70] (fun Kt => ∀ bq, Kt [(70, .slice (some ⟨bq, 0, none⟩) 1 1), (68, .slice (some ⟨rg4, 0, none⟩) (qsz N) rc5), (8, iN (qsz N)), (23, iN (qsz N)), (22, iN (qsz N)), (21, nv N y), (5, iW cc), (0, .slice (some ⟨rg4, 0, none⟩) (qsz N) rc5), (4, .slice none 0 0), (1, nv N y)] ((bq, .cells (cn .u64 [cc]) 61) :: L)) (by kernel_rfl) (fun _ => by kernel_rfl) (fun bq => fun ac22 wd22 FF22 MM22 => ?_)
          refine st_app [8, 23, 22, 21, 5, 0, 4, 1, 71] FF22 MM22 (d := 71) (s := 68) (x := 70) (Y := (wc [cc])) (z := iW 0) (bb := 8) rfl rfl rfl rfl (lies_cn64 (MM22.get 0 rfl)) (wc_one _) (by decide) Tryd.underlying35 (by kernel_rfl) rfl (by decide) (by simp only [maxLen]; omega) (by omega) rfl rfl (by decide) fun ac24 wd24 rv23 (FF24 : Fr 73 ac24 [(71, rv23), (8, iN (qsz N)), (23, iN (qsz N)), (22, iN (qsz N)), (21, nv N y), (5, iW cc), (0, .slice (some ⟨rg4, 0, none⟩) (qsz N) rc5), (4, .slice none 0 0), (1, nv N y)]) (MM24 : MemS S w0 wd24 ((bq, .cells (cn .u64 [cc]) 61) :: L) ((rv23, 61, 1, ((qsz N) + 1), ((wc (qleB (qsz N) (M + N))) ++ (wc [cc]))) :: R)) => ?_
          have MMa : MemS S w0 wd24 ((bq, .cells (cn .u64 [cc]) 61) :: L) ((rv23, 61, 1, (qsz (M + N)), (wc (qminB (M + N)))) :: R) := by have h9 := MM24; rw [wc_app, hrow, hsz1.1] at h9; exact h9
          refine rg_part 1 FF24 MMa [o_] [8, 23, 22, 21, 5, 0, 4, 1] (fun Kt => Kt [(0, rv23), (8, iN (qsz N)), (23, iN (qsz N)), (22, iN (qsz N)), (21, nv N y), (5, iW cc), (4, .slice none 0 0), (1, nv N y)] ((bq, .cells (cn .u64 [cc]) 61) :: L)) (by kernel_rfl) (fun _ => by kernel_rfl) (fun ac25 wd25 FF25 MM25 => ?_)
          refine wpl_nil ?_
          refine then_n ?_
          refine wp_seq (rg_seq FF25 MM25 [o_, o_] [0, 8, 23, 22, 21, 5, 4, 1] (fun Kt => Kt [(4, rv23), (0, rv23), (8, iN (qsz N)), (23, iN (qsz N)), (22, iN (qsz N)), (21, nv N y), (5, iW cc), (1, nv N y)] ((bq, .cells (cn .u64 [cc]) 61) :: L)) (by kernel_rfl) (fun _ => by kernel_rfl) (fun ac26 wd26 FF26 MM26 => then_n ?_))
          refine wp_ret ?_
          repeat first | refine then_ret ?_ | refine inb_ret ?_
          exact (ret_fr FF26 0 Tryd.results49 rfl (by obtain ⟨p9, c9, rfl, _⟩ := MM26.rowLen; exact ⟨p9, c9, rfl, (MM26.dropAt 0)⟩))
      · skip
        refine rg_seq FF16 MM16 [o_, w_ 3, o_, o_, o_, o_, o_, o_] [8, 23, 22, 21, 5, 0, 4, 1, 51] (fun Kt => ¬ (cc > 0) ∧ Kt [(51, .bool false), (8, iN i), (23, iN (qsz N)), (22, iN (qsz N)), (21, nv N y), (5, iW cc), (0, .slice (some ⟨rg4, 0, none⟩) (qsz N) rc5), (4, .slice none 0 0), (1, nv N y)] ((rg4, .cells ((cn .u64 (adL (qsz N) M N i)) ++ rs) 61) :: L)) (by kernel_rfl) (fun _ => by kernel_rfl) (⟨h1, fun ac27 wd27 FF27 MM27 => ?_⟩)
        refine then_n (.inr ⟨FF27.ev 0 rfl, ?_⟩)
        obtain ⟨hfin, hlt2⟩ := add_fin0 hi2 hi hnM (by omega)
        have hsz1 := add_size0 hn0 hlt2
        have MMt := MemS.thawW (X := qleB (qsz N) (M + N)) (m := qsz N) (cap := rc5) (by rw [← hfin]; exact MM27) hg (qleB_len _ _) hcap hmx (by rw [← hfin]; exact hsz2 _)
        refine then_n ?_
        refine wp_seq ?_
        refine wp_seq (rg_seq FF27 MMt [o_, w_ 3] [8, 23, 22, 21, 5, 0, 4, 1, 67] (fun Kt => ¬ (cc > 0) ∧ Kt [(67, .bool false), (8, iN i), (23, iN (qsz N)), (22, iN (qsz N)), (21, nv N y), (5, iW cc), (0, .slice (some ⟨rg4, 0, none⟩) (qsz N) rc5), (4, .slice none 0 0), (1, nv N y)] L) (by kernel_rfl) (fun _ => by kernel_rfl) (⟨h1, fun ac28 wd28 FF28 MM28 => then_n ?_⟩))
        refine wp_cond_false (FF28.ev 0 rfl) ?_
        refine wp_skip ?_
        refine then_n ?_
        refine wp_seq (rg_seq FF28 MM28 [o_, o_] [8, 23, 22, 21, 5, 0, 4, 1] (fun Kt => Kt [(4, .slice (some ⟨rg4, 0, none⟩) (qsz N) rc5), (8, iN i), (23, iN (qsz N)), (22, iN (qsz N)), (21, nv N y), (5, iW cc), (0, .slice (some ⟨rg4, 0, none⟩) (qsz N) rc5), (1, nv N y)] L) (by kernel_rfl) (fun _ => by kernel_rfl) (fun ac29 wd29 FF29 MM29 => then_n ?_))
        refine wp_ret ?_
        repeat first | refine then_ret ?_ | refine inb_ret ?_
        exact (ret_fr FF29 0 Tryd.results49 rfl (by have h9 := MM29; rw [hsz1, show qleB (qsz (M + N)) (M + N) = qminB (M + N) from rfl] at h9; exact ⟨_, _, congrArg Ending.returned (by rw [hsz1]), h9⟩))
  · refine wp_cond_false ((FF2.ev 0 rfl).trans (dec_f hs13)) ?_
    obtain ⟨g, rfl⟩ := MM.rowSome (by omega)
    obtain ⟨rs, MMz, hg, hcap, hmx, hsz, hlen⟩ := MemS.freezeW (X := qleB (qsz M) M) MM2
    have MMy : MemS S w0 wd2 ((g, .cells ((cn .u64 (adL (qsz M) M N 0)) ++ rs) 61) :: L) R := by rw [adL_zero]; exact MMz
    have hsz2 : ∀ i, (cn .u64 (adL (qsz M) M N i) ++ rs).size = c := fun i => by rw [Array.size_append, cn_size, adL_len]; rw [Array.size_append, cn_size, qleB_len] at hsz; exact hsz
    have hnM : qsz M ≤ qsz M := by omega
    have hnN : qsz N ≤ qsz M := by omega
    have hn0 : qsz M = qsz M ∨ qsz M = qsz N := by first | exact .inl rfl | exact .inr rfl
    refine wp_skip ?_
    refine then_n ?_
    refine wp_seq (rg_seq FF2 MMy [o_] [4, 0, 1, 5] (fun Kt => Kt [(5, iW 0), (4, .slice none 0 0), (0, .slice (some ⟨g, 0, none⟩) (qsz M) c), (1, nv N y)] ((g, .cells ((cn .u64 (adL (qsz M) M N 0)) ++ rs) 61) :: L)) (by kernel_rfl) (fun _ => by kernel_rfl) (fun ac30 wd30 FF30 MM30 => then_n ?_))
    refine wp_seq ?_
    refine wp_seq (rg_seq FF30 MM30 [o_, o_, o_] [5, 4, 0, 1, 21, 22, 23] (fun Kt => Kt [(23, iN 0), (22, iN (qsz N)), (21, nv N y), (5, iW 0), (4, .slice none 0 0), (0, .slice (some ⟨g, 0, none⟩) (qsz M) c), (1, nv N y)] ((g, .cells ((cn .u64 (adL (qsz M) M N 0)) ++ rs) 61) :: L)) (by kernel_rfl) (fun _ => by kernel_rfl) (fun ac31 wd31 FF31 MM31 => then_n ?_))
    refine wp_for (fun a' w' => ∃ i : Nat, ∃ cc : Nat, i ≤ qsz N ∧ cc = qcarB M N i ∧ Fr 73 a' [(23, iN i), (22, iN (qsz N)), (21, nv N y), (5, iW cc), (4, .slice none 0 0), (0, .slice (some ⟨g, 0, none⟩) (qsz M) c), (1, nv N y)] ∧ MemS S w0 w' ((g, .cells ((cn .u64 (adL (qsz M) M N i)) ++ rs) 61) :: L) R) (fun a' _ => (qsz N - cnt 23 a').toNat) ⟨0, 0, by omega, (qcar_zero M N).symm, FF31.pick [0, 1, 2, 3, 4, 5, 6], MM31⟩ ?_
    rintro ac32 wd32 ⟨i, cc, hi, hcc, FF32, MM32⟩
    have hc := cnt_of (FF32.get 0 rfl)
    refine rg_seq FF32 MM32 [o_] [23, 22, 21, 5, 4, 0, 1, 24] (fun Kt => Kt [(24, .bool (decide (i < (qsz N)))), (23, iN i), (22, iN (qsz N)), (21, nv N y), (5, iW cc), (4, .slice none 0 0), (0, .slice (some ⟨g, 0, none⟩) (qsz M) c), (1, nv N y)] ((g, .cells ((cn .u64 (adL (qsz M) M N i)) ++ rs) 61) :: L)) (by kernel_rfl) (fun _ => by kernel_rfl) (fun ac33 wd33 FF33 MM33 => ?_)
    by_cases hlt : i < (qsz N)
    · skip
      refine then_n (.inl ⟨(FF33.ev 0 rfl).trans (dec_t hlt), ?_⟩)
      refine wp_seq (rg_seq FF33 MM33 [o_, f_ (.pointer (some ⟨gOf (pOf y), i, none⟩)), f_ (iW (qd N i)), o_, o_] [23, 22, 21, 5, 4, 0, 1, 6, 7] (fun Kt => RunV Tryd.prog [(25, iN i), (24, .bool (decide (i < (qsz N)))), (23, iN i), (22, iN (qsz N)), (21, nv N y), (5, iW cc), (4, .slice none 0 0), (0, .slice (some ⟨g, 0, none⟩) (qsz M) c), (1, nv N y)] ((g, .cells ((cn .u64 (adL (qsz M) M N i)) ++ rs) 61) :: L) (opAt Tryd.f49 6 1) (.pointer (some ⟨gOf (pOf y), i, none⟩)) ∧ RunV Tryd.prog [(26, .pointer (some ⟨gOf (pOf y), i, none⟩)), (25, iN i), (24, .bool (decide (i < (qsz N)))), (23, iN i), (22, iN (qsz N)), (21, nv N y), (5, iW cc), (4, .slice none 0 0), (0, .slice (some ⟨g, 0, none⟩) (qsz M) c), (1, nv N y)] ((g, .cells ((cn .u64 (adL (qsz M) M N i)) ++ rs) 61) :: L) (opAt Tryd.f49 6 2) (iW (qd N i)) ∧ Kt [(7, iW (qd N i)), (6, iN i), (23, iN i), (22, iN (qsz N)), (21, nv N y), (5, iW cc), (4, .slice none 0 0), (0, .slice (some ⟨g, 0, none⟩) (qsz M) c), (1, nv N y)] ((g, .cells ((cn .u64 (adL (qsz M) M N i)) ++ rs) 61) :: L)) (by kernel_rfl) (fun _ => by kernel_rfl) (⟨(rowAddr_ok (x := (.tmp 21)) (y := (.tmp 23)) (by kernel_rfl) rfl rfl Tryd.underlying35 (by kernel_rfl) (natO_cells hN) (by omega)), (rowLoad_ok (x := (.tmp 26)) (i := i) (by kernel_rfl) rfl Tryd.underlying61 rfl (natO_cells hN) (fun _ hx => List.mem_cons_of_mem _ (hx)) (by omega)), fun ac34 wd34 FF34 MM34 => then_n ?_⟩))
      have hcl := qcar_le M N i
      have hw := add_word M N i
      have hy := add_carry M N i
      rw [← hcc] at hw hy
      refine rg_seq FF34 MM34 [o_, o_, o_, o_, w_ 1, l_ 0 (iW (qd M i)), o_, o_, f_ (.tuple #[iW (((qd M i) + (qd N i) + cc) % 18446744073709551616), iW (((qd M i) + (qd N i) + cc) / 18446744073709551616)]), o_, t_ (iW (qd (M + N) i)), t_ (iW (qcarB M N (i + 1))), w_ 1, s_ 0 (.cells ((cn .u64 (adL (qsz M) M N (i + 1))) ++ rs) 61), o_] [7, 6, 23, 22, 21, 5, 4, 0, 1] (fun Kt => i < (qsz M) ∧ g = g ∧ ((cn .u64 (adL (qsz M) M N i)) ++ rs)[i]? = some (iW (qd M i)) ∧ RunV Tryd.prog [(36, iW cc), (35, iW (qd N i)), (34, iW (qd M i)), (33, .pointer (some ⟨g, i, none⟩)), (32, iN i), (31, .slice (some ⟨g, 0, none⟩) (qsz M) c), (30, iN i), (29, .slice (some ⟨g, 0, none⟩) (qsz M) c), (7, iW (qd N i)), (6, iN i), (23, iN i), (22, iN (qsz N)), (21, nv N y), (5, iW cc), (4, .slice none 0 0), (0, .slice (some ⟨g, 0, none⟩) (qsz M) c), (1, nv N y)] ((g, .cells ((cn .u64 (adL (qsz M) M N i)) ++ rs) 61) :: L) (opAt Tryd.f49 7 8) (.tuple #[iW (((qd M i) + (qd N i) + cc) % 18446744073709551616), iW (((qd M i) + (qd N i) + cc) / 18446744073709551616)]) ∧ iW (((qd M i) + (qd N i) + cc) % 18446744073709551616) = iW (qd (M + N) i) ∧ iW (((qd M i) + (qd N i) + cc) / 18446744073709551616) = iW (qcarB M N (i + 1)) ∧ i < (qsz M) ∧ g = g ∧ i < ((cn .u64 (adL (qsz M) M N i)) ++ rs).size ∧ (((0, 0)).2 = 0 ∨ i < ((0, 0)).1) ∧ ((cn .u64 (adL (qsz M) M N i)) ++ rs).setIfInBounds i (iW (qd (M + N) i)) = (cn .u64 (adL (qsz M) M N (i + 1))) ++ rs ∧ Kt [(5, iW (qcarB M N (i + 1))), (7, iW (qd N i)), (6, iN i), (23, iN i), (22, iN (qsz N)), (21, nv N y), (4, .slice none 0 0), (0, .slice (some ⟨g, 0, none⟩) (qsz M) c), (1, nv N y)] ((g, .cells ((cn .u64 (adL (qsz M) M N (i + 1))) ++ rs) 61) :: L)) (by kernel_rfl) (fun _ => by kernel_rfl) (⟨(by omega), rfl, ((cat_l (by rw [cn_size, adL_len]; omega)).trans ((cn_get _ _ _ (by rw [adL_len]; omega)).trans (congrArg some (vI ((adL_get _ _ _ _ (by omega)).trans (if_neg (by omega))))))), (add64_ok (f := 66) (ts := #[61, 61, 61]) (x := (.tmp 34)) (y := (.tmp 35)) (z := (.tmp 36)) (by omega) (by kernel_rfl) rfl rfl rfl Tryd.func66 (by kernel_rfl) (by kernel_rfl) (by kernel_rfl) (by kernel_rfl)), (vI hw), (vI hy), (by omega), rfl, (by rw [hsz2]; omega), (.inl rfl), ((cat_set_l (by rw [cn_size, adL_len]; omega)).trans (congrArg (· ++ _) ((cn_set _ _ _ _).trans (congrArg _ (adL_step _ _ _ _ (by omega)))))), fun ac35 wd35 FF35 MM35 => ?_⟩)
      refine inb_n (then_n ?_)
      refine rg_seq FF35 MM35 [o_, o_] [5, 7, 6, 23, 22, 21, 4, 0, 1] (fun Kt => i + 1 < 9223372036854775808 ∧ Kt [(23, iN (i + 1)), (5, iW (qcarB M N (i + 1))), (7, iW (qd N i)), (6, iN i), (22, iN (qsz N)), (21, nv N y), (4, .slice none 0 0), (0, .slice (some ⟨g, 0, none⟩) (qsz M) c), (1, nv N y)] ((g, .cells ((cn .u64 (adL (qsz M) M N (i + 1))) ++ rs) 61) :: L)) (by kernel_rfl) (fun _ => by kernel_rfl) (⟨(by omega), fun ac36 wd36 FF36 MM36 => ?_⟩)
      have hd := cnt_of (FF36.get 0 rfl)
      refine then_n ⟨⟨i + 1, qcarB M N (i + 1), by omega, rfl, FF36.pick [0, 4, 5, 1, 6, 7, 8], MM36⟩, ?_⟩
      rw [hc, hd]; omega
    · skip
      refine then_n (.inr ⟨(FF33.ev 0 rfl).trans (dec_f hlt), ?_⟩)
      obtain rfl : i = qsz N := by omega
      refine then_n ?_
      refine wp_seq ?_
      refine wp_seq (rg_seq FF33 MM33 [o_, o_, o_] [23, 22, 21, 5, 4, 0, 1, 8] (fun Kt => Kt [(8, iN (qsz N)), (23, iN (qsz N)), (22, iN (qsz N)), (21, nv N y), (5, iW cc), (4, .slice none 0 0), (0, .slice (some ⟨g, 0, none⟩) (qsz M) c), (1, nv N y)] ((g, .cells ((cn .u64 (adL (qsz M) M N (qsz N))) ++ rs) 61) :: L)) (by kernel_rfl) (fun _ => by kernel_rfl) (fun ac37 wd37 FF37 MM37 => then_n ?_))
      refine wp_for2 (fun a' w' => ∃ i : Nat, ∃ cc : Nat, qsz N ≤ i ∧ i ≤ qsz M ∧ cc = qcarB M N i ∧ Fr 73 a' [(8, iN i), (23, iN (qsz N)), (22, iN (qsz N)), (21, nv N y), (5, iW cc), (4, .slice none 0 0), (0, .slice (some ⟨g, 0, none⟩) (qsz M) c), (1, nv N y)] ∧ MemS S w0 w' ((g, .cells ((cn .u64 (adL (qsz M) M N i)) ++ rs) 61) :: L) R) (fun a' _ => (qsz M - cnt 8 a').toNat) ⟨qsz N, cc, Nat.le_refl _, hnN, hcc, FF37.pick [0, 1, 2, 3, 4, 5, 6, 7], MM37⟩ ?_
      rintro ac38 wd38 ⟨i, cc, hi2, hi, hcc, FF38, MM38⟩
      have hc := cnt_of (FF38.get 0 rfl)
      by_cases h1 : cc > 0
      · by_cases h2 : i < qsz M
        · skip
          refine rg_seq FF38 MM38 [o_, w_ 2, o_, o_, o_, o_, w_ 2, o_] [8, 23, 22, 21, 5, 4, 0, 1, 51] (fun Kt => cc > 0 ∧ i < (qsz M) ∧ Kt [(51, .bool true), (8, iN i), (23, iN (qsz N)), (22, iN (qsz N)), (21, nv N y), (5, iW cc), (4, .slice none 0 0), (0, .slice (some ⟨g, 0, none⟩) (qsz M) c), (1, nv N y)] ((g, .cells ((cn .u64 (adL (qsz M) M N i)) ++ rs) 61) :: L)) (by kernel_rfl) (fun _ => by kernel_rfl) (⟨h1, h2, fun ac39 wd39 FF39 MM39 => ?_⟩)
          refine then_n (.inl ⟨FF39.ev 0 rfl, ?_⟩)
          have hcl := qcar_le M N i
          have hw := add_word M N i
          have hy := add_carry M N i
          rw [qd_out hi2, ← hcc] at hw hy
          refine rg_seq FF39 MM39 [o_, o_, o_, o_, w_ 1, l_ 0 (iW (qd M i)), o_, f_ (.tuple #[iW (((qd M i) + 0 + cc) % 18446744073709551616), iW (((qd M i) + 0 + cc) / 18446744073709551616)]), o_, t_ (iW (qd (M + N) i)), t_ (iW (qcarB M N (i + 1))), w_ 1, s_ 0 (.cells ((cn .u64 (adL (qsz M) M N (i + 1))) ++ rs) 61), o_] [8, 23, 22, 21, 5, 4, 0, 1] (fun Kt => i < (qsz M) ∧ g = g ∧ ((cn .u64 (adL (qsz M) M N i)) ++ rs)[i]? = some (iW (qd M i)) ∧ RunV Tryd.prog [(61, iW cc), (60, iW (qd M i)), (59, .pointer (some ⟨g, i, none⟩)), (58, iN i), (57, .slice (some ⟨g, 0, none⟩) (qsz M) c), (56, iN i), (55, .slice (some ⟨g, 0, none⟩) (qsz M) c), (51, .bool true), (8, iN i), (23, iN (qsz N)), (22, iN (qsz N)), (21, nv N y), (5, iW cc), (4, .slice none 0 0), (0, .slice (some ⟨g, 0, none⟩) (qsz M) c), (1, nv N y)] ((g, .cells ((cn .u64 (adL (qsz M) M N i)) ++ rs) 61) :: L) (opAt Tryd.f49 12 7) (.tuple #[iW (((qd M i) + 0 + cc) % 18446744073709551616), iW (((qd M i) + 0 + cc) / 18446744073709551616)]) ∧ iW (((qd M i) + 0 + cc) % 18446744073709551616) = iW (qd (M + N) i) ∧ iW (((qd M i) + 0 + cc) / 18446744073709551616) = iW (qcarB M N (i + 1)) ∧ i < (qsz M) ∧ g = g ∧ i < ((cn .u64 (adL (qsz M) M N i)) ++ rs).size ∧ (((0, 0)).2 = 0 ∨ i < ((0, 0)).1) ∧ ((cn .u64 (adL (qsz M) M N i)) ++ rs).setIfInBounds i (iW (qd (M + N) i)) = (cn .u64 (adL (qsz M) M N (i + 1))) ++ rs ∧ Kt [(5, iW (qcarB M N (i + 1))), (8, iN i), (23, iN (qsz N)), (22, iN (qsz N)), (21, nv N y), (4, .slice none 0 0), (0, .slice (some ⟨g, 0, none⟩) (qsz M) c), (1, nv N y)] ((g, .cells ((cn .u64 (adL (qsz M) M N (i + 1))) ++ rs) 61) :: L)) (by kernel_rfl) (fun _ => by kernel_rfl) (⟨(by omega), rfl, ((cat_l (by rw [cn_size, adL_len]; omega)).trans ((cn_get _ _ _ (by rw [adL_len]; omega)).trans (congrArg some (vI ((adL_get _ _ _ _ (by omega)).trans (if_neg (by omega))))))), (add64_ok (f := 66) (ts := #[61, 61, 61]) (x := (.tmp 60)) (y := (.const (iW 0))) (z := (.tmp 61)) (by omega) (by kernel_rfl) rfl rfl rfl Tryd.func66 (by kernel_rfl) (by kernel_rfl) (by kernel_rfl) (by kernel_rfl)), (vI hw), (vI hy), (by omega), rfl, (by rw [hsz2]; omega), (.inl rfl), ((cat_set_l (by rw [cn_size, adL_len]; omega)).trans (congrArg (· ++ _) ((cn_set _ _ _ _).trans (congrArg _ (adL_step _ _ _ _ (by omega)))))), fun ac40 wd40 FF40 MM40 => ?_⟩)
          refine inb_n (then_n ?_)
          refine rg_seq FF40 MM40 [o_, o_, o_] [5, 8, 23, 22, 21, 4, 0, 1] (fun Kt => i + 1 < 9223372036854775808 ∧ Kt [(8, iN (i + 1)), (5, iW (qcarB M N (i + 1))), (23, iN (qsz N)), (22, iN (qsz N)), (21, nv N y), (4, .slice none 0 0), (0, .slice (some ⟨g, 0, none⟩) (qsz M) c), (1, nv N y)] ((g, .cells ((cn .u64 (adL (qsz M) M N (i + 1))) ++ rs) 61) :: L)) (by kernel_rfl) (fun _ => by kernel_rfl) (⟨(by omega), fun ac41 wd41 FF41 MM41 => ?_⟩)
          have hd := cnt_of (FF41.get 0 rfl)
          refine then_n ⟨⟨i + 1, qcarB M N (i + 1), by omega, by omega, rfl, FF41.pick [0, 2, 3, 4, 1, 5, 6, 7], MM41⟩, ?_⟩
          rw [hc, hd]; omega
        · skip
          refine rg_seq FF38 MM38 [o_, w_ 2, o_, o_, o_, o_, w_ 3, o_] [8, 23, 22, 21, 5, 4, 0, 1, 51] (fun Kt => cc > 0 ∧ ¬ (i < (qsz M)) ∧ Kt [(51, .bool false), (8, iN i), (23, iN (qsz N)), (22, iN (qsz N)), (21, nv N y), (5, iW cc), (4, .slice none 0 0), (0, .slice (some ⟨g, 0, none⟩) (qsz M) c), (1, nv N y)] ((g, .cells ((cn .u64 (adL (qsz M) M N i)) ++ rs) 61) :: L)) (by kernel_rfl) (fun _ => by kernel_rfl) (⟨h1, h2, fun ac42 wd42 FF42 MM42 => ?_⟩)
          refine then_n (.inr ⟨FF42.ev 0 rfl, ?_⟩)
          obtain rfl : i = qsz M := by omega
          have hsz1 := add_size1 hnM hnN (hcc ▸ h1)
          have hrow : qleB (qsz M) (M + N) ++ [cc] = qminB (M + N) := by rw [hcc]; exact add_row1 hsz1
          have hfin := add_fin1 (qsz M) M N
          have MMt := MemS.thawW (X := qleB (qsz M) (M + N)) (m := qsz M) (cap := c) (by rw [← hfin]; exact MM42) hg (qleB_len _ _) hcap hmx (by rw [← hfin]; exact hsz2 _)
          refine then_n ?_
          refine wp_seq ?_
          refine wp_seq (rg_seq FF42 MMt [o_, w_ 2] [8, 23, 22, 21, 5, 4, 0, 1, 67] (fun Kt => cc > 0 ∧ Kt [(67, .bool true), (8, iN (qsz M)), (23, iN (qsz N)), (22, iN (qsz N)), (21, nv N y), (5, iW cc), (4, .slice none 0 0), (0, .slice (some ⟨g, 0, none⟩) (qsz M) c), (1, nv N y)] L) (by kernel_rfl) (fun _ => by kernel_rfl) (⟨h1, fun ac43 wd43 FF43 MM43 => then_n ?_⟩))
          refine wp_cond_true (FF43.ev 0 rfl) ?_
          refine wp_region_list ?_
          refine rg_part 3 FF43 MM43 [o_, o_, o_] [8, 23, 22, 21, 5, 4, 0, 1, 68, 70] (fun Kt => ∀ bq, Kt [(70, .slice (some ⟨bq, 0, none⟩) 1 1), (68, .slice (some ⟨g, 0, none⟩) (qsz M) c), (8, iN (qsz M)), (23, iN (qsz N)), (22, iN (qsz N)), (21, nv N y), (5, iW cc), (4, .slice none 0 0), (0, .slice (some ⟨g, 0, none⟩) (qsz M) c), (1, nv N y)] ((bq, .cells (cn .u64 [cc]) 61) :: L)) (by kernel_rfl) (fun _ => by kernel_rfl) (fun bq => fun ac44 wd44 FF44 MM44 => ?_)
          refine st_app [8, 23, 22, 21, 5, 4, 0, 1, 71] FF44 MM44 (d := 71) (s := 68) (x := 70) (Y := (wc [cc])) (z := iW 0) (bb := 8) rfl rfl rfl rfl (lies_cn64 (MM44.get 0 rfl)) (wc_one _) (by decide) Tryd.underlying35 (by kernel_rfl) rfl (by decide) (by simp only [maxLen]; omega) (by omega) rfl rfl (by decide) fun ac46 wd46 rv45 (FF46 : Fr 73 ac46 [(71, rv45), (8, iN (qsz M)), (23, iN (qsz N)), (22, iN (qsz N)), (21, nv N y), (5, iW cc), (4, .slice none 0 0), (0, .slice (some ⟨g, 0, none⟩) (qsz M) c), (1, nv N y)]) (MM46 : MemS S w0 wd46 ((bq, .cells (cn .u64 [cc]) 61) :: L) ((rv45, 61, 1, ((qsz M) + 1), ((wc (qleB (qsz M) (M + N))) ++ (wc [cc]))) :: R)) => ?_
          have MMa : MemS S w0 wd46 ((bq, .cells (cn .u64 [cc]) 61) :: L) ((rv45, 61, 1, (qsz (M + N)), (wc (qminB (M + N)))) :: R) := by have h9 := MM46; rw [wc_app, hrow, hsz1.1] at h9; exact h9
          refine rg_part 1 FF46 MMa [o_] [8, 23, 22, 21, 5, 4, 0, 1] (fun Kt => Kt [(0, rv45), (8, iN (qsz M)), (23, iN (qsz N)), (22, iN (qsz N)), (21, nv N y), (5, iW cc), (4, .slice none 0 0), (1, nv N y)] ((bq, .cells (cn .u64 [cc]) 61) :: L)) (by kernel_rfl) (fun _ => by kernel_rfl) (fun ac47 wd47 FF47 MM47 => ?_)
          refine wpl_nil ?_
          refine then_n ?_
          refine wp_seq (rg_seq FF47 MM47 [o_, o_] [0, 8, 23, 22, 21, 5, 4, 1] (fun Kt => Kt [(4, rv45), (0, rv45), (8, iN (qsz M)), (23, iN (qsz N)), (22, iN (qsz N)), (21, nv N y), (5, iW cc), (1, nv N y)] ((bq, .cells (cn .u64 [cc]) 61) :: L)) (by kernel_rfl) (fun _ => by kernel_rfl) (fun ac48 wd48 FF48 MM48 => then_n ?_))
          refine wp_ret ?_
          repeat first | refine then_ret ?_ | refine inb_ret ?_
          exact (ret_fr FF48 0 Tryd.results49 rfl (by obtain ⟨p9, c9, rfl, _⟩ := MM48.rowLen; exact ⟨p9, c9, rfl, (MM48.dropAt 0)⟩))
      · skip
        refine rg_seq FF38 MM38 [o_, w_ 3, o_, o_, o_, o_, o_, o_] [8, 23, 22, 21, 5, 4, 0, 1, 51] (fun Kt => ¬ (cc > 0) ∧ Kt [(51, .bool false), (8, iN i), (23, iN (qsz N)), (22, iN (qsz N)), (21, nv N y), (5, iW cc), (4, .slice none 0 0), (0, .slice (some ⟨g, 0, none⟩) (qsz M) c), (1, nv N y)] ((g, .cells ((cn .u64 (adL (qsz M) M N i)) ++ rs) 61) :: L)) (by kernel_rfl) (fun _ => by kernel_rfl) (⟨h1, fun ac49 wd49 FF49 MM49 => ?_⟩)
        refine then_n (.inr ⟨FF49.ev 0 rfl, ?_⟩)
        obtain ⟨hfin, hlt2⟩ := add_fin0 hi2 hi hnM (by omega)
        have hsz1 := add_size0 hn0 hlt2
        have MMt := MemS.thawW (X := qleB (qsz M) (M + N)) (m := qsz M) (cap := c) (by rw [← hfin]; exact MM49) hg (qleB_len _ _) hcap hmx (by rw [← hfin]; exact hsz2 _)
        refine then_n ?_
        refine wp_seq ?_
        refine wp_seq (rg_seq FF49 MMt [o_, w_ 3] [8, 23, 22, 21, 5, 4, 0, 1, 67] (fun Kt => ¬ (cc > 0) ∧ Kt [(67, .bool false), (8, iN i), (23, iN (qsz N)), (22, iN (qsz N)), (21, nv N y), (5, iW cc), (4, .slice none 0 0), (0, .slice (some ⟨g, 0, none⟩) (qsz M) c), (1, nv N y)] L) (by kernel_rfl) (fun _ => by kernel_rfl) (⟨h1, fun ac50 wd50 FF50 MM50 => then_n ?_⟩))
        refine wp_cond_false (FF50.ev 0 rfl) ?_
        refine wp_skip ?_
        refine then_n ?_
        refine wp_seq (rg_seq FF50 MM50 [o_, o_] [8, 23, 22, 21, 5, 4, 0, 1] (fun Kt => Kt [(4, .slice (some ⟨g, 0, none⟩) (qsz M) c), (8, iN i), (23, iN (qsz N)), (22, iN (qsz N)), (21, nv N y), (5, iW cc), (0, .slice (some ⟨g, 0, none⟩) (qsz M) c), (1, nv N y)] L) (by kernel_rfl) (fun _ => by kernel_rfl) (fun ac51 wd51 FF51 MM51 => then_n ?_))
        refine wp_ret ?_
        repeat first | refine then_ret ?_ | refine inb_ret ?_
        exact (ret_fr FF51 0 Tryd.results49 rfl (by have h9 := MM51; rw [hsz1, show qleB (qsz (M + N)) (M + N) = qminB (M + N) from rfl] at h9; exact ⟨_, _, congrArg Ending.returned (by rw [hsz1]), h9⟩))
end Go.Proofs.YtlljedijldkcbaaDoor
namespace Go.Proofs.YtlljedijldkcbaaDoor
open Go.RowKit
set_option maxRecDepth 100000 in
theorem plus_nil {S : Nat → Prop} {w0 : World} {L : Blks} {R : List Row} (y : Value) (w : World) (MM : MemS S w0 w L ((Value.slice none 0 0, 61, 1, 0, []) :: R)) :
    Calls Tryd.prog 49 #[.slice none 0 0, nv 0 y] w fun e w' => e = .returned (.slice none 0 0) ∧ MemS S w0 w' L ((Value.slice none 0 0, 61, 1, 0, []) :: R) := by
  refine enter_fr Tryd.func49 rfl Tryd.ntmps49 (by simp) fun ac (FF : Fr 73 ac [(0, .slice none 0 0), (1, nv 0 y)]) => ?_
  refine wp_seq (rg_seq FF MM [o_] [0, 1, 4] (fun Kt => Kt [(4, .slice none 0 0), (0, .slice none 0 0), (1, nv 0 y)] L) (by kernel_rfl) (fun _ => by kernel_rfl) (fun ac1 wd1 FF1 MM1 => then_n ?_))
  refine wp_seq ?_
  refine wp_seq (rg_seq FF1 MM1 [o_, o_, o_, o_, w_ 3] [4, 0, 1, 13] (fun Kt => ¬ ((qsz 0) > 0) ∧ Kt [(13, .bool false), (4, .slice none 0 0), (0, .slice none 0 0), (1, nv 0 y)] L) (by kernel_rfl) (fun _ => by kernel_rfl) (⟨(by decide), fun ac2 wd2 FF2 MM2 => then_n ?_⟩))
  refine wp_cond_false (FF2.ev 0 rfl) ?_
  refine wp_skip ?_
  refine then_n ?_
  refine wp_seq (rg_seq FF2 MM2 [o_] [4, 0, 1, 5] (fun Kt => Kt [(5, iW 0), (4, .slice none 0 0), (0, .slice none 0 0), (1, nv 0 y)] L) (by kernel_rfl) (fun _ => by kernel_rfl) (fun ac3 wd3 FF3 MM3 => then_n ?_))
  refine wp_seq ?_
  refine wp_seq (rg_seq FF3 MM3 [o_, o_, o_] [5, 4, 0, 1, 21, 22, 23] (fun Kt => Kt [(23, iN 0), (22, iN (qsz 0)), (21, nv 0 y), (5, iW 0), (4, .slice none 0 0), (0, .slice none 0 0), (1, nv 0 y)] L) (by kernel_rfl) (fun _ => by kernel_rfl) (fun ac4 wd4 FF4 MM4 => then_n ?_))
  refine wp_for (fun a' w' => ∃ i : Nat, i ≤ 0 ∧ Fr 73 a' [(23, iN i), (22, iN (qsz 0)), (21, nv 0 y), (5, iW 0), (4, .slice none 0 0), (0, .slice none 0 0), (1, nv 0 y)] ∧ MemS S w0 w' L ((.slice none 0 0, 61, 1, 0, []) :: R)) (fun a' _ => (0 - cnt 23 a').toNat) ⟨0, Nat.le_refl _, FF4.pick [0, 1, 2, 3, 4, 5, 6], MM4⟩ ?_
  rintro ac5 wd5 ⟨i, hi, FF5, MM5⟩
  refine rg_seq FF5 MM5 [w_ 3] [23, 22, 21, 5, 4, 0, 1, 24] (fun Kt => ¬ (i < (qsz 0)) ∧ Kt [(24, .bool false), (23, iN i), (22, iN (qsz 0)), (21, nv 0 y), (5, iW 0), (4, .slice none 0 0), (0, .slice none 0 0), (1, nv 0 y)] L) (by kernel_rfl) (fun _ => by kernel_rfl) (⟨(by rw [qsz_zero]; omega), fun ac6 wd6 FF6 MM6 => ?_⟩)
  refine then_n (.inr ⟨FF6.ev 0 rfl, ?_⟩)
  refine then_n ?_
  refine wp_seq ?_
  refine wp_seq (rg_seq FF6 MM6 [o_, o_, o_] [23, 22, 21, 5, 4, 0, 1, 8] (fun Kt => Kt [(8, iN (qsz 0)), (23, iN i), (22, iN (qsz 0)), (21, nv 0 y), (5, iW 0), (4, .slice none 0 0), (0, .slice none 0 0), (1, nv 0 y)] L) (by kernel_rfl) (fun _ => by kernel_rfl) (fun ac7 wd7 FF7 MM7 => then_n ?_))
  refine wp_for2 (fun a' w' => ∃ k : Nat, Fr 73 a' [(8, iN k), (23, iN i), (22, iN (qsz 0)), (21, nv 0 y), (5, iW 0), (4, .slice none 0 0), (0, .slice none 0 0), (1, nv 0 y)] ∧ MemS S w0 w' L ((.slice none 0 0, 61, 1, 0, []) :: R)) (fun a' _ => (0 - cnt 8 a').toNat) ⟨qsz 0, FF7.pick [0, 1, 2, 3, 4, 5, 6, 7], MM7⟩ ?_
  rintro ac8 wd8 ⟨k, FF8, MM8⟩
  refine rg_seq FF8 MM8 [o_, w_ 3, o_, o_, o_, o_, o_, o_] [8, 23, 22, 21, 5, 4, 0, 1, 51] (fun Kt => ¬ (0 > 0) ∧ Kt [(51, .bool false), (8, iN k), (23, iN i), (22, iN (qsz 0)), (21, nv 0 y), (5, iW 0), (4, .slice none 0 0), (0, .slice none 0 0), (1, nv 0 y)] L) (by kernel_rfl) (fun _ => by kernel_rfl) (⟨(by decide), fun ac9 wd9 FF9 MM9 => ?_⟩)
  refine then_n (.inr ⟨FF9.ev 0 rfl, ?_⟩)
  refine then_n ?_
  refine wp_seq ?_
  refine wp_seq (rg_seq FF9 MM9 [o_, w_ 3] [8, 23, 22, 21, 5, 4, 0, 1, 67] (fun Kt => ¬ (0 > 0) ∧ Kt [(67, .bool false), (8, iN k), (23, iN i), (22, iN (qsz 0)), (21, nv 0 y), (5, iW 0), (4, .slice none 0 0), (0, .slice none 0 0), (1, nv 0 y)] L) (by kernel_rfl) (fun _ => by kernel_rfl) (⟨(by decide), fun ac10 wd10 FF10 MM10 => then_n ?_⟩))
  refine wp_cond_false (FF10.ev 0 rfl) ?_
  refine wp_skip ?_
  refine then_n ?_
  refine wp_seq (rg_seq FF10 MM10 [o_, o_] [8, 23, 22, 21, 5, 4, 0, 1] (fun Kt => Kt [(4, .slice none 0 0), (8, iN k), (23, iN i), (22, iN (qsz 0)), (21, nv 0 y), (5, iW 0), (0, .slice none 0 0), (1, nv 0 y)] L) (by kernel_rfl) (fun _ => by kernel_rfl) (fun ac11 wd11 FF11 MM11 => then_n ?_))
  refine wp_ret ?_
  repeat first | refine then_ret ?_ | refine inb_ret ?_
  exact (ret_fr FF11 0 Tryd.results49 rfl ⟨rfl, MM11⟩)
theorem plus_any {S : Nat → Prop} {w0 : World} {L : Blks} {R : List Row} (M N : Nat) (x y : Value) (hN : NatO L (nv N y) N) (hz : M = 0 → pOf x = none ∧ cOf x = 0) (hs : qsz M < 1000000) (hs2 : qsz N < 1000000) (w : World) (MM : MemS S w0 w L ((nv M x, 61, 1, qsz M, wc (qminB M)) :: R)) :
    Calls Tryd.prog 49 #[nv M x, nv N y] w fun e w' => ∃ v, e = .returned (nv (M + N) v) ∧ (M + N = 0 → pOf v = none ∧ cOf v = 0) ∧ MemS S w0 w' L ((nv (M + N) v, 61, 1, qsz (M + N), wc (qminB (M + N))) :: R) := by
  by_cases h0 : M = 0 ∧ N = 0
  · obtain ⟨rfl, rfl⟩ := h0
    obtain ⟨h1, h2⟩ := hz rfl
    have e : nv 0 x = .slice none 0 0 := by rw [nv, h1, h2]; rfl
    rw [e] at MM ⊢
    refine (plus_nil y w MM).mono ?_
    rintro e w' ⟨rfl, h⟩
    exact ⟨.slice none 0 0, rfl, fun _ => ⟨rfl, rfl⟩, h⟩
  · have hp : 0 < qsz M ∨ 0 < qsz N := by
      by_cases hM : M = 0
      · exact .inr (qsz_pos fun e => h0 ⟨hM, e⟩)
      · exact .inl (qsz_pos hM)
    refine (plus_main M N y hN hp hs hs2 w MM).mono ?_
    rintro e w' ⟨q', c', rfl, h⟩
    exact ⟨.slice q' 0 c', rfl, fun e => (by omega), h⟩
/-- Numbers in a row. -/
def nvs (ns : List Nat) (xs : List Value) (j : Nat) : Value := nv (ns.getD j 0) (xs.getD j undef)
def NatsO (O : Blks) (p : Option Addr) (ns : List Nat) (xs : List Value) : Prop := CellsO O p ns.length (nvs ns xs) ∧ ∀ j, j < ns.length → NatO O (nvs ns xs j) (ns.getD j 0)
def NatsIn (w : World) (p : Option Addr) (ns : List Nat) (xs : List Value) : Prop := CellsIn w p ns.length (nvs ns xs) ∧ ∀ j, j < ns.length → NatIn w (nvs ns xs j) (ns.getD j 0)
theorem NatsIn.keep {w w' : World} {p : Option Addr} {ns : List Nat} {xs : List Value} (h : NatsIn w p ns xs) (hb : Below w.heap.size w w') : NatsIn w' p ns xs := ⟨h.1.keep hb, fun j hj => (h.2 j hj).keep hb⟩
theorem NatsO.at {w : World} {O : Blks} {p : Option Addr} {ns : List Nat} {xs : List Value} (h : NatsO O p ns xs) (H : Has w O) : NatsIn w p ns xs := ⟨h.1.at H, fun j hj => (h.2 j hj).at H⟩
theorem NatsO.mono {O O' : Blks} {p : Option Addr} {ns : List Nat} {xs : List Value} (h : NatsO O p ns xs) (hs : ∀ x ∈ O, x ∈ O') : NatsO O' p ns xs := ⟨h.1.mono hs, fun j hj => (h.2 j hj).mono hs⟩
theorem natsIn_O {w : World} {p : Option Addr} {ns : List Nat} {xs : List Value} (h : NatsIn w p ns xs) : ∃ O : Blks, Has w O ∧ Distinct O ∧ NatsO O p ns xs := by
  have hc : ∃ O : Blks, Has w O ∧ O.Pairwise (fun x y => x.1 ≠ y.1) ∧ CellsO O p ns.length (nvs ns xs) := by
    rcases h.1 with h | ⟨b, cs, T, fr, h1, h2, h3⟩
    · exact ⟨[], fun i x hx => by simp at hx, .nil, .inl h⟩
    · refine ⟨[(b, .cells cs T fr)], fun i x hx => ?_, by simp, .inr ⟨b, cs, T, fr, h1, by simp, h3⟩⟩
      cases i with
      | zero => simp at hx; subst hx; exact h2
      | succ i => simp at hx
  obtain ⟨O1, g1, g2, g3⟩ := hc
  obtain ⟨O, f1, f2, f3, f4⟩ := nats_O ((List.range ns.length).map fun j => (nvs ns xs j, ns.getD j 0)) (fun x hx => by
    obtain ⟨j, hj, rfl⟩ := List.mem_map.1 hx
    exact h.2 j (List.mem_range.1 hj)) O1 g1 g2
  exact ⟨O, f1, distinct_of f2, g3.mono f4, fun j hj => f3.get j (by simp [hj])⟩
theorem nats2 {w : World} {b : Nat} {T : TypeId} {fr : Nat × Nat} {N1 N2 : Nat} {x1 x2 : Value} (h : w.heap[b]? = some (.cells #[nv N1 x1, nv N2 x2] T fr)) (h1 : NatIn w (nv N1 x1) N1) (h2 : NatIn w (nv N2 x2) N2) : NatsIn w (some ⟨b, 0, none⟩) [N1, N2] [x1, x2] :=
  ⟨.inr ⟨b, _, T, fr, rfl, h, fun j hj => by
    have : j = 0 ∨ j = 1 := by simp at hj; omega
    rcases this with rfl | rfl <;> rfl⟩, fun j hj => by
    have : j = 0 ∨ j = 1 := by simp at hj; omega
    rcases this with rfl | rfl
    · exact h1
    · exact h2⟩
theorem sum_take (ns : List Nat) (i : Nat) (h : i < ns.length) : (ns.take (i + 1)).sum = (ns.take i).sum + ns.getD i 0 := by
  rw [List.take_add_one, List.sum_append, List.getElem?_eq_getElem h]
  simp [List.getD_eq_getElem?_getD, List.getElem?_eq_getElem h]
theorem sum_part (ns : List Nat) (i : Nat) : (ns.take i).sum ≤ ns.sum := by
  conv => rhs; rw [← List.take_append_drop i ns]
  rw [List.sum_append]; omega
theorem sum_one (ns : List Nat) (i : Nat) (h : i < ns.length) : ns.getD i 0 ≤ ns.sum := by
  have h1 := sum_part ns (i + 1)
  rw [sum_take ns i h] at h1
  omega
theorem natNew_row {S : Nat → Prop} {w0 w : World} {L : Blks} {R : List Row} {e : TypeId} {N : Nat} {x : Value} (hz : N = 0 → pOf x = none ∧ cOf x = 0) (M : MemS S w0 w L ((nv N x, e, 1, qsz N, wc (qminB N)) :: R)) : NatNew w0.heap.size w (nv N x) N := by
  have hown := M.rows _ (List.mem_cons_self ..)
  rcases hown.2 with ⟨h1, h2⟩ | ⟨g, cap, cur, h1, h2, h3, h4, h5, h6, h7⟩
  · simp only at h1 h2
    have hN := qz0 h2
    subst hN
    rw [h1]
    exact ⟨⟨none, 0, rfl, fun _ => ⟨rfl, rfl⟩, fun h => (h rfl).elim, Nat.le_refl _, .inl rfl⟩, fun g hg => by cases hg⟩
  · simp only [nv, Value.slice.injEq, true_and] at h1
    refine ⟨⟨pOf x, cOf x, rfl, fun e => hz e, fun _ => by rw [h1.1]; simp, by rw [h1.2]; exact h4, .inr ⟨g, cur, e, (0, 0), h1.1, h3, fun j hj => ?_⟩⟩, fun g' hg' => ?_⟩
    · simp only [Nat.mul_one] at h7
      have e1 := congrArg (fun l => l[j]?) h7
      simp only [List.getElem?_take, if_pos hj] at e1
      rw [show cur[j]? = cur.toList[j]? by simp, e1]
      have : j < (qminB N).length := by rw [qminB_len]; exact hj
      simp only [wc, List.getElem?_map, List.getElem?_eq_getElem this, Option.map_some]
      have h9 := qminB_get N j
      rw [List.getD_eq_getElem?_getD, List.getElem?_eq_getElem this] at h9
      simp only [Option.getD_some] at h9
      rw [h9]; rfl
    · rw [nv, h1.1] at hg'
      obtain rfl : g = g' := by simpa [Value.ownBlock] using hg'
      exact h2
set_option maxRecDepth 100000 in
theorem nadd_O (O : Blks) (hD : Distinct O) (p : Option Addr) (cp : Nat) (ns : List Nat) (xs : List Value) (hA : NatsO O p ns xs) (hs : qsz ns.sum < 1000000) (hl : ns.length < 1000) (w0 : World) (H : Has w0 O) :
    Calls Tryd.prog 31 #[.slice p ns.length cp] w0 fun e w' => ∃ v, e = .returned (.agg #[nv ns.sum v]) ∧ Below w0.heap.size w0 w' ∧ NatNew w0.heap.size w' (nv ns.sum v) ns.sum := by
  refine enter_fr Tryd.func31 rfl Tryd.ntmps31 (by simp) fun ac (FF : Fr 19 ac [(0, .slice p ns.length cp)]) => ?_
  have MM : MemS (fun k => k < w0.heap.size ∧ ∀ x ∈ O, x.1 ≠ k) w0 w0 O [] := MemS.startN H hD
  refine wp_seq (rg_seq FF MM [o_] [0, 2] (fun Kt => ∀ br, Kt [(2, pT br), (0, .slice p ns.length cp)] ((br, oC #[.slice none 0 0] 37) :: O)) (by kernel_rfl) (fun _ => by kernel_rfl) (fun br => fun ac1 wd1 FF1 MM1 => then_n ?_))
  refine wp_seq (rg_seq FF1 MM1 [o_] [2, 0, 3] (fun Kt => Kt [(3, .slice none 0 0), (2, pT br), (0, .slice p ns.length cp)] ((br, oC #[.slice none 0 0] 37) :: O)) (by kernel_rfl) (fun _ => by kernel_rfl) (fun ac2 wd2 FF2 MM2 => then_n ?_))
  have MMn : MemS (fun k => k < w0.heap.size ∧ ∀ x ∈ O, x.1 ≠ k) w0 wd2 ((br, oC #[.slice none 0 0] 37) :: O) [(nv ((ns.take 0).sum) (.slice none 0 0), 61, 1, (qsz ((ns.take 0).sum)), (wc (qminB ((ns.take 0).sum))))] := MM2.rowNil 61 1
  refine wp_seq ?_
  refine wp_seq (rg_seq FF2 MMn [o_, o_, o_] [3, 2, 6, 7, 8] (fun Kt => Kt [(8, iN 0), (7, iN ns.length), (6, .slice p ns.length cp), (3, nv ((ns.take 0).sum) (.slice none 0 0)), (2, pT br)] ((br, oC #[.slice none 0 0] 37) :: O)) (by kernel_rfl) (fun _ => by kernel_rfl) (fun ac3 wd3 FF3 MM3 => then_n ?_))
  refine wp_for (fun a' w' => ∃ i : Nat, ∃ v : Value, i ≤ ns.length ∧ ((ns.take i).sum = 0 → pOf v = none ∧ cOf v = 0) ∧ Fr 19 a' [(8, iN i), (7, iN ns.length), (6, .slice p ns.length cp), (3, nv ((ns.take i).sum) v), (2, pT br)] ∧ MemS (fun k => k < w0.heap.size ∧ ∀ x ∈ O, x.1 ≠ k) w0 w' ((br, oC #[.slice none 0 0] 37) :: O) [(nv ((ns.take i).sum) v, 61, 1, (qsz ((ns.take i).sum)), (wc (qminB ((ns.take i).sum))))]) (fun a' _ => (ns.length - cnt 8 a').toNat) ⟨0, (.slice none 0 0), by omega, fun _ => ⟨rfl, rfl⟩, FF3.pick [0, 1, 2, 3, 4], MM3⟩ ?_
  rintro ac4 wd4 ⟨i, v, hi, hz, FF4, MM4⟩
  have hc := cnt_of (FF4.get 0 rfl)
  refine rg_seq FF4 MM4 [o_] [8, 7, 6, 3, 2, 9] (fun Kt => Kt [(9, .bool (decide (i < ns.length))), (8, iN i), (7, iN ns.length), (6, .slice p ns.length cp), (3, nv ((ns.take i).sum) v), (2, pT br)] ((br, oC #[.slice none 0 0] 37) :: O)) (by kernel_rfl) (fun _ => by kernel_rfl) (fun ac5 wd5 FF5 MM5 => ?_)
  by_cases hlt : i < ns.length
  · skip
    refine then_n (.inl ⟨(FF5.ev 0 rfl).trans (dec_t hlt), ?_⟩)
    refine wp_seq (rg_seq FF5 MM5 [f_ (.pointer (some ⟨gOf p, i, none⟩)), f_ (aG #[nv (ns.getD i 0) (xs.getD i undef)]), o_, b_ 0] [8, 7, 6, 3, 2, 5] (fun Kt => RunV Tryd.prog [(9, .bool (decide (i < ns.length))), (8, iN i), (7, iN ns.length), (6, .slice p ns.length cp), (3, nv ((ns.take i).sum) v), (2, pT br)] ((br, oC #[.slice none 0 0] 37) :: O) (opAt Tryd.f31 4 0) (.pointer (some ⟨gOf p, i, none⟩)) ∧ RunV Tryd.prog [(10, .pointer (some ⟨gOf p, i, none⟩)), (9, .bool (decide (i < ns.length))), (8, iN i), (7, iN ns.length), (6, .slice p ns.length cp), (3, nv ((ns.take i).sum) v), (2, pT br)] ((br, oC #[.slice none 0 0] 37) :: O) (opAt Tryd.f31 4 1) (aG #[nv (ns.getD i 0) (xs.getD i undef)]) ∧ ∀ b1, b1 = b1 ∧ (#[.slice none 0 0] : Array Value).size = 1 ∧ (#[nv (ns.getD i 0) (xs.getD i undef)] : Array Value).size = 1 ∧ (#[nv (ns.getD i 0) (xs.getD i undef)] : Array Value).all (·.oneCell') = true ∧ (0, 0).2 = 0 ∧ Kt [(5, pT b1), (8, iN i), (7, iN ns.length), (6, .slice p ns.length cp), (3, nv ((ns.take i).sum) v), (2, pT br)] ((b1, oC #[nv (ns.getD i 0) (xs.getD i undef)] 37) :: (br, oC #[.slice none 0 0] 37) :: O)) (by kernel_rfl) (fun _ => by kernel_rfl) (⟨(rowAddr_ok (x := (.tmp 6)) (y := (.tmp 8)) (by kernel_rfl) rfl rfl Tryd.underlying86 (by kernel_rfl) hA.1 (by omega)), (rowLoadA_ok (x := (.tmp 10)) (i := i) (by kernel_rfl) rfl Tryd.underlying37 rfl (by kernel_rfl) hA.1 (fun _ hx => List.mem_cons_of_mem _ (hx)) (by omega)), fun b1 => ⟨rfl, rfl, rfl, (by kernel_rfl), rfl, fun ac6 wd6 FF6 MM6 => then_n ?_⟩⟩))
    refine wp_region_list ?_
    refine rg_part 3 FF6 MM6 [o_, o_, l_ 0 (nv (ns.getD i 0) (xs.getD i undef))] [5, 8, 7, 6, 3, 2, 12, 14] (fun Kt => b1 = b1 ∧ (#[nv (ns.getD i 0) (xs.getD i undef)] : Array Value)[0]? = some (nv (ns.getD i 0) (xs.getD i undef)) ∧ Kt [(14, nv (ns.getD i 0) (xs.getD i undef)), (12, nv ((ns.take i).sum) v), (5, pT b1), (8, iN i), (7, iN ns.length), (6, .slice p ns.length cp), (3, nv ((ns.take i).sum) v), (2, pT br)] ((b1, oC #[nv (ns.getD i 0) (xs.getD i undef)] 37) :: (br, oC #[.slice none 0 0] 37) :: O)) (by kernel_rfl) (fun _ => by kernel_rfl) (⟨rfl, rfl, fun ac7 wd7 FF7 MM7 => ?_⟩)
    refine st_callE [5, 8, 7, 6, 3, 2, 15] FF7 (d := 15) (mk := fun v => nv ((ns.take i).sum + ns.getD i 0) v) en_plus rfl rfl (plus_any ((ns.take i).sum) (ns.getD i 0) v (xs.getD i undef) ((hA.2 i (by omega)).mono (fun _ hx => List.mem_cons_of_mem _ (List.mem_cons_of_mem _ (hx)))) hz (Nat.lt_of_le_of_lt (qsz_mono (sum_part ns i)) hs) (Nat.lt_of_le_of_lt (qsz_mono (sum_one ns i (by omega))) hs) _ MM7) rfl (by kernel_rfl) (by decide) fun ac9 wd9 lv8 (FF9 : Fr 19 ac9 [(15, nv ((ns.take i).sum + ns.getD i 0) lv8), (5, pT b1), (8, iN i), (7, iN ns.length), (6, .slice p ns.length cp), (3, nv ((ns.take i).sum) v), (2, pT br)]) hr10 => ?_
    rw [← sum_take ns i (by omega)] at FF9 hr10
    obtain ⟨hz2, MMlv8⟩ := hr10
    refine rg_part 1 FF9 MMlv8 [o_] [5, 8, 7, 6, 3, 2] (fun Kt => Kt [(3, nv ((ns.take (i + 1)).sum) lv8), (5, pT b1), (8, iN i), (7, iN ns.length), (6, .slice p ns.length cp), (2, pT br)] ((b1, oC #[nv (ns.getD i 0) (xs.getD i undef)] 37) :: (br, oC #[.slice none 0 0] 37) :: O)) (by kernel_rfl) (fun _ => by kernel_rfl) (fun ac11 wd11 FF11 MM11 => ?_)
    refine wpl_nil ?_
    refine inb_n (then_n ?_)
    refine rg_seq FF11 MM11 [o_, o_] [3, 5, 8, 7, 6, 2] (fun Kt => i + 1 < 9223372036854775808 ∧ Kt [(8, iN (i + 1)), (3, nv ((ns.take (i + 1)).sum) lv8), (5, pT b1), (7, iN ns.length), (6, .slice p ns.length cp), (2, pT br)] ((b1, oC #[nv (ns.getD i 0) (xs.getD i undef)] 37) :: (br, oC #[.slice none 0 0] 37) :: O)) (by kernel_rfl) (fun _ => by kernel_rfl) (⟨(by omega), fun ac12 wd12 FF12 MM12 => ?_⟩)
    have hd := cnt_of (FF12.get 0 rfl)
    refine then_n ⟨⟨i + 1, lv8, by omega, hz2, FF12.pick [0, 3, 4, 1, 5], (MM12.dropAt 0)⟩, ?_⟩
    rw [hc, hd]; omega
  · skip
    refine then_n (.inr ⟨(FF5.ev 0 rfl).trans (dec_f hlt), ?_⟩)
    obtain rfl : i = ns.length := by omega
    refine then_n ?_
    refine wp_seq (rg_seq FF5 MM5 [o_, o_, b_ 0] [8, 7, 6, 3, 2] (fun Kt => br = br ∧ (#[.slice none 0 0] : Array Value).size = 1 ∧ (#[nv ((ns.take ns.length).sum) v] : Array Value).size = 1 ∧ (#[nv ((ns.take ns.length).sum) v] : Array Value).all (·.oneCell') = true ∧ (0, 0).2 = 0 ∧ Kt [(8, iN ns.length), (7, iN ns.length), (6, .slice p ns.length cp), (3, nv ((ns.take ns.length).sum) v), (2, pT br)] ((br, oC #[nv ((ns.take ns.length).sum) v] 37) :: O)) (by kernel_rfl) (fun _ => by kernel_rfl) (⟨rfl, rfl, rfl, (by kernel_rfl), rfl, fun ac13 wd13 FF13 MM13 => then_n ?_⟩))
    refine wp_ret ?_
    repeat first | refine then_ret ?_ | refine inb_ret ?_
    exact (retc FF13 MM13 (k := 1) (i := 0) (j := 4) Tryd.results31 rfl rfl Tryd.underlying37 rfl (by kernel_rfl) rfl (by have h9 := natNew_row hz MM13; rw [List.take_length] at h9 ⊢; exact ⟨v, rfl, MM13.belowN H (fun _ hx => List.mem_cons_of_mem _ (hx)), h9⟩))
theorem nadd_any (p : Option Addr) (cp : Nat) (ns : List Nat) (xs : List Value) (hs : qsz ns.sum < 1000000) (hl : ns.length < 1000) (w0 : World) (hA : NatsIn w0 p ns xs) : Calls Tryd.prog 31 #[.slice p ns.length cp] w0 fun e w' => ∃ v, e = .returned (.agg #[nv ns.sum v]) ∧ Below w0.heap.size w0 w' ∧ NatNew w0.heap.size w' (nv ns.sum v) ns.sum := by
  obtain ⟨O, h1, h2, h3⟩ := natsIn_O hA
  exact nadd_O O h2 p cp ns xs h3 hs hl w0 h1
end Go.Proofs.YtlljedijldkcbaaDoor
namespace Go.Proofs.YtlljedijldkcbaaDoor
open Go.RowKit
/-- What is carried behind k words of V + N * x. -/
def mc (V N x k : Nat) : Nat := (V % 18446744073709551616 ^ k + N % 18446744073709551616 ^ k * x) / 18446744073709551616 ^ k
theorem mc_zero (V N x : Nat) : mc V N x 0 = 0 := by simp [mc, Nat.mod_one]
theorem mod_next (X k : Nat) : X % 18446744073709551616 ^ (k + 1) = X % 18446744073709551616 ^ k + 18446744073709551616 ^ k * qd X k := by rw [Nat.pow_succ, Nat.mod_mul]; rfl
theorem mc_num (V N x k : Nat) : (V % 18446744073709551616 ^ (k + 1) + N % 18446744073709551616 ^ (k + 1) * x) / 18446744073709551616 ^ k = mc V N x k + (qd V k + qd N k * x) := by
  rw [mod_next V k, mod_next N k]
  have : V % 18446744073709551616 ^ k + 18446744073709551616 ^ k * qd V k + (N % 18446744073709551616 ^ k + 18446744073709551616 ^ k * qd N k) * x = (V % 18446744073709551616 ^ k + N % 18446744073709551616 ^ k * x) + 18446744073709551616 ^ k * (qd V k + qd N k * x) := by
    rw [Nat.add_mul, Nat.mul_add, Nat.mul_assoc]; omega
  rw [this, Nat.add_mul_div_left _ _ (qpw_pos k)]; rfl
theorem mc_step (V N x k : Nat) : (x * qd N k + mc V N x k + qd V k) / 18446744073709551616 = mc V N x (k + 1) := by
  have h := mc_num V N x k
  have e : mc V N x (k + 1) = (V % 18446744073709551616 ^ (k + 1) + N % 18446744073709551616 ^ (k + 1) * x) / 18446744073709551616 ^ k / 18446744073709551616 := by rw [mc, Nat.div_div_eq_div_mul, ← Nat.pow_succ]
  rw [e, h, Nat.mul_comm x]
  congr 1; omega
theorem mc_word (V N x k : Nat) : (x * qd N k + mc V N x k + qd V k) % 18446744073709551616 = qd (V + N * x) k := by
  have e : V + N * x = (V % 18446744073709551616 ^ k + N % 18446744073709551616 ^ k * x) + 18446744073709551616 ^ k * (V / 18446744073709551616 ^ k + N / 18446744073709551616 ^ k * x) := by
    have h1 := Nat.div_add_mod V (18446744073709551616 ^ k)
    have h2 := Nat.div_add_mod N (18446744073709551616 ^ k)
    conv => lhs; rw [← h1, ← h2]
    rw [Nat.add_mul, Nat.mul_add, Nat.mul_assoc]; omega
  unfold qd
  rw [e, Nat.add_mul_div_left _ _ (qpw_pos k)]
  have : N / 18446744073709551616 ^ k * x % 18446744073709551616 = (N / 18446744073709551616 ^ k % 18446744073709551616) * x % 18446744073709551616 := by rw [Nat.mod_mul_mod]
  have hm : (V % 18446744073709551616 ^ k + N % 18446744073709551616 ^ k * x) / 18446744073709551616 ^ k = mc V N x k := rfl
  rw [hm, Nat.mul_comm x]
  omega
theorem mc_lt {x : Nat} (hx : x < 18446744073709551616) (V N k : Nat) : mc V N x k < 18446744073709551616 := by
  refine Nat.div_lt_of_lt_mul ?_
  have h1 := Nat.mod_lt V (qpw_pos k)
  have h2 := Nat.mod_lt N (qpw_pos k)
  have h3 : N % 18446744073709551616 ^ k * x ≤ (18446744073709551616 ^ k - 1) * (18446744073709551616 - 1) := Nat.mul_le_mul (by omega) (by omega)
  have h4 : (18446744073709551616 ^ k - 1) * (18446744073709551616 - 1) + (18446744073709551616 ^ k - 1) = (18446744073709551616 ^ k - 1) * 18446744073709551616 := by rw [← Nat.mul_succ]
  have h5 : (18446744073709551616 ^ k - 1) * 18446744073709551616 + 18446744073709551616 = 18446744073709551616 ^ k * 18446744073709551616 := by rw [← Nat.succ_mul]; congr 1; omega
  omega
theorem mc_end {V N n : Nat} (x : Nat) (hV : V < 18446744073709551616 ^ n) (hN : N < 18446744073709551616 ^ n) : mc V N x n = (V + N * x) / 18446744073709551616 ^ n := by rw [mc, Nat.mod_eq_of_lt hV, Nat.mod_eq_of_lt hN]
/-- One step of a product: a word times a word, a word and a word more. -/
theorem mac {p c v : Nat} (hp : p ≤ 340282366920938463426481119284349108225) (hc : c < 18446744073709551616) (hv : v < 18446744073709551616) : (v + (p % 18446744073709551616 + c + 0) % 18446744073709551616 + 0) % 18446744073709551616 = (p + c + v) % 18446744073709551616 ∧ p / 18446744073709551616 + (p % 18446744073709551616 + c + 0) / 18446744073709551616 < 18446744073709551616 ∧ p / 18446744073709551616 + (p % 18446744073709551616 + c + 0) / 18446744073709551616 + (v + (p % 18446744073709551616 + c + 0) % 18446744073709551616 + 0) / 18446744073709551616 < 18446744073709551616 ∧ p / 18446744073709551616 + (p % 18446744073709551616 + c + 0) / 18446744073709551616 + (v + (p % 18446744073709551616 + c + 0) % 18446744073709551616 + 0) / 18446744073709551616 = (p + c + v) / 18446744073709551616 := by omega
theorem word_mul {x y : Nat} (hx : x < 18446744073709551616) (hy : y < 18446744073709551616) : x * y ≤ 340282366920938463426481119284349108225 := Nat.mul_le_mul (Nat.le_of_lt_succ hx) (Nat.le_of_lt_succ hy)
/-- The words of V + N * x, up to k; then those of V. -/
def mtL (n V N x k : Nat) : List Nat := (List.range n).map fun j => if j < k then qd (V + N * x) j else qd V j
theorem mtL_len (n V N x k : Nat) : (mtL n V N x k).length = n := by simp [mtL]
theorem mtL_get (n V N x k : Nat) {j : Nat} (h : j < n) : (mtL n V N x k).getD j 0 = if j < k then qd (V + N * x) j else qd V j := by simp [mtL, h]
theorem mtL_zero (n V N x : Nat) : mtL n V N x 0 = qleB n V := by
  refine ext_getD (by rw [mtL_len, qleB_len]) fun j hj => ?_
  rw [mtL_len] at hj
  rw [mtL_get _ _ _ _ _ hj, qleB_get hj, if_neg (by omega)]; rfl
theorem mtL_all (n V N x : Nat) : mtL n V N x n = qleB n (V + N * x) := by
  refine ext_getD (by rw [mtL_len, qleB_len]) fun j hj => ?_
  rw [mtL_len] at hj
  rw [mtL_get _ _ _ _ _ hj, qleB_get hj, if_pos hj]; rfl
theorem mtL_step (n V N x k : Nat) (h : k < n) : (mtL n V N x k).set k (qd (V + N * x) k) = mtL n V N x (k + 1) := by
  refine ext_getD (by simp [mtL]) fun j hj => ?_
  simp only [List.length_set, mtL_len] at hj
  rw [getD_set, mtL_get _ _ _ _ _ hj, mtL_get _ _ _ _ _ hj, mtL_len]
  by_cases e : k = j
  · subst e; rw [if_pos ⟨rfl, h⟩, if_pos (by omega)]
  · rw [if_neg (fun h => e h.1)]
    by_cases h1 : j < k
    · rw [if_pos h1, if_pos (by omega)]
    · rw [if_neg h1, if_neg (by omega)]
/-- Within a longer row. -/
def midL (A B C : List Nat) : List Nat := A ++ B ++ C
theorem midL_len (A B C : List Nat) : (midL A B C).length = A.length + B.length + C.length := by simp [midL]; omega
theorem midL_get {A B C : List Nat} {f k : Nat} (hA : A.length = f) (h : k < B.length) : (midL A B C).getD (f + k) 0 = B.getD k 0 := by
  rw [midL, getD_app_l _ _ _ (by simp; omega), getD_app_r _ _ _ (by omega), hA]; congr 1; omega
theorem midL_set {A B C : List Nat} {f k x : Nat} (hA : A.length = f) (h : k < B.length) : (midL A B C).set (f + k) x = midL A (B.set k x) C := by
  rw [midL, midL, List.set_append, if_pos (by simp; omega), List.set_append, if_neg (by omega), show f + k - A.length = k by omega]
theorem split3 {P n i k : Nat} (h : i + k ≤ n) (hP : P < 18446744073709551616 ^ (i + k)) : qleB n P = midL (qleB i P) (qleB k (P / 18446744073709551616 ^ i)) (List.replicate (n - i - k) 0) := by
  refine ext_getD (by rw [midL_len, qleB_len, qleB_len, qleB_len, List.length_replicate]; omega) fun j hj => ?_
  rw [qleB_len] at hj
  rw [qleB_get hj]
  rcases Nat.lt_or_ge j i with h1 | h1
  · rw [midL, getD_app_l _ _ _ (by simp [qleB_len]; omega), getD_app_l _ _ _ (by rw [qleB_len]; exact h1), qleB_get h1]
  · rcases Nat.lt_or_ge j (i + k) with h2 | h2
    · obtain ⟨t, rfl⟩ := Nat.exists_eq_add_of_le h1
      rw [midL_get (qleB_len _ _) (by rw [qleB_len]; omega), qleB_get (by omega), Nat.div_div_eq_div_mul, ← Nat.pow_add]
    · rw [midL, getD_app_r _ _ _ (by simp [qleB_len]; omega), rep_get, Nat.div_eq_of_lt (Nat.lt_of_lt_of_le hP (qpw_le h2))]
/-- The product of a number's first words. -/
def pr (M N i : Nat) : Nat := M % 18446744073709551616 ^ i * N
theorem pr_zero (M N : Nat) : pr M N 0 = 0 := by simp [pr, Nat.mod_one]
theorem pr_all (M N : Nat) : pr M N (qsz M) = M * N := by rw [pr, Nat.mod_eq_of_lt (qsz_ok M).1]
theorem pr_step (M N i : Nat) : pr M N (i + 1) = pr M N i + 18446744073709551616 ^ i * (N * qd M i) := by
  unfold pr
  rw [mod_next, Nat.add_mul, Nat.mul_assoc, Nat.mul_comm (qd M i) N]
theorem pr_lt (M N i : Nat) : pr M N i < 18446744073709551616 ^ (i + qsz N) := by
  rw [pr, Nat.pow_add]
  have h1 := Nat.mod_lt M (qpw_pos i)
  have h2 := (qsz_ok N).1
  rcases Nat.eq_zero_or_pos N with h | h
  · subst h; rw [Nat.mul_zero]; exact Nat.mul_pos (qpw_pos _) (qpw_pos _)
  · exact Nat.lt_of_lt_of_le (Nat.mul_lt_mul_of_pos_right h1 h) (Nat.mul_le_mul_left _ (Nat.le_of_lt h2))
theorem pr_div (M N i : Nat) : pr M N (i + 1) / 18446744073709551616 ^ i = pr M N i / 18446744073709551616 ^ i + N * qd M i := by rw [pr_step, Nat.add_mul_div_left _ _ (qpw_pos i)]
theorem pr_low (M N i : Nat) : qleB i (pr M N (i + 1)) = qleB i (pr M N i) := by
  refine ext_getD (by rw [qleB_len, qleB_len]) fun j hj => ?_
  rw [qleB_len] at hj
  rw [qleB_get hj, qleB_get hj, pr_step]
  have : 18446744073709551616 ^ i * (N * qd M i) = 18446744073709551616 ^ j * (18446744073709551616 * (18446744073709551616 ^ (i - j - 1) * (N * qd M i))) := by
    rw [show 18446744073709551616 ^ i = 18446744073709551616 ^ j * (18446744073709551616 * 18446744073709551616 ^ (i - j - 1)) by rw [← Nat.pow_succ', ← Nat.pow_add]; congr 1; omega]
    simp only [Nat.mul_assoc]
  rw [this, Nat.add_mul_div_left _ _ (qpw_pos j), Nat.add_mul_mod_self_left]
theorem pr_seg (M N i : Nat) : pr M N i / 18446744073709551616 ^ i < 18446744073709551616 ^ qsz N := Nat.div_lt_of_lt_mul (by rw [← Nat.pow_add]; exact pr_lt M N i)
theorem pr_top (M N i : Nat) : (pr M N i / 18446744073709551616 ^ i + N * qd M i) / 18446744073709551616 ^ qsz N = qd (pr M N (i + 1)) (i + qsz N) := by
  rw [← pr_div, Nat.div_div_eq_div_mul, ← Nat.pow_add, qd, Nat.mod_eq_of_lt]
  refine Nat.div_lt_of_lt_mul ?_
  rw [← Nat.pow_succ, show (i + qsz N).succ = i + 1 + qsz N by omega]
  exact pr_lt M N (i + 1)
theorem times_step {M N i n : Nat} (h : i + qsz N < n) : (midL (qleB i (pr M N i)) (qleB (qsz N) (pr M N i / 18446744073709551616 ^ i + N * qd M i)) (List.replicate (n - i - qsz N) 0)).set (i + qsz N) ((pr M N i / 18446744073709551616 ^ i + N * qd M i) / 18446744073709551616 ^ qsz N) = qleB n (pr M N (i + 1)) := by
  rw [split3 (P := pr M N (i + 1)) (n := n) (i := i + qsz N) (k := 1) (by omega) (by rw [show i + qsz N + 1 = i + 1 + qsz N by omega]; exact pr_lt M N (i + 1)), pr_top]
  have e : qleB (i + qsz N) (pr M N (i + 1)) = qleB i (pr M N i) ++ qleB (qsz N) (pr M N i / 18446744073709551616 ^ i + N * qd M i) := by
    refine ext_getD (by simp [qleB_len]) fun j hj => ?_
    rw [qleB_len] at hj
    rw [qleB_get hj]
    rcases Nat.lt_or_ge j i with h1 | h1
    · rw [getD_app_l _ _ _ (by rw [qleB_len]; exact h1), ← pr_low, qleB_get h1]
    · obtain ⟨t, rfl⟩ := Nat.exists_eq_add_of_le h1
      rw [getD_app_r _ _ _ (by rw [qleB_len]; exact h1), qleB_len, Nat.add_sub_cancel_left, qleB_get (by omega), ← pr_div, Nat.div_div_eq_div_mul, ← Nat.pow_add]
  rw [e]
  unfold midL
  rw [List.set_append, if_neg (by simp [qleB_len]), show i + qsz N - (qleB i (pr M N i) ++ qleB (qsz N) (pr M N i / 18446744073709551616 ^ i + N * qd M i)).length = 0 by simp [qleB_len]]
  obtain ⟨z, hz⟩ : ∃ z, n - i - qsz N = z + 1 := ⟨n - i - qsz N - 1, by omega⟩
  rw [hz, List.replicate_succ, List.set_cons_zero, show n - (i + qsz N) - 1 = z by omega]
  have e2 : qleB 1 (pr M N (i + 1) / 18446744073709551616 ^ (i + qsz N)) = [qd (pr M N (i + 1)) (i + qsz N)] := by simp [qleB, List.range_succ, qd]
  rw [e2]
  simp
end Go.Proofs.YtlljedijldkcbaaDoor
namespace Go.Proofs.YtlljedijldkcbaaDoor
open Go.RowKit
theorem mt_len {A C : List Nat} {f n V N x k : Nat} (hA : A.length = f) : (midL A (mtL n V N x k) C).length = f + n + C.length := by rw [midL_len, mtL_len, hA]
set_option maxRecDepth 100000 in
theorem addt_O (g f cp : Nat) (A C : List Nat) (V N x : Nat) (y : Value) (O : Blks) (hA : A.length = f) (hx : x < 18446744073709551616) (hV : V < 18446744073709551616 ^ qsz N) (hN : NatO O (nv N y) N) (hs : qsz N < 1000000) (w0 : World) (H : Has w0 ((g, Obj.cells (cn .u64 (midL A (qleB (qsz N) V) C)) 61) :: O)) (hD : Distinct ((g, Obj.cells (cn .u64 (midL A (qleB (qsz N) V) C)) 61) :: O)) :
    Calls Tryd.prog 70 #[.slice (some ⟨g, f, none⟩) (qsz N) cp, nv N y, iW x] w0 fun e w' => e = .returned (iW ((V + N * x) / 18446744073709551616 ^ qsz N)) ∧ Turn g (.cells (cn .u64 (midL A (qleB (qsz N) (V + N * x)) C)) 61) w0 w' := by
  refine enter_fr Tryd.func70 rfl Tryd.ntmps70 (by simp) fun ac (FF : Fr 54 ac [(0, .slice (some ⟨g, f, none⟩) (qsz N) cp), (1, nv N y), (2, iW x)]) => ?_
  have MM0 : MemS (fun k => k < w0.heap.size ∧ ∀ x ∈ (g, Obj.cells (cn .u64 (midL A (qleB (qsz N) V) C)) 61) :: O, x.1 ≠ k) w0 w0 ((g, .cells (cn .u64 (midL A (qleB (qsz N) V) C)) 61) :: O) [] := MemS.startN H hD
  have MM : MemS (fun k => k < w0.heap.size ∧ ∀ x ∈ (g, Obj.cells (cn .u64 (midL A (qleB (qsz N) V) C)) 61) :: O, x.1 ≠ k) w0 w0 ((g, .cells (cn .u64 (midL A (mtL (qsz N) V N x 0) C)) 61) :: O) [] := by rw [mtL_zero]; exact MM0
  refine wp_seq (rg_seq FF MM [o_] [0, 1, 2, 6] (fun Kt => Kt [(6, iW 0), (0, .slice (some ⟨g, f, none⟩) (qsz N) cp), (1, nv N y), (2, iW x)] ((g, .cells (cn .u64 (midL A (mtL (qsz N) V N x 0) C)) 61) :: O)) (by kernel_rfl) (fun _ => by kernel_rfl) (fun ac1 wd1 FF1 MM1 => then_n ?_))
  refine wp_seq (rg_seq FF1 MM1 [o_] [6, 0, 1, 2, 7] (fun Kt => Kt [(7, iW 0), (6, iW 0), (0, .slice (some ⟨g, f, none⟩) (qsz N) cp), (1, nv N y), (2, iW x)] ((g, .cells (cn .u64 (midL A (mtL (qsz N) V N x 0) C)) 61) :: O)) (by kernel_rfl) (fun _ => by kernel_rfl) (fun ac2 wd2 FF2 MM2 => then_n ?_))
  refine wp_seq ?_
  refine wp_seq (rg_seq FF2 MM2 [o_, o_, o_] [7, 6, 0, 2, 15, 16, 17] (fun Kt => Kt [(17, iN 0), (16, iN (qsz N)), (15, nv N y), (7, iW 0), (6, iW 0), (0, .slice (some ⟨g, f, none⟩) (qsz N) cp), (2, iW x)] ((g, .cells (cn .u64 (midL A (mtL (qsz N) V N x 0) C)) 61) :: O)) (by kernel_rfl) (fun _ => by kernel_rfl) (fun ac3 wd3 FF3 MM3 => then_n ?_))
  refine wp_for (fun a' w' => ∃ k : Nat, ∃ cc : Nat, k ≤ qsz N ∧ cc = mc V N x k ∧ Fr 54 a' [(17, iN k), (16, iN (qsz N)), (15, nv N y), (7, iW cc), (6, iW 0), (0, .slice (some ⟨g, f, none⟩) (qsz N) cp), (2, iW x)] ∧ MemS (fun k => k < w0.heap.size ∧ ∀ x ∈ (g, Obj.cells (cn .u64 (midL A (qleB (qsz N) V) C)) 61) :: O, x.1 ≠ k) w0 w' ((g, .cells (cn .u64 (midL A (mtL (qsz N) V N x k) C)) 61) :: O) []) (fun a' _ => (qsz N - cnt 17 a').toNat) ⟨0, 0, by omega, (mc_zero V N x).symm, FF3.pick [0, 1, 2, 3, 4, 5, 6], MM3⟩ ?_
  rintro ac4 wd4 ⟨k, cc, hk, hcc, FF4, MM4⟩
  have hc := cnt_of (FF4.get 0 rfl)
  refine rg_seq FF4 MM4 [o_] [17, 16, 15, 7, 6, 0, 2, 18] (fun Kt => Kt [(18, .bool (decide (k < (qsz N)))), (17, iN k), (16, iN (qsz N)), (15, nv N y), (7, iW cc), (6, iW 0), (0, .slice (some ⟨g, f, none⟩) (qsz N) cp), (2, iW x)] ((g, .cells (cn .u64 (midL A (mtL (qsz N) V N x k) C)) 61) :: O)) (by kernel_rfl) (fun _ => by kernel_rfl) (fun ac5 wd5 FF5 MM5 => ?_)
  by_cases hlt : k < (qsz N)
  · skip
    refine then_n (.inl ⟨(FF5.ev 0 rfl).trans (dec_t hlt), ?_⟩)
    have hcl : cc < 18446744073709551616 := hcc ▸ mc_lt hx V N k
    obtain ⟨m1, m2, m3, m4⟩ := mac (word_mul hx (qd_lt N k)) hcl (qd_lt V k)
    have hw := mc_word V N x k
    have hy := mc_step V N x k
    rw [← hcc] at hw hy
    refine wp_seq (rg_seq FF5 MM5 [o_, f_ (.pointer (some ⟨gOf (pOf y), k, none⟩)), f_ (iW (qd N k)), o_, o_] [17, 16, 15, 7, 6, 0, 2, 8, 9] (fun Kt => RunV Tryd.prog [(19, iN k), (18, .bool (decide (k < (qsz N)))), (17, iN k), (16, iN (qsz N)), (15, nv N y), (7, iW cc), (6, iW 0), (0, .slice (some ⟨g, f, none⟩) (qsz N) cp), (2, iW x)] ((g, .cells (cn .u64 (midL A (mtL (qsz N) V N x k) C)) 61) :: O) (opAt Tryd.f70 4 1) (.pointer (some ⟨gOf (pOf y), k, none⟩)) ∧ RunV Tryd.prog [(20, .pointer (some ⟨gOf (pOf y), k, none⟩)), (19, iN k), (18, .bool (decide (k < (qsz N)))), (17, iN k), (16, iN (qsz N)), (15, nv N y), (7, iW cc), (6, iW 0), (0, .slice (some ⟨g, f, none⟩) (qsz N) cp), (2, iW x)] ((g, .cells (cn .u64 (midL A (mtL (qsz N) V N x k) C)) 61) :: O) (opAt Tryd.f70 4 2) (iW (qd N k)) ∧ Kt [(9, iW (qd N k)), (8, iN k), (17, iN k), (16, iN (qsz N)), (15, nv N y), (7, iW cc), (6, iW 0), (0, .slice (some ⟨g, f, none⟩) (qsz N) cp), (2, iW x)] ((g, .cells (cn .u64 (midL A (mtL (qsz N) V N x k) C)) 61) :: O)) (by kernel_rfl) (fun _ => by kernel_rfl) (⟨(rowAddr_ok (x := (.tmp 15)) (y := (.tmp 17)) (by kernel_rfl) rfl rfl Tryd.underlying35 (by kernel_rfl) (natO_cells hN) (by omega)), (rowLoad_ok (x := (.tmp 20)) (i := k) (by kernel_rfl) rfl Tryd.underlying61 rfl (natO_cells hN) (fun _ hx => List.mem_cons_of_mem _ (hx)) (by omega)), fun ac6 wd6 FF6 MM6 => then_n ?_⟩))
    refine wp_seq (rg_seq FF6 MM6 [o_, o_, t_ (.tuple #[iW (x * (qd N k) / 18446744073709551616), iW (x * (qd N k) % 18446744073709551616)]), o_, o_, o_, o_, o_] [9, 8, 17, 16, 15, 7, 6, 0, 2, 10, 11] (fun Kt => CallP Tryd.prog 78 [iW x, iW (qd N k)] [] (.tuple #[iW (x * (qd N k) / 18446744073709551616), iW (x * (qd N k) % 18446744073709551616)]) ∧ Kt [(11, iW (x * (qd N k) % 18446744073709551616)), (10, iW (x * (qd N k) / 18446744073709551616)), (9, iW (qd N k)), (8, iN k), (17, iN k), (16, iN (qsz N)), (15, nv N y), (7, iW cc), (6, iW 0), (0, .slice (some ⟨g, f, none⟩) (qsz N) cp), (2, iW x)] ((g, .cells (cn .u64 (midL A (mtL (qsz N) V N x k) C)) 61) :: O)) (by kernel_rfl) (fun _ => by kernel_rfl) (⟨(callP_of en_mul64 (mul64_any x (qd N k) hx (qd_lt N k)) _), fun ac7 wd7 FF7 MM7 => then_n ?_⟩))
    refine wp_seq (rg_seq FF7 MM7 [o_, o_, f_ (.tuple #[iW (((x * (qd N k) % 18446744073709551616) + cc + 0) % 18446744073709551616), iW (((x * (qd N k) % 18446744073709551616) + cc + 0) / 18446744073709551616)]), o_, o_, o_, o_, o_] [11, 10, 9, 8, 17, 16, 15, 7, 6, 0, 2, 12] (fun Kt => RunV Tryd.prog [(30, iW cc), (29, iW (x * (qd N k) % 18446744073709551616)), (11, iW (x * (qd N k) % 18446744073709551616)), (10, iW (x * (qd N k) / 18446744073709551616)), (9, iW (qd N k)), (8, iN k), (17, iN k), (16, iN (qsz N)), (15, nv N y), (7, iW cc), (6, iW 0), (0, .slice (some ⟨g, f, none⟩) (qsz N) cp), (2, iW x)] ((g, .cells (cn .u64 (midL A (mtL (qsz N) V N x k) C)) 61) :: O) (opAt Tryd.f70 6 2) (.tuple #[iW (((x * (qd N k) % 18446744073709551616) + cc + 0) % 18446744073709551616), iW (((x * (qd N k) % 18446744073709551616) + cc + 0) / 18446744073709551616)]) ∧ Kt [(12, iW (((x * (qd N k) % 18446744073709551616) + cc + 0) / 18446744073709551616)), (11, iW (((x * (qd N k) % 18446744073709551616) + cc + 0) % 18446744073709551616)), (10, iW (x * (qd N k) / 18446744073709551616)), (9, iW (qd N k)), (8, iN k), (17, iN k), (16, iN (qsz N)), (15, nv N y), (7, iW cc), (6, iW 0), (0, .slice (some ⟨g, f, none⟩) (qsz N) cp), (2, iW x)] ((g, .cells (cn .u64 (midL A (mtL (qsz N) V N x k) C)) 61) :: O)) (by kernel_rfl) (fun _ => by kernel_rfl) (⟨(add64_ok (f := 66) (ts := #[61, 61, 61]) (x := (.tmp 29)) (y := (.tmp 30)) (z := (.const (iW 0))) (by decide) (by kernel_rfl) rfl rfl rfl Tryd.func66 (by kernel_rfl) (by kernel_rfl) (by kernel_rfl) (by kernel_rfl)), fun ac8 wd8 FF8 MM8 => then_n ?_⟩))
    refine wp_seq (rg_seq FF8 MM8 [o_, o_, o_, l_ 0 (iW (qd V k)), o_, f_ (.tuple #[iW (((qd V k) + (((x * (qd N k) % 18446744073709551616) + cc + 0) % 18446744073709551616) + 0) % 18446744073709551616), iW (((qd V k) + (((x * (qd N k) % 18446744073709551616) + cc + 0) % 18446744073709551616) + 0) / 18446744073709551616)]), o_, t_ (iW (qd (V + N * x) k)), o_, o_, o_] [12, 11, 10, 9, 8, 17, 16, 15, 7, 6, 0, 2, 13, 14] (fun Kt => k < (qsz N) ∧ g = g ∧ (cn .u64 (midL A (mtL (qsz N) V N x k) C))[f + k]? = some (iW (qd V k)) ∧ RunV Tryd.prog [(39, iW (((x * (qd N k) % 18446744073709551616) + cc + 0) % 18446744073709551616)), (38, iW (qd V k)), (37, .pointer (some ⟨g, f + k, none⟩)), (36, iN k), (35, .slice (some ⟨g, f, none⟩) (qsz N) cp), (12, iW (((x * (qd N k) % 18446744073709551616) + cc + 0) / 18446744073709551616)), (11, iW (((x * (qd N k) % 18446744073709551616) + cc + 0) % 18446744073709551616)), (10, iW (x * (qd N k) / 18446744073709551616)), (9, iW (qd N k)), (8, iN k), (17, iN k), (16, iN (qsz N)), (15, nv N y), (7, iW cc), (6, iW 0), (0, .slice (some ⟨g, f, none⟩) (qsz N) cp), (2, iW x)] ((g, .cells (cn .u64 (midL A (mtL (qsz N) V N x k) C)) 61) :: O) (opAt Tryd.f70 7 5) (.tuple #[iW (((qd V k) + (((x * (qd N k) % 18446744073709551616) + cc + 0) % 18446744073709551616) + 0) % 18446744073709551616), iW (((qd V k) + (((x * (qd N k) % 18446744073709551616) + cc + 0) % 18446744073709551616) + 0) / 18446744073709551616)]) ∧ iW (((qd V k) + (((x * (qd N k) % 18446744073709551616) + cc + 0) % 18446744073709551616) + 0) % 18446744073709551616) = iW (qd (V + N * x) k) ∧ Kt [(14, iW (((qd V k) + (((x * (qd N k) % 18446744073709551616) + cc + 0) % 18446744073709551616) + 0) / 18446744073709551616)), (13, iW (qd (V + N * x) k)), (12, iW (((x * (qd N k) % 18446744073709551616) + cc + 0) / 18446744073709551616)), (11, iW (((x * (qd N k) % 18446744073709551616) + cc + 0) % 18446744073709551616)), (10, iW (x * (qd N k) / 18446744073709551616)), (9, iW (qd N k)), (8, iN k), (17, iN k), (16, iN (qsz N)), (15, nv N y), (7, iW cc), (6, iW 0), (0, .slice (some ⟨g, f, none⟩) (qsz N) cp), (2, iW x)] ((g, .cells (cn .u64 (midL A (mtL (qsz N) V N x k) C)) 61) :: O)) (by kernel_rfl) (fun _ => by kernel_rfl) (⟨(by omega), rfl, ((cn_get _ _ _ (by rw [mt_len hA]; omega)).trans (congrArg some (vI ((midL_get hA (by rw [mtL_len]; omega)).trans ((mtL_get _ _ _ _ _ (by omega)).trans (if_neg (by omega))))))), (add64_ok (f := 66) (ts := #[61, 61, 61]) (x := (.tmp 38)) (y := (.tmp 39)) (z := (.const (iW 0))) (by decide) (by kernel_rfl) rfl rfl rfl Tryd.func66 (by kernel_rfl) (by kernel_rfl) (by kernel_rfl) (by kernel_rfl)), (vI (m1.trans hw)), fun ac9 wd9 FF9 MM9 => then_n ?_⟩))
    refine wp_seq (rg_seq FF9 MM9 [o_, o_, o_, o_, s_ 0 (.cells (cn .u64 (midL A (mtL (qsz N) V N x (k + 1)) C)) 61)] [14, 13, 12, 11, 10, 9, 8, 17, 16, 15, 7, 6, 0, 2] (fun Kt => k < (qsz N) ∧ g = g ∧ f + k < (cn .u64 (midL A (mtL (qsz N) V N x k) C)).size ∧ (((0, 0)).2 = 0 ∨ f + k < ((0, 0)).1) ∧ (cn .u64 (midL A (mtL (qsz N) V N x k) C)).setIfInBounds (f + k) (iW (qd (V + N * x) k)) = cn .u64 (midL A (mtL (qsz N) V N x (k + 1)) C) ∧ Kt [(14, iW (((qd V k) + (((x * (qd N k) % 18446744073709551616) + cc + 0) % 18446744073709551616) + 0) / 18446744073709551616)), (13, iW (qd (V + N * x) k)), (12, iW (((x * (qd N k) % 18446744073709551616) + cc + 0) / 18446744073709551616)), (11, iW (((x * (qd N k) % 18446744073709551616) + cc + 0) % 18446744073709551616)), (10, iW (x * (qd N k) / 18446744073709551616)), (9, iW (qd N k)), (8, iN k), (17, iN k), (16, iN (qsz N)), (15, nv N y), (7, iW cc), (6, iW 0), (0, .slice (some ⟨g, f, none⟩) (qsz N) cp), (2, iW x)] ((g, .cells (cn .u64 (midL A (mtL (qsz N) V N x (k + 1)) C)) 61) :: O)) (by kernel_rfl) (fun _ => by kernel_rfl) (⟨(by omega), rfl, (by rw [cn_size, mt_len hA]; omega), (.inl rfl), ((cn_set _ _ _ _).trans (congrArg _ ((midL_set hA (by rw [mtL_len]; omega)).trans (congrArg (midL A · C) (mtL_step _ _ _ _ _ (by omega)))))), fun ac10 wd10 FF10 MM10 => then_n ?_⟩))
    refine rg_seq FF10 MM10 [o_, o_, w_ 1, o_, u_ 1 (iW (mc V N x (k + 1))), o_] [14, 13, 12, 11, 10, 9, 8, 17, 16, 15, 7, 6, 0, 2] (fun Kt => (x * (qd N k) / 18446744073709551616) + (((x * (qd N k) % 18446744073709551616) + cc + 0) / 18446744073709551616) < 18446744073709551616 ∧ ((x * (qd N k) / 18446744073709551616) + (((x * (qd N k) % 18446744073709551616) + cc + 0) / 18446744073709551616)) + (((qd V k) + (((x * (qd N k) % 18446744073709551616) + cc + 0) % 18446744073709551616) + 0) / 18446744073709551616) < 18446744073709551616 ∧ iW (((x * (qd N k) / 18446744073709551616) + (((x * (qd N k) % 18446744073709551616) + cc + 0) / 18446744073709551616)) + (((qd V k) + (((x * (qd N k) % 18446744073709551616) + cc + 0) % 18446744073709551616) + 0) / 18446744073709551616)) = iW (mc V N x (k + 1)) ∧ Kt [(7, iW (mc V N x (k + 1))), (14, iW (((qd V k) + (((x * (qd N k) % 18446744073709551616) + cc + 0) % 18446744073709551616) + 0) / 18446744073709551616)), (13, iW (qd (V + N * x) k)), (12, iW (((x * (qd N k) % 18446744073709551616) + cc + 0) / 18446744073709551616)), (11, iW (((x * (qd N k) % 18446744073709551616) + cc + 0) % 18446744073709551616)), (10, iW (x * (qd N k) / 18446744073709551616)), (9, iW (qd N k)), (8, iN k), (17, iN k), (16, iN (qsz N)), (15, nv N y), (6, iW 0), (0, .slice (some ⟨g, f, none⟩) (qsz N) cp), (2, iW x)] ((g, .cells (cn .u64 (midL A (mtL (qsz N) V N x (k + 1)) C)) 61) :: O)) (by kernel_rfl) (fun _ => by kernel_rfl) (⟨m2, m3, (vI (m4.trans hy)), fun ac11 wd11 FF11 MM11 => ?_⟩)
    refine inb_n (then_n ?_)
    refine rg_seq FF11 MM11 [o_, o_] [7, 14, 13, 12, 11, 10, 9, 8, 17, 16, 15, 6, 0, 2] (fun Kt => k + 1 < 9223372036854775808 ∧ Kt [(17, iN (k + 1)), (7, iW (mc V N x (k + 1))), (14, iW (((qd V k) + (((x * (qd N k) % 18446744073709551616) + cc + 0) % 18446744073709551616) + 0) / 18446744073709551616)), (13, iW (qd (V + N * x) k)), (12, iW (((x * (qd N k) % 18446744073709551616) + cc + 0) / 18446744073709551616)), (11, iW (((x * (qd N k) % 18446744073709551616) + cc + 0) % 18446744073709551616)), (10, iW (x * (qd N k) / 18446744073709551616)), (9, iW (qd N k)), (8, iN k), (16, iN (qsz N)), (15, nv N y), (6, iW 0), (0, .slice (some ⟨g, f, none⟩) (qsz N) cp), (2, iW x)] ((g, .cells (cn .u64 (midL A (mtL (qsz N) V N x (k + 1)) C)) 61) :: O)) (by kernel_rfl) (fun _ => by kernel_rfl) (⟨(by omega), fun ac12 wd12 FF12 MM12 => ?_⟩)
    have hd := cnt_of (FF12.get 0 rfl)
    refine then_n ⟨⟨k + 1, mc V N x (k + 1), by omega, rfl, FF12.pick [0, 9, 10, 1, 11, 12, 13], MM12⟩, ?_⟩
    rw [hc, hd]; omega
  · skip
    refine then_n (.inr ⟨(FF5.ev 0 rfl).trans (dec_f hlt), ?_⟩)
    obtain rfl : k = qsz N := by omega
    refine then_n ?_
    refine wp_seq (rg_seq FF5 MM5 [o_, t_ (iW ((V + N * x) / 18446744073709551616 ^ qsz N))] [17, 16, 15, 7, 6, 0, 2] (fun Kt => iW cc = iW ((V + N * x) / 18446744073709551616 ^ qsz N) ∧ Kt [(6, iW ((V + N * x) / 18446744073709551616 ^ qsz N)), (17, iN (qsz N)), (16, iN (qsz N)), (15, nv N y), (7, iW cc), (0, .slice (some ⟨g, f, none⟩) (qsz N) cp), (2, iW x)] ((g, .cells (cn .u64 (midL A (mtL (qsz N) V N x (qsz N)) C)) 61) :: O)) (by kernel_rfl) (fun _ => by kernel_rfl) (⟨(vI (hcc.trans (mc_end x hV (qsz_ok N).1))), fun ac13 wd13 FF13 MM13 => then_n ?_⟩))
    refine wp_ret ?_
    repeat first | refine then_ret ?_ | refine inb_ret ?_
    exact (ret_fr FF13 0 Tryd.results70 rfl ⟨rfl, by have h9 := MM13.turn (Has.tl H) 0 rfl (fun _ hx => List.mem_cons_of_mem _ (hx)); rw [mtL_all] at h9; exact h9⟩)
theorem nat1_sep {w : World} {g N : Nat} {ob : Obj} {y : Value} (h : NatIn w (nv N y) N) (hg : w.heap[g]? = some ob) (hne : ∀ g', (nv N y).ownBlock = some g' → g' ≠ g) : ∃ O : Blks, Has w ((g, ob) :: O) ∧ Distinct ((g, ob) :: O) ∧ NatO O (nv N y) N := by
  obtain ⟨p, c, h1, h2, h2', h3, h4⟩ := h
  rcases h4 with h4 | ⟨b, cs, T, fr, rfl, h5, h6⟩
  · refine ⟨[], fun i x hx => ?_, ⟨fun y hy => (nomatch hy), trivial⟩, ⟨p, c, h1, h2, h2', h3, .inl h4⟩⟩
    cases i with
    | zero => simp at hx; subst hx; exact hg
    | succ i => simp at hx
  · have hb : b ≠ g := hne b (by rw [h1]; rfl)
    refine ⟨[(b, .cells cs T fr)], fun i x hx => ?_, ⟨fun y hy => by rw [List.mem_singleton] at hy; subst hy; exact hb, fun y hy => (nomatch hy), trivial⟩, ⟨_, c, h1, h2, h2', h3, .inr ⟨b, cs, T, fr, rfl, by simp, h6⟩⟩⟩
    cases i with
    | zero => simp at hx; subst hx; exact hg
    | succ i =>
      cases i with
      | zero => simp at hx; subst hx; exact h5
      | succ i => simp at hx
theorem addt_any (g f cp : Nat) (A C : List Nat) (V N x : Nat) (y : Value) (hA : A.length = f) (hx : x < 18446744073709551616) (hV : V < 18446744073709551616 ^ qsz N) (hs : qsz N < 1000000) (w0 : World) (hg : w0.heap[g]? = some (Obj.cells (cn .u64 (midL A (qleB (qsz N) V) C)) 61)) (hN : NatIn w0 (nv N y) N) (hne : ∀ g', (nv N y).ownBlock = some g' → g' ≠ g) :
    Calls Tryd.prog 70 #[.slice (some ⟨g, f, none⟩) (qsz N) cp, nv N y, iW x] w0 fun e w' => e = .returned (iW ((V + N * x) / 18446744073709551616 ^ qsz N)) ∧ Turn g (.cells (cn .u64 (midL A (qleB (qsz N) (V + N * x)) C)) 61) w0 w' := by
  obtain ⟨O, h1, h2, h3⟩ := nat1_sep hN hg hne
  exact addt_O g f cp A C V N x y O hA hx hV h3 hs w0 h1 h2
/-- A number that lies in the list is in none of its other blocks. -/
theorem natO_ne {O : Blks} {N g : Nat} {y : Value} (h : NatO O (nv N y) N) (hg : ∀ x ∈ O, x.1 ≠ g) : ∀ g', (nv N y).ownBlock = some g' → g' ≠ g := fun g' hg' => by
  obtain ⟨p, c, h1, h2, _, _, h4⟩ := h
  rw [h1] at hg'
  rcases h4 with h4 | ⟨b, cs, T, fr, rfl, h5, h6⟩
  · have := (h2 (qz0 h4)).1
    subst this
    cases hg'
  · obtain rfl : b = g' := by simpa [Value.ownBlock] using hg'
    exact hg _ h5
theorem MemS.headNe {S : Nat → Prop} {w0 w : World} {g : Nat} {ob : Obj} {L : Blks} {R : List Row} (M : MemS S w0 w ((g, ob) :: L) R) : ∀ x ∈ L, x.1 ≠ g := fun x hx => by
  obtain ⟨i, hi⟩ := List.mem_iff_getElem?.1 hx
  exact M.apart (i + 1) 0 x (g, ob) (by simpa using hi) rfl (by omega)
end Go.Proofs.YtlljedijldkcbaaDoor
namespace Go.Proofs.YtlljedijldkcbaaDoor
open Go.RowKit
theorem qleB_0 (n : Nat) : qleB n 0 = List.replicate n 0 := by
  refine ext_getD (by simp [qleB_len]) fun i hi => ?_
  rw [qleB_len] at hi
  rw [qleB_get hi, rep_get]; simp
theorem prod_fit (M N : Nat) : M * N < 18446744073709551616 ^ (qsz M + qsz N) := by have := pr_lt M N (qsz M); rwa [pr_all] at this
theorem qleV_prod (M N : Nat) : qleV (qleB (qsz M + qsz N) (M * N)) = M * N := by rw [qleV_leB, Nat.mod_eq_of_lt (prod_fit M N)]
theorem qsz_mul (M N : Nat) : qsz (M * N) ≤ qsz M + qsz N := qsz_le (prod_fit M N)
theorem MemS.sinkNat {S : Nat → Prop} {w0 w : World} {K O : Blks} {R : List Row} {b : Nat} {ob : Obj} {v : Value} {N : Nat} {l : List (Value × Nat)} (M : MemS S w0 w ((b, ob) :: (K ++ O)) R) (h : NatO [(b, ob)] v N) (hN : Nats O l) : ∃ O', MemS S w0 w (K ++ O') R ∧ Nats O' ((v, N) :: l) ∧ ∀ x ∈ O, x ∈ O' :=
  ⟨(b, ob) :: O, M.perm List.perm_middle.symm, .cons (h.mono fun x hx => by rw [List.mem_singleton] at hx; simp [hx]) (hN.mono fun _ h => List.mem_cons_of_mem _ h), fun _ h => List.mem_cons_of_mem _ h⟩
def oneV (b : Nat) : Value := .slice (some ⟨b, 0, none⟩) 1 1
theorem own_one {N b g : Nat} (h : (nv N (oneV b)).ownBlock = some g) : b = g := by simpa [nv, oneV, pOf, Value.ownBlock] using h
theorem nat_one (b : Nat) (T : TypeId) : NatO [(b, .cells (cn .u64 [1]) T)] (nv 1 (oneV b)) 1 :=
  ⟨some ⟨b, 0, none⟩, 1, rfl, fun h => (by cases h), fun _ => by simp, by decide, .inr ⟨b, cn .u64 [1], T, (0, 0), rfl, by simp, fun j hj => by
    have : j = 0 := by have : qsz 1 = 1 := by decide
                       omega
    subst this
    rfl⟩⟩
set_option maxRecDepth 100000 in
theorem times_O (O : Blks) (hD : Distinct O) (M N : Nat) (x y : Value) (hM : NatO O (nv M x) M) (hN : NatO O (nv N y) N) (hs : qsz M + qsz N < 1000000) (w0 : World) (H : Has w0 O) :
    Calls Tryd.prog 54 #[nv M x, nv N y] w0 fun e w' => ∃ v, e = .returned (nv (M * N) v) ∧ Below w0.heap.size w0 w' ∧ NatNew w0.heap.size w' (nv (M * N) v) (M * N) := by
  refine enter_fr Tryd.func54 rfl Tryd.ntmps54 (by simp) fun ac (FF : Fr 40 ac [(0, nv M x), (1, nv N y)]) => ?_
  have MM : MemS (fun k => k < w0.heap.size ∧ ∀ x ∈ O, x.1 ≠ k) w0 w0 O [] := MemS.startN H hD
  refine wp_seq (rg_seq FF MM [o_] [0, 1, 4] (fun Kt => Kt [(4, .slice none 0 0), (0, nv M x), (1, nv N y)] O) (by kernel_rfl) (fun _ => by kernel_rfl) (fun ac1 wd1 FF1 MM1 => then_n ?_))
  refine wp_seq (rg_seq FF1 MM1 [o_, o_, o_, o_, o_, n_ (.slice none ((qsz M) + (qsz N)) ((qsz M) + (qsz N))) (.cells (cn .u64 (List.replicate ((qsz M) + (qsz N)) 0)) 61), o_] [4, 0, 1, 5] (fun Kt => (qsz M) + (qsz N) < 9223372036854775808 ∧ RunN Tryd.prog [(12, iN ((qsz M) + (qsz N))), (11, iN (qsz N)), (10, nv N y), (9, iN (qsz M)), (8, nv M x), (4, .slice none 0 0), (0, nv M x), (1, nv N y)] O (opAt Tryd.f54 1 5) (mkOf (.slice none ((qsz M) + (qsz N)) ((qsz M) + (qsz N)))) (.cells (cn .u64 (List.replicate ((qsz M) + (qsz N)) 0)) 61) ∧ ∀ bo, Kt [(5, .slice (some ⟨bo, 0, none⟩) ((qsz M) + (qsz N)) ((qsz M) + (qsz N))), (4, .slice none 0 0), (0, nv M x), (1, nv N y)] ((bo, .cells (cn .u64 (List.replicate ((qsz M) + (qsz N)) 0)) 61) :: O)) (by kernel_rfl) (fun _ => by kernel_rfl) (⟨(by omega), (make64_ok (t := 35) (e := 61) (p := (.tmp 12)) (q := (.tmp 12)) (by kernel_rfl) rfl rfl Tryd.underlying35 (by kernel_rfl) (by omega)), fun bo => fun ac2 wd2 FF2 MM2 => then_n ?_⟩))
  have MMr : MemS (fun k => k < w0.heap.size ∧ ∀ x ∈ O, x.1 ≠ k) w0 wd2 ((bo, .cells (cn .u64 (qleB (qsz M + qsz N) (pr M N 0))) 61) :: O) [] := by rw [pr_zero, qleB_0]; exact MM2
  refine wp_seq ?_
  refine wp_seq (rg_seq FF2 MMr [o_, o_, o_] [5, 4, 0, 1, 14, 15, 16] (fun Kt => Kt [(16, iN 0), (15, iN (qsz M)), (14, nv M x), (5, .slice (some ⟨bo, 0, none⟩) ((qsz M) + (qsz N)) ((qsz M) + (qsz N))), (4, .slice none 0 0), (0, nv M x), (1, nv N y)] ((bo, .cells (cn .u64 (qleB (qsz M + qsz N) (pr M N 0))) 61) :: O)) (by kernel_rfl) (fun _ => by kernel_rfl) (fun ac3 wd3 FF3 MM3 => then_n ?_))
  refine wp_for (fun a' w' => ∃ i : Nat, i ≤ qsz M ∧ Fr 40 a' [(16, iN i), (15, iN (qsz M)), (14, nv M x), (5, .slice (some ⟨bo, 0, none⟩) ((qsz M) + (qsz N)) ((qsz M) + (qsz N))), (4, .slice none 0 0), (0, nv M x), (1, nv N y)] ∧ MemS (fun k => k < w0.heap.size ∧ ∀ x ∈ O, x.1 ≠ k) w0 w' ((bo, .cells (cn .u64 (qleB (qsz M + qsz N) (pr M N i))) 61) :: O) []) (fun a' _ => (qsz M - cnt 16 a').toNat) ⟨0, by omega, FF3.pick [0, 1, 2, 3, 4, 5, 6], MM3⟩ ?_
  rintro ac4 wd4 ⟨i, hi, FF4, MM4⟩
  have hc := cnt_of (FF4.get 0 rfl)
  refine rg_seq FF4 MM4 [o_] [16, 15, 14, 5, 4, 0, 1, 17] (fun Kt => Kt [(17, .bool (decide (i < (qsz M)))), (16, iN i), (15, iN (qsz M)), (14, nv M x), (5, .slice (some ⟨bo, 0, none⟩) ((qsz M) + (qsz N)) ((qsz M) + (qsz N))), (4, .slice none 0 0), (0, nv M x), (1, nv N y)] ((bo, .cells (cn .u64 (qleB (qsz M + qsz N) (pr M N i))) 61) :: O)) (by kernel_rfl) (fun _ => by kernel_rfl) (fun ac5 wd5 FF5 MM5 => ?_)
  by_cases hlt : i < (qsz M)
  · skip
    refine then_n (.inl ⟨(FF5.ev 0 rfl).trans (dec_t hlt), ?_⟩)
    refine wp_seq (rg_seq FF5 MM5 [o_, f_ (.pointer (some ⟨gOf (pOf x), i, none⟩)), f_ (iW (qd M i)), o_, o_] [16, 15, 14, 5, 4, 0, 1, 6, 7] (fun Kt => RunV Tryd.prog [(18, iN i), (17, .bool (decide (i < (qsz M)))), (16, iN i), (15, iN (qsz M)), (14, nv M x), (5, .slice (some ⟨bo, 0, none⟩) ((qsz M) + (qsz N)) ((qsz M) + (qsz N))), (4, .slice none 0 0), (0, nv M x), (1, nv N y)] ((bo, .cells (cn .u64 (qleB (qsz M + qsz N) (pr M N i))) 61) :: O) (opAt Tryd.f54 4 1) (.pointer (some ⟨gOf (pOf x), i, none⟩)) ∧ RunV Tryd.prog [(19, .pointer (some ⟨gOf (pOf x), i, none⟩)), (18, iN i), (17, .bool (decide (i < (qsz M)))), (16, iN i), (15, iN (qsz M)), (14, nv M x), (5, .slice (some ⟨bo, 0, none⟩) ((qsz M) + (qsz N)) ((qsz M) + (qsz N))), (4, .slice none 0 0), (0, nv M x), (1, nv N y)] ((bo, .cells (cn .u64 (qleB (qsz M + qsz N) (pr M N i))) 61) :: O) (opAt Tryd.f54 4 2) (iW (qd M i)) ∧ Kt [(7, iW (qd M i)), (6, iN i), (16, iN i), (15, iN (qsz M)), (14, nv M x), (5, .slice (some ⟨bo, 0, none⟩) ((qsz M) + (qsz N)) ((qsz M) + (qsz N))), (4, .slice none 0 0), (0, nv M x), (1, nv N y)] ((bo, .cells (cn .u64 (qleB (qsz M + qsz N) (pr M N i))) 61) :: O)) (by kernel_rfl) (fun _ => by kernel_rfl) (⟨(rowAddr_ok (x := (.tmp 14)) (y := (.tmp 16)) (by kernel_rfl) rfl rfl Tryd.underlying35 (by kernel_rfl) (natO_cells hM) (by omega)), (rowLoad_ok (x := (.tmp 19)) (i := i) (by kernel_rfl) rfl Tryd.underlying61 rfl (natO_cells hM) (fun _ hx => List.mem_cons_of_mem _ (hx)) (by omega)), fun ac6 wd6 FF6 MM6 => then_n ?_⟩))
    refine wp_region_list ?_
    refine rg_part 14 FF6 MM6 [o_, o_, o_, o_, o_, o_, o_, o_, o_, o_, o_, t_ (.slice (some ⟨bo, i, none⟩) (qsz N) (qsz M + qsz N - i)), o_, o_] [7, 6, 16, 15, 14, 5, 4, 0, 1, 21, 25, 32, 33, 34] (fun Kt => i + (qsz N) < 9223372036854775808 ∧ i + (qsz N) < 9223372036854775808 ∧ i ≤ (i + (qsz N)) ∧ i + (qsz N) ≤ ((qsz M) + (qsz N)) ∧ i < ((qsz M) + (qsz N)) ∧ Value.slice (some ⟨bo, 0 + i, none⟩) ((i + (qsz N)) - i) (((qsz M) + (qsz N)) - i) = .slice (some ⟨bo, i, none⟩) (qsz N) (qsz M + qsz N - i) ∧ Kt [(34, iW (qd M i)), (33, nv N y), (32, .slice (some ⟨bo, i, none⟩) (qsz N) (qsz M + qsz N - i)), (25, iN (i + (qsz N))), (21, .slice (some ⟨bo, 0, none⟩) ((qsz M) + (qsz N)) ((qsz M) + (qsz N))), (7, iW (qd M i)), (6, iN i), (16, iN i), (15, iN (qsz M)), (14, nv M x), (5, .slice (some ⟨bo, 0, none⟩) ((qsz M) + (qsz N)) ((qsz M) + (qsz N))), (4, .slice none 0 0), (0, nv M x), (1, nv N y)] ((bo, .cells (cn .u64 (qleB (qsz M + qsz N) (pr M N i))) 61) :: O)) (by kernel_rfl) (fun _ => by kernel_rfl) (⟨(by omega), (by omega), (by omega), (by omega), (by omega), (by rw [Nat.zero_add, Nat.add_sub_cancel_left]), fun ac7 wd7 FF7 MM7 => ?_⟩)
    refine st_callM [25, 21, 7, 6, 16, 15, 14, 5, 4, 0, 1, 35] FF7 (d := 35) en_addt rfl rfl (addt_any bo i _ (qleB i (pr M N i)) (List.replicate (qsz M + qsz N - i - qsz N) 0) (pr M N i / 18446744073709551616 ^ i) N (qd M i) y (qleB_len _ _) (qd_lt _ _) (pr_seg M N i) (by omega) _ (by rw [← split3 (by omega) (pr_lt M N i)]; exact MM7.get 0 rfl) (hN.at (Has.tl MM7.hasL)) (natO_ne hN MM7.headNe)) rfl (by kernel_rfl) (by decide) fun ac8 wd8 (FF8 : Fr 40 ac8 [(35, iW ((pr M N i / 18446744073709551616 ^ i + N * qd M i) / 18446744073709551616 ^ qsz N)), (25, iN (i + (qsz N))), (21, .slice (some ⟨bo, 0, none⟩) ((qsz M) + (qsz N)) ((qsz M) + (qsz N))), (7, iW (qd M i)), (6, iN i), (16, iN i), (15, iN (qsz M)), (14, nv M x), (5, .slice (some ⟨bo, 0, none⟩) ((qsz M) + (qsz N)) ((qsz M) + (qsz N))), (4, .slice none 0 0), (0, nv M x), (1, nv N y)]) hr9 => ?_
    have MM8t : MemS (fun k => k < w0.heap.size ∧ ∀ x ∈ O, x.1 ≠ k) w0 wd8 ((bo, .cells (cn .u64 (midL (qleB i (pr M N i)) (qleB (qsz N) (pr M N i / 18446744073709551616 ^ i + N * qd M i)) (List.replicate (qsz M + qsz N - i - qsz N) 0))) 61) :: O) [] := MM7.turned hr9
    refine rg_part 2 FF8 MM8t [w_ 1, s_ 0 (.cells (cn .u64 (qleB (qsz M + qsz N) (pr M N (i + 1)))) 61)] [7, 6, 16, 15, 14, 5, 4, 0, 1] (fun Kt => (i + (qsz N)) < ((qsz M) + (qsz N)) ∧ bo = bo ∧ i + (qsz N) < (cn .u64 (midL (qleB i (pr M N i)) (qleB (qsz N) (pr M N i / 18446744073709551616 ^ i + N * qd M i)) (List.replicate (qsz M + qsz N - i - qsz N) 0))).size ∧ (((0, 0)).2 = 0 ∨ i + (qsz N) < ((0, 0)).1) ∧ (cn .u64 (midL (qleB i (pr M N i)) (qleB (qsz N) (pr M N i / 18446744073709551616 ^ i + N * qd M i)) (List.replicate (qsz M + qsz N - i - qsz N) 0))).setIfInBounds (i + (qsz N)) (iW ((pr M N i / 18446744073709551616 ^ i + N * qd M i) / 18446744073709551616 ^ qsz N)) = cn .u64 (qleB (qsz M + qsz N) (pr M N (i + 1))) ∧ Kt [(7, iW (qd M i)), (6, iN i), (16, iN i), (15, iN (qsz M)), (14, nv M x), (5, .slice (some ⟨bo, 0, none⟩) ((qsz M) + (qsz N)) ((qsz M) + (qsz N))), (4, .slice none 0 0), (0, nv M x), (1, nv N y)] ((bo, .cells (cn .u64 (qleB (qsz M + qsz N) (pr M N (i + 1)))) 61) :: O)) (by kernel_rfl) (fun _ => by kernel_rfl) (⟨(by omega), rfl, (by rw [cn_size, midL_len, qleB_len, qleB_len, List.length_replicate]; omega), (.inl rfl), ((cn_set _ _ _ _).trans (congrArg _ (times_step (by omega)))), fun ac10 wd10 FF10 MM10 => ?_⟩)
    refine wpl_nil ?_
    refine inb_n (then_n ?_)
    refine rg_seq FF10 MM10 [o_, o_] [7, 6, 16, 15, 14, 5, 4, 0, 1] (fun Kt => i + 1 < 9223372036854775808 ∧ Kt [(16, iN (i + 1)), (7, iW (qd M i)), (6, iN i), (15, iN (qsz M)), (14, nv M x), (5, .slice (some ⟨bo, 0, none⟩) ((qsz M) + (qsz N)) ((qsz M) + (qsz N))), (4, .slice none 0 0), (0, nv M x), (1, nv N y)] ((bo, .cells (cn .u64 (qleB (qsz M + qsz N) (pr M N (i + 1)))) 61) :: O)) (by kernel_rfl) (fun _ => by kernel_rfl) (⟨(by omega), fun ac11 wd11 FF11 MM11 => ?_⟩)
    have hd := cnt_of (FF11.get 0 rfl)
    refine then_n ⟨⟨i + 1, by omega, FF11.pick [0, 3, 4, 5, 6, 7, 8], MM11⟩, ?_⟩
    rw [hc, hd]; omega
  · skip
    refine then_n (.inr ⟨(FF5.ev 0 rfl).trans (dec_f hlt), ?_⟩)
    obtain rfl : i = qsz M := by omega
    have MMl : MemS (fun k => k < w0.heap.size ∧ ∀ x ∈ O, x.1 ≠ k) w0 wd5 ((bo, .cells (cn .u64 (qleB (qsz M + qsz N) (M * N))) 61) :: O) [] := by rw [← pr_all]; exact MM5
    refine then_n ?_
    refine wp_seq (rg_seq FF5 MMl [o_, u_ 1 (trimV (some ⟨bo, 0, none⟩) (M * N) ((qsz M) + (qsz N))), o_] [16, 15, 14, 5, 4, 0, 1] (fun Kt => CallP Tryd.prog 44 [.slice (some ⟨bo, 0, none⟩) ((qsz M) + (qsz N)) ((qsz M) + (qsz N))] ((bo, .cells (cn .u64 (qleB (qsz M + qsz N) (M * N))) 61) :: O) (trimV (some ⟨bo, 0, none⟩) (M * N) ((qsz M) + (qsz N))) ∧ Kt [(4, trimV (some ⟨bo, 0, none⟩) (M * N) ((qsz M) + (qsz N))), (16, iN (qsz M)), (15, iN (qsz M)), (14, nv M x), (5, .slice (some ⟨bo, 0, none⟩) ((qsz M) + (qsz N)) ((qsz M) + (qsz N))), (0, nv M x), (1, nv N y)] ((bo, .cells (cn .u64 (qleB (qsz M + qsz N) (M * N))) 61) :: O)) (by kernel_rfl) (fun _ => by kernel_rfl) (⟨⟨en_trimd, fun w Hw => by have h0 := trimd_any (some ⟨bo, 0, none⟩) ((qsz M) + (qsz N)) (qleB (qsz M + qsz N) (M * N)) (qleB_lt _ _) (by rw [qleB_len]; exact Nat.le_refl _) (by rw [qleB_len]; omega) w (.inr ⟨bo, _, _, _, rfl, Hw 0 _ rfl, fun j hj => cn_get _ _ _ hj⟩); rw [show (qleB (qsz M + qsz N) (M * N)).length = (qsz M) + (qsz N) from (qleB_len _ _), qleV_prod] at h0; exact h0⟩, fun ac12 wd12 FF12 MM12 => then_n ?_⟩))
    refine wp_ret ?_
    repeat first | refine then_ret ?_ | refine inb_ret ?_
    exact (ret_fr FF12 0 Tryd.results54 rfl ⟨trimV (some ⟨bo, 0, none⟩) (M * N) (qsz M + qsz N), rfl, MM12.belowN H (fun _ hx => List.mem_cons_of_mem _ (hx)), by have h0 := trim_new0 (c := qsz M + qsz N) (X := qleB (qsz M + qsz N) (M * N)) (base := w0.heap.size) (qleB_lt _ _) (by rw [qleB_len]; exact Nat.le_refl _) (MM12.get 0 rfl) (MM12.newest (fun _ h => h)); rw [qleV_prod] at h0; exact h0⟩)
theorem times_any (M N : Nat) (x y : Value) (hs : qsz M + qsz N < 1000000) (w0 : World) (hM : NatIn w0 (nv M x) M) (hN : NatIn w0 (nv N y) N) : Calls Tryd.prog 54 #[nv M x, nv N y] w0 fun e w' => ∃ v, e = .returned (nv (M * N) v) ∧ Below w0.heap.size w0 w' ∧ NatNew w0.heap.size w' (nv (M * N) v) (M * N) := by
  obtain ⟨O, h1, h2, h3, h4⟩ := nat2_O hM hN
  exact times_O O h2 M N x y h3 h4 hs w0 h1
/-- The product of the first i. -/
def prI (ns : List Nat) (i : Nat) : Nat := (ns.take i).foldl (· * ·) 1
def prN (ns : List Nat) : Nat := ns.foldl (· * ·) 1
theorem prI_step (ns : List Nat) (i : Nat) (h : i < ns.length) : prI ns i * ns.getD i 0 = prI ns (i + 1) := by
  rw [prI, prI, List.take_add_one, List.foldl_append, List.getElem?_eq_getElem h]
  simp [List.getD_eq_getElem?_getD, List.getElem?_eq_getElem h]
theorem prI_all (ns : List Nat) : prI ns ns.length = prN ns := by rw [prI, List.take_length]; rfl
theorem prI_sz {ns : List Nat} (h : ∀ j, j < ns.length → qsz (ns.getD j 0) ≤ 1000) : ∀ i, i ≤ ns.length → qsz (prI ns i) ≤ 1 + 1000 * i
  | 0, _ => by rw [show prI ns 0 = 1 from rfl]; decide
  | i + 1, hi => by
    rw [← prI_step ns i (by omega)]
    have h1 := qsz_mul (prI ns i) (ns.getD i 0)
    have h2 := prI_sz h i (by omega)
    have h3 := h i (by omega)
    omega
end Go.Proofs.YtlljedijldkcbaaDoor
namespace Go.Proofs.YtlljedijldkcbaaDoor
open Go.RowKit
set_option maxRecDepth 100000 in
theorem nmul_O (O : Blks) (hD : Distinct O) (p : Option Addr) (cp : Nat) (ns : List Nat) (xs : List Value) (hA : NatsO O p ns xs) (h1 : ∀ j, j < ns.length → qsz (ns.getD j 0) ≤ 1000) (hl : ns.length ≤ 100) (w0 : World) (H : Has w0 O) :
    Calls Tryd.prog 34 #[.slice p ns.length cp] w0 fun e w' => ∃ v, e = .returned (.agg #[nv (prN ns) v]) ∧ Below w0.heap.size w0 w' ∧ NatNew w0.heap.size w' (nv (prN ns) v) (prN ns) := by
  refine enter_fr Tryd.func34 rfl Tryd.ntmps34 (by simp) fun ac (FF : Fr 20 ac [(0, .slice p ns.length cp)]) => ?_
  have MM : MemS (fun k => k < w0.heap.size ∧ ∀ x ∈ O, x.1 ≠ k) w0 w0 O [] := MemS.startN H hD
  refine wp_seq (rg_seq FF MM [o_] [0, 2] (fun Kt => ∀ br, Kt [(2, pT br), (0, .slice p ns.length cp)] ((br, oC #[.slice none 0 0] 37) :: O)) (by kernel_rfl) (fun _ => by kernel_rfl) (fun br => fun ac1 wd1 FF1 MM1 => then_n ?_))
  refine wp_seq (rg_seq FF1 MM1 [o_, o_] [2, 0, 3] (fun Kt => ∀ b1, Kt [(3, .slice (some ⟨b1, 0, none⟩) 1 1), (2, pT br), (0, .slice p ns.length cp)] ((b1, .cells (cn .u64 [1]) 61) :: (br, oC #[.slice none 0 0] 37) :: O)) (by kernel_rfl) (fun _ => by kernel_rfl) (fun b1 => fun ac2 wd2 FF2 MM2 => then_n ?_))
  have hb1 : w0.heap.size ≤ b1 := MM2.newest (fun _ hx => List.mem_cons_of_mem _ (hx))
  obtain ⟨O3, MM40, hN5, hs6⟩ := MemS.sinkNat (K := [(br, oC #[.slice none 0 0] 37)]) (O := O) (v := (nv 1 (oneV b1))) (N := 1) MM2 (nat_one b1 61) (Nats.nil O)
  have MM4 : MemS (fun k => k < w0.heap.size ∧ ∀ x ∈ O, x.1 ≠ k) w0 wd2 ((br, oC #[.slice none 0 0] 37) :: O3) [] := MM40
  have hA_7 := hA.mono hs6
  refine wp_seq ?_
  refine wp_seq (rg_seq FF2 MM4 [o_, o_, o_] [3, 2, 7, 8, 9] (fun Kt => Kt [(9, iN 0), (8, iN ns.length), (7, .slice p ns.length cp), (3, nv (prI ns 0) (oneV b1)), (2, pT br)] ((br, oC #[.slice none 0 0] 37) :: O3)) (by kernel_rfl) (fun _ => by kernel_rfl) (fun ac8 wd8 FF8 MM8 => then_n ?_))
  refine wp_for (fun a' w' => ∃ O1 : Blks, ∃ i : Nat, ∃ v : Value, i ≤ ns.length ∧ (∀ x ∈ O, x ∈ O1) ∧ Nats O1 [(nv (prI ns i) v, prI ns i)] ∧ (∀ g, (nv (prI ns i) v).ownBlock = some g → w0.heap.size ≤ g) ∧ Fr 20 a' [(9, iN i), (8, iN ns.length), (7, .slice p ns.length cp), (3, nv (prI ns i) v), (2, pT br)] ∧ MemS (fun k => k < w0.heap.size ∧ ∀ x ∈ O, x.1 ≠ k) w0 w' ((br, oC #[.slice none 0 0] 37) :: O1) []) (fun a' _ => (ns.length - cnt 9 a').toNat) ⟨O3, 0, (oneV b1), by omega, hs6, hN5, (fun g hg => own_one hg ▸ hb1), FF8.pick [0, 1, 2, 3, 4], MM8⟩ ?_
  rintro ac9 wd9 ⟨O1, i, v, hi, hsb, hN1, hfr, FF9, MM9⟩
  have hA1 := hA.mono hsb
  have hc := cnt_of (FF9.get 0 rfl)
  refine rg_seq FF9 MM9 [o_] [9, 8, 7, 3, 2, 10] (fun Kt => Kt [(10, .bool (decide (i < ns.length))), (9, iN i), (8, iN ns.length), (7, .slice p ns.length cp), (3, nv (prI ns i) v), (2, pT br)] ((br, oC #[.slice none 0 0] 37) :: O1)) (by kernel_rfl) (fun _ => by kernel_rfl) (fun ac10 wd10 FF10 MM10 => ?_)
  by_cases hlt : i < ns.length
  · skip
    refine then_n (.inl ⟨(FF10.ev 0 rfl).trans (dec_t hlt), ?_⟩)
    refine wp_seq (rg_seq FF10 MM10 [f_ (.pointer (some ⟨gOf p, i, none⟩)), f_ (aG #[nv (ns.getD i 0) (xs.getD i undef)]), o_, b_ 0] [9, 8, 7, 3, 2, 5] (fun Kt => RunV Tryd.prog [(10, .bool (decide (i < ns.length))), (9, iN i), (8, iN ns.length), (7, .slice p ns.length cp), (3, nv (prI ns i) v), (2, pT br)] ((br, oC #[.slice none 0 0] 37) :: O1) (opAt Tryd.f34 4 0) (.pointer (some ⟨gOf p, i, none⟩)) ∧ RunV Tryd.prog [(11, .pointer (some ⟨gOf p, i, none⟩)), (10, .bool (decide (i < ns.length))), (9, iN i), (8, iN ns.length), (7, .slice p ns.length cp), (3, nv (prI ns i) v), (2, pT br)] ((br, oC #[.slice none 0 0] 37) :: O1) (opAt Tryd.f34 4 1) (aG #[nv (ns.getD i 0) (xs.getD i undef)]) ∧ ∀ b1, b1 = b1 ∧ (#[.slice none 0 0] : Array Value).size = 1 ∧ (#[nv (ns.getD i 0) (xs.getD i undef)] : Array Value).size = 1 ∧ (#[nv (ns.getD i 0) (xs.getD i undef)] : Array Value).all (·.oneCell') = true ∧ (0, 0).2 = 0 ∧ Kt [(5, pT b1), (9, iN i), (8, iN ns.length), (7, .slice p ns.length cp), (3, nv (prI ns i) v), (2, pT br)] ((b1, oC #[nv (ns.getD i 0) (xs.getD i undef)] 37) :: (br, oC #[.slice none 0 0] 37) :: O1)) (by kernel_rfl) (fun _ => by kernel_rfl) (⟨(rowAddr_ok (x := (.tmp 7)) (y := (.tmp 9)) (by kernel_rfl) rfl rfl Tryd.underlying86 (by kernel_rfl) hA1.1 (by omega)), (rowLoadA_ok (x := (.tmp 11)) (i := i) (by kernel_rfl) rfl Tryd.underlying37 rfl (by kernel_rfl) hA1.1 (fun _ hx => List.mem_cons_of_mem _ (hx)) (by omega)), fun b1 => ⟨rfl, rfl, rfl, (by kernel_rfl), rfl, fun ac11 wd11 FF11 MM11 => then_n ?_⟩⟩))
    refine wp_region_list ?_
    refine rg_part 3 FF11 MM11 [o_, o_, l_ 0 (nv (ns.getD i 0) (xs.getD i undef))] [5, 9, 8, 7, 3, 2, 13, 15] (fun Kt => b1 = b1 ∧ (#[nv (ns.getD i 0) (xs.getD i undef)] : Array Value)[0]? = some (nv (ns.getD i 0) (xs.getD i undef)) ∧ Kt [(15, nv (ns.getD i 0) (xs.getD i undef)), (13, nv (prI ns i) v), (5, pT b1), (9, iN i), (8, iN ns.length), (7, .slice p ns.length cp), (3, nv (prI ns i) v), (2, pT br)] ((b1, oC #[nv (ns.getD i 0) (xs.getD i undef)] 37) :: (br, oC #[.slice none 0 0] 37) :: O1)) (by kernel_rfl) (fun _ => by kernel_rfl) (⟨rfl, rfl, fun ac12 wd12 FF12 MM12 => ?_⟩)
    refine st_callE [5, 9, 8, 7, 3, 2, 16] FF12 (d := 16) (mk := fun v => nv ((prI ns i) * (ns.getD i 0)) v) en_times rfl rfl (times_any (prI ns i) (ns.getD i 0) v (xs.getD i undef) (by have := prI_sz h1 i (by omega); have := h1 i (by omega); omega) _ ((hN1.get 0 rfl).at (Has.tl (Has.tl MM12.hasL))) ((hA1.2 i (by omega)).at (Has.tl (Has.tl MM12.hasL)))) rfl (by kernel_rfl) (by decide) fun ac14 wd14 lv13 (FF14 : Fr 20 ac14 [(16, nv ((prI ns i) * (ns.getD i 0)) lv13), (5, pT b1), (9, iN i), (8, iN ns.length), (7, .slice p ns.length cp), (3, nv (prI ns i) v), (2, pT br)]) hr15 => ?_
    rw [prI_step ns i (by omega)] at FF14 hr15
    have hfr2 : ∀ g, (nv (prI ns (i + 1)) lv13).ownBlock = some g → w0.heap.size ≤ g := fun g hg => Nat.le_trans MM12.size (hr15.2.2 g hg)
    obtain ⟨O16, MM170, hN18, hs19⟩ := MemS.addNats (K := [(b1, oC #[nv (ns.getD i 0) (xs.getD i undef)] 37), (br, oC #[.slice none 0 0] 37)]) (O := O1) MM12 hr15.1 hr15.2 hN1
    have MM17 : MemS (fun k => k < w0.heap.size ∧ ∀ x ∈ O, x.1 ≠ k) w0 wd14 ((b1, oC #[nv (ns.getD i 0) (xs.getD i undef)] 37) :: (br, oC #[.slice none 0 0] 37) :: O16) [] := MM170
    have hA_20 := hA1.mono hs19
    have hz21 : ∀ x ∈ O, x ∈ O16 := fun x hx => hs19 x (hsb x hx)
    have hN9 : Nats O16 [(nv (prI ns (i + 1)) lv13, prI ns (i + 1))] := .cons (hN18.get 0 rfl) (.nil _)
    refine rg_part 1 FF14 MM17 [o_] [5, 9, 8, 7, 3, 2] (fun Kt => Kt [(3, nv (prI ns (i + 1)) lv13), (5, pT b1), (9, iN i), (8, iN ns.length), (7, .slice p ns.length cp), (2, pT br)] ((b1, oC #[nv (ns.getD i 0) (xs.getD i undef)] 37) :: (br, oC #[.slice none 0 0] 37) :: O16)) (by kernel_rfl) (fun _ => by kernel_rfl) (fun ac22 wd22 FF22 MM22 => ?_)
    refine wpl_nil ?_
    refine inb_n (then_n ?_)
    refine rg_seq FF22 MM22 [o_, o_] [3, 5, 9, 8, 7, 2] (fun Kt => i + 1 < 9223372036854775808 ∧ Kt [(9, iN (i + 1)), (3, nv (prI ns (i + 1)) lv13), (5, pT b1), (8, iN ns.length), (7, .slice p ns.length cp), (2, pT br)] ((b1, oC #[nv (ns.getD i 0) (xs.getD i undef)] 37) :: (br, oC #[.slice none 0 0] 37) :: O16)) (by kernel_rfl) (fun _ => by kernel_rfl) (⟨(by omega), fun ac23 wd23 FF23 MM23 => ?_⟩)
    have hd := cnt_of (FF23.get 0 rfl)
    refine then_n ⟨⟨O16, i + 1, lv13, by omega, hz21, hN9, hfr2, FF23.pick [0, 3, 4, 1, 5], (MM23.dropAt 0)⟩, ?_⟩
    rw [hc, hd]; omega
  · skip
    refine then_n (.inr ⟨(FF10.ev 0 rfl).trans (dec_f hlt), ?_⟩)
    obtain rfl : i = ns.length := by omega
    refine then_n ?_
    refine wp_seq (rg_seq FF10 MM10 [o_, o_, b_ 0] [9, 8, 7, 3, 2] (fun Kt => br = br ∧ (#[.slice none 0 0] : Array Value).size = 1 ∧ (#[nv (prI ns ns.length) v] : Array Value).size = 1 ∧ (#[nv (prI ns ns.length) v] : Array Value).all (·.oneCell') = true ∧ (0, 0).2 = 0 ∧ Kt [(9, iN ns.length), (8, iN ns.length), (7, .slice p ns.length cp), (3, nv (prI ns ns.length) v), (2, pT br)] ((br, oC #[nv (prI ns ns.length) v] 37) :: O1)) (by kernel_rfl) (fun _ => by kernel_rfl) (⟨rfl, rfl, rfl, (by kernel_rfl), rfl, fun ac24 wd24 FF24 MM24 => then_n ?_⟩))
    refine wp_ret ?_
    repeat first | refine then_ret ?_ | refine inb_ret ?_
    exact (retc FF24 MM24 (k := 1) (i := 0) (j := 4) Tryd.results34 rfl rfl Tryd.underlying37 rfl (by kernel_rfl) rfl (by have h9 : NatNew w0.heap.size _ (nv (prI ns ns.length) v) (prI ns ns.length) := ⟨(hN1.get 0 rfl).at (Has.tl MM24.hasL), hfr⟩; rw [prI_all] at h9 ⊢; exact ⟨v, rfl, MM24.belowN H (fun _ hx => List.mem_cons_of_mem _ (hsb _ hx)), h9⟩))
theorem nmul_any (p : Option Addr) (cp : Nat) (ns : List Nat) (xs : List Value) (h1 : ∀ j, j < ns.length → qsz (ns.getD j 0) ≤ 1000) (hl : ns.length ≤ 100) (w0 : World) (hA : NatsIn w0 p ns xs) : Calls Tryd.prog 34 #[.slice p ns.length cp] w0 fun e w' => ∃ v, e = .returned (.agg #[nv (prN ns) v]) ∧ Below w0.heap.size w0 w' ∧ NatNew w0.heap.size w' (nv (prN ns) v) (prN ns) := by
  obtain ⟨O, g1, g2, g3⟩ := natsIn_O hA
  exact nmul_O O g2 p cp ns xs g3 h1 hl w0 g1
end Go.Proofs.YtlljedijldkcbaaDoor
