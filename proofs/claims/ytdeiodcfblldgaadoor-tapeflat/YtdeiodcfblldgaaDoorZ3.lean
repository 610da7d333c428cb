/- Several texts in one: Package nat: what a number is, which is less. Rows of words that a walk owns: as cells, as blocks; sums and differences of words. Package nat: a copy of a row. Package nat: a row divided by a group. What strings.Builder's own text does: a pointer held against nil and against itself, turned to a bare pointer and back; a row's bytes as a string. Package nat: a number as a text. A region that draws its order, where reckonings may come behind a store: they are taken first; two reads come up in either order; then the rest in its row. A region that draws its order, gone through by what may come up: one operation at a time, by the laws for a row of one. What is taken from a tape, what is drawn. No program in this text. Package tape: what is taken. Package tape: numbers below another one. Package tape: the number of some bits; numbers under another one. The laws of the tape: what they share. The law TapeFlat. The table of the powers of ten, as the text lays it. From a walk to a row: a law that returns true and writes nothing that was there; arrays of bytes that come in. Package-level tables of numbers: what the row says that they hold, as a block. -/
import Derived.Test.YtdeiodcfblldgaaDoorZ2
import Derived.Shelf.Spec.BitsCarry
import Derived.Laws.Externs
import Derived.Test.YtdeiodcfblldgaaDoorRows
import Derived.WalkKit
import Derived.Test.YtdeiodcfblldgaaDoorZ1
import Derived.Below
import Derived.ProofKit
import Derived.OpenShut
import Derived.ChangeOld
import Derived.MakeChecks
import Derived.LaidMore
import Derived.LaidHandle
import Derived.Stop.Joined
namespace Go.Proofs.YtdeiodcfblldgaaDoor
open Go.RowKit
theorem natO_cells {O : Blks} {N : Nat} {x : Value} (h : NatO O (nv N x) N) : CellsO O (pOf x) (qsz N) (fun j => iW (qd N j)) := by
  obtain ⟨p, c, h1, _, _, _, h4⟩ := h
  simp only [nv, Value.slice.injEq] at h1
  rw [h1.1]; exact h4
theorem natO_none {O : Blks} {N : Nat} {x : Value} (h : NatO O (nv N x) N) : (pOf x).isNone = decide (N = 0) := by
  obtain ⟨p, c, h1, h2, h3, _⟩ := h
  simp only [nv, Value.slice.injEq] at h1
  rw [h1.1]
  by_cases hN : N = 0
  · simp [hN, (h2 hN).1]
  · have := h3 hN
    cases p with
    | none => exact (this rfl).elim
    | some a => simp [hN]
theorem qz0 {M : Nat} (h : qsz M = 0) : M = 0 := by have := (qsz_ok M).1; rw [h] at this; simpa using this
theorem bits_top {M : Nat} (h : ¬ qsz M = 0) : (qsz M - 1) * 64 + bsz (qd M (qsz M - 1)) = bsz M := by
  have h2 := (qsz_ok M).2.resolve_left h
  have e : 18446744073709551616 ^ (qsz M - 1) = 2 ^ ((qsz M - 1) * 64) := by rw [show 18446744073709551616 = 2 ^ 64 by rfl, ← Nat.pow_mul, Nat.mul_comm]
  have h1 := (qsz_ok M).1
  have e2 : 18446744073709551616 ^ qsz M = 18446744073709551616 ^ (qsz M - 1) * 18446744073709551616 := by rw [← Nat.pow_succ]; congr 1; omega
  rw [bsz_div (k := (qsz M - 1) * 64) (x := M) (by rw [← e]; exact h2), ← e]
  unfold qd
  rw [Nat.mod_eq_of_lt (Nat.div_lt_of_lt_mul (by rw [← e2]; exact h1))]
theorem cmp_sizes {M N : Nat} (h : qsz M ≠ qsz N) : cmpN (qsz M) (qsz N) = cmpN M N := by
  rcases Nat.lt_or_gt_of_ne h with c | c
  · have := qcmp_len c
    rw [cmpN, if_pos c, cmpN, if_pos this]
  · have := qcmp_len c
    rw [cmpN, if_neg (by omega), if_neg (by omega), cmpN, if_neg (by omega), if_neg (by omega)]
theorem cmp_word {M N j : Nat} (hq : M / 18446744073709551616 ^ (j + 1) = N / 18446744073709551616 ^ (j + 1)) (h : qd M j ≠ qd N j) : cmpN (qd M j) (qd N j) = cmpN M N := by
  rcases Nat.lt_or_gt_of_ne h with c | c
  · have := qcmp_lt hq c
    rw [cmpN, if_pos c, cmpN, if_pos this]
  · have := qcmp_lt hq.symm c
    rw [cmpN, if_neg (by omega), if_neg (by omega), cmpN, if_neg (by omega), if_neg (by omega)]
set_option maxRecDepth 100000 in
theorem nbits_O (O : Blks) (hD : Distinct O) (M : Nat) (x : Value) (hM : NatO O (nv M x) M) (hs : qsz M < 1000000)  (w0 : World) (H : Has w0 O) :
    Calls Tryd.prog 26 #[.agg #[nv M x]] w0 fun e w' => e = .returned (iN (bsz M)) ∧ Below w0.heap.size w0 w' := by
  refine enter_fr Tryd.func26 rfl Tryd.ntmps26 (by simp) fun ac (FF : Fr 20 ac [(0, aG #[nv M x])]) => ?_
  have MM : MemS (fun k => k < w0.heap.size ∧ ∀ x ∈ O, x.1 ≠ k) w0 w0 O [] := MemS.startN H hD
  refine wp_seq (rg_seq FF MM [o_, o_] [1, 2] (fun Kt => ∀ b1, Kt [(2, iN 0), (1, pT b1)] ((b1, oC #[nv M x] 49) :: O)) (by kernel_rfl) (fun _ => by kernel_rfl) (fun b1 => fun ac1 wd1 FF1 MM1 => then_n ?_))
  refine wp_seq (rg_seq FF1 MM1 [o_, l_ 0 (nv M x), o_, o_] [2, 1, 3] (fun Kt => b1 = b1 ∧ (#[nv M x] : Array Value)[0]? = some (nv M x) ∧ Kt [(3, iN (qsz M)), (2, iN 0), (1, pT b1)] ((b1, oC #[nv M x] 49) :: O)) (by kernel_rfl) (fun _ => by kernel_rfl) (⟨rfl, rfl, fun ac2 wd2 FF2 MM2 => then_n ?_⟩))
  refine wp_seq ?_
  refine wp_seq (rg_seq FF2 MM2 [o_, o_] [3, 2, 1, 8] (fun Kt => Kt [(8, .bool (decide ((qsz M) = 0))), (3, iN (qsz M)), (2, iN 0), (1, pT b1)] ((b1, oC #[nv M x] 49) :: O)) (by kernel_rfl) (fun _ => by kernel_rfl) (fun ac3 wd3 FF3 MM3 => then_n ?_))
  by_cases hs8 : (qsz M) = 0
  · refine wp_cond_true ((FF3.ev 0 rfl).trans (dec_t hs8)) ?_
    refine wp_seq (rg_seq FF3 MM3 [t_ (iN (bsz M))] [3, 2, 1] (fun Kt => iN 0 = iN (bsz M) ∧ Kt [(2, iN (bsz M)), (3, iN (qsz M)), (1, pT b1)] ((b1, oC #[nv M x] 49) :: O)) (by kernel_rfl) (fun _ => by kernel_rfl) (⟨(vI (by rw [qz0 hs8]; rfl)), fun ac4 wd4 FF4 MM4 => then_n ?_⟩))
    refine wp_ret ?_
    repeat first | refine then_ret ?_ | refine inb_ret ?_
    exact (ret_fr FF4 0 Tryd.results26 rfl ⟨rfl, MM4.belowN H (fun _ hx => List.mem_cons_of_mem _ (hx))⟩)
  · refine wp_cond_false ((FF3.ev 0 rfl).trans (dec_f hs8)) ?_
    refine wp_skip ?_
    refine then_n ?_
    refine wp_seq (rg_seq FF3 MM3 [o_, o_, o_, o_, l_ 0 (nv M x), o_, o_, f_ (.pointer (some ⟨gOf (pOf x), (qsz M) - 1, none⟩)), f_ (iW (qd M ((qsz M) - 1))), t_ (iN (bsz (qd M ((qsz M) - 1)))), t_ (iN (bsz M)), o_] [3, 2, 1] (fun Kt => 1 ≤ (qsz M) ∧ (qsz M) - 1 < 9223372036854775808 ∧ ((qsz M) - 1) * 64 < 9223372036854775808 ∧ b1 = b1 ∧ (#[nv M x] : Array Value)[0]? = some (nv M x) ∧ 1 ≤ (qsz M) ∧ (qsz M) - 1 < 9223372036854775808 ∧ RunV Tryd.prog [(15, iN ((qsz M) - 1)), (14, iN (qsz M)), (13, nv M x), (12, pT b1), (11, iN (((qsz M) - 1) * 64)), (10, iN ((qsz M) - 1)), (9, iN (qsz M)), (8, .bool (decide ((qsz M) = 0))), (3, iN (qsz M)), (2, iN 0), (1, pT b1)] ((b1, oC #[nv M x] 49) :: O) (opAt Tryd.f26 4 7) (.pointer (some ⟨gOf (pOf x), (qsz M) - 1, none⟩)) ∧ RunV Tryd.prog [(16, .pointer (some ⟨gOf (pOf x), (qsz M) - 1, none⟩)), (15, iN ((qsz M) - 1)), (14, iN (qsz M)), (13, nv M x), (12, pT b1), (11, iN (((qsz M) - 1) * 64)), (10, iN ((qsz M) - 1)), (9, iN (qsz M)), (8, .bool (decide ((qsz M) = 0))), (3, iN (qsz M)), (2, iN 0), (1, pT b1)] ((b1, oC #[nv M x] 49) :: O) (opAt Tryd.f26 4 8) (iW (qd M ((qsz M) - 1))) ∧ CallP Tryd.prog 38 [iW (qd M ((qsz M) - 1))] [] (iN (bsz (qd M ((qsz M) - 1)))) ∧ (((qsz M) - 1) * 64) + (bsz (qd M ((qsz M) - 1))) < 9223372036854775808 ∧ iN ((((qsz M) - 1) * 64) + (bsz (qd M ((qsz M) - 1)))) = iN (bsz M) ∧ Kt [(2, iN (bsz M)), (3, iN (qsz M)), (1, pT b1)] ((b1, oC #[nv M x] 49) :: O)) (by kernel_rfl) (fun _ => by kernel_rfl) (⟨(by omega), (by omega), (by omega), rfl, rfl, (by omega), (by omega), (rowAddr_ok (x := (.tmp 13)) (y := (.tmp 15)) (by kernel_rfl) rfl rfl Tryd.underlying47 (by kernel_rfl) (natO_cells hM) (by omega)), (rowLoad_ok (x := (.tmp 16)) (i := (qsz M) - 1) (by kernel_rfl) rfl Tryd.underlying71 rfl (natO_cells hM) (fun _ hx => List.mem_cons_of_mem _ (hx)) (by omega)), (callP_of en_len64 (len64_any (qd M ((qsz M) - 1)) (qd_lt _ _)) _), (by have := bsz64 (show qd M ((qsz M) - 1) < 18446744073709551616 from (qd_lt _ _)); omega), (vI (bits_top hs8)), fun ac5 wd5 FF5 MM5 => then_n ?_⟩))
    refine wp_ret ?_
    repeat first | refine then_ret ?_ | refine inb_ret ?_
    exact (ret_fr FF5 0 Tryd.results26 rfl ⟨rfl, MM5.belowN H (fun _ hx => List.mem_cons_of_mem _ (hx))⟩)
set_option maxRecDepth 100000 in
theorem ncmp_O (O : Blks) (hD : Distinct O) (M : Nat) (x : Value) (hM : NatO O (nv M x) M) (hs : qsz M < 1000000) (N : Nat) (y : Value) (hN : NatO O (nv N y) N) (w0 : World) (H : Has w0 O) :
    Calls Tryd.prog 28 #[.agg #[nv M x], .agg #[nv N y]] w0 fun e w' => e = .returned (.int .i64 (cmpN M N)) ∧ Below w0.heap.size w0 w' := by
  refine enter_fr Tryd.func28 rfl Tryd.ntmps28 (by simp) fun ac (FF : Fr 50 ac [(0, aG #[nv M x]), (1, aG #[nv N y])]) => ?_
  have MM : MemS (fun k => k < w0.heap.size ∧ ∀ x ∈ O, x.1 ≠ k) w0 w0 O [] := MemS.startN H hD
  refine wp_seq (rg_seq FF MM [o_, o_, o_] [2, 3, 4] (fun Kt => ∀ ba, ∀ bb, Kt [(4, iN 0), (3, pT bb), (2, pT ba)] ((bb, oC #[nv N y] 49) :: (ba, oC #[nv M x] 49) :: O)) (by kernel_rfl) (fun _ => by kernel_rfl) (fun ba => fun bb => fun ac1 wd1 FF1 MM1 => then_n ?_))
  refine wp_seq ?_
  refine wp_seq (rg_seq FF1 MM1 [o_, l_ 1 (nv M x), o_, o_, l_ 0 (nv N y), o_, o_] [4, 3, 2, 12] (fun Kt => ba = ba ∧ (#[nv M x] : Array Value)[0]? = some (nv M x) ∧ bb = bb ∧ (#[nv N y] : Array Value)[0]? = some (nv N y) ∧ Kt [(12, .bool (decide ((qsz M) ≠ (qsz N)))), (4, iN 0), (3, pT bb), (2, pT ba)] ((bb, oC #[nv N y] 49) :: (ba, oC #[nv M x] 49) :: O)) (by kernel_rfl) (fun _ => by kernel_rfl) (⟨rfl, rfl, rfl, rfl, fun ac2 wd2 FF2 MM2 => then_n ?_⟩))
  by_cases hs12 : (qsz M) ≠ (qsz N)
  · refine wp_cond_true ((FF2.ev 0 rfl).trans (dec_t hs12)) ?_
    refine wp_seq (rg_seq FF2 MM2 [o_, l_ 1 (nv M x), o_, o_, l_ 0 (nv N y), o_, t_ (.int .i64 (cmpN M N : Int)), o_] [4, 3, 2] (fun Kt => ba = ba ∧ (#[nv M x] : Array Value)[0]? = some (nv M x) ∧ bb = bb ∧ (#[nv N y] : Array Value)[0]? = some (nv N y) ∧ CallP Tryd.prog 41 [iN (qsz M), iN (qsz N)] [] (.int .i64 (cmpN M N : Int)) ∧ Kt [(4, .int .i64 (cmpN M N : Int)), (3, pT bb), (2, pT ba)] ((bb, oC #[nv N y] 49) :: (ba, oC #[nv M x] 49) :: O)) (by kernel_rfl) (fun _ => by kernel_rfl) (⟨rfl, rfl, rfl, rfl, (callP_of en_cmpi (fun w => by have h0 := cmpi_any (qsz M) (qsz N) w; rw [cmp_sizes hs12] at h0; exact h0) _), fun ac3 wd3 FF3 MM3 => then_n ?_⟩))
    refine wp_ret ?_
    repeat first | refine then_ret ?_ | refine inb_ret ?_
    exact (ret_fr FF3 0 Tryd.results28 rfl ⟨rfl, MM3.belowN H (fun _ hx => List.mem_cons_of_mem _ (List.mem_cons_of_mem _ (hx)))⟩)
  · refine wp_cond_false ((FF2.ev 0 rfl).trans (dec_f hs12)) ?_
    have hq0 : qsz M = qsz N := by omega
    refine wp_skip ?_
    refine then_n ?_
    refine wp_seq ?_
    refine wp_seq (rg_seq FF2 MM2 [o_, l_ 1 (nv M x), o_, u_ 4 (.int .i64 (((qsz M : Nat) : Int) - 1 : Int)), o_] [4, 3, 2, 5] (fun Kt => ba = ba ∧ (#[nv M x] : Array Value)[0]? = some (nv M x) ∧ -(9223372036854775808 : Int) ≤ ((qsz M : Nat) : Int) - ((1 : Nat) : Int) ∧ ((qsz M : Nat) : Int) - ((1 : Nat) : Int) < (9223372036854775808 : Nat) ∧ Value.int .i64 (((qsz M : Nat) : Int) - ((1 : Nat) : Int) : Int) = .int .i64 (((qsz M : Nat) : Int) - 1 : Int) ∧ Kt [(5, .int .i64 (((qsz M : Nat) : Int) - 1 : Int)), (4, iN 0), (3, pT bb), (2, pT ba)] ((bb, oC #[nv N y] 49) :: (ba, oC #[nv M x] 49) :: O)) (by kernel_rfl) (fun _ => by kernel_rfl) (⟨rfl, rfl, (by omega), (by omega), (vZ (by omega)), fun ac4 wd4 FF4 MM4 => then_n ?_⟩))
    refine wp_for2 (fun a' w' => ∃ j : Nat, j ≤ qsz M ∧ M / 18446744073709551616 ^ j = N / 18446744073709551616 ^ j ∧ Fr 50 a' [(5, .int .i64 (((j : Nat) : Int) - 1 : Int)), (3, pT bb), (2, pT ba)] ∧ MemS (fun k => k < w0.heap.size ∧ ∀ x ∈ O, x.1 ≠ k) w0 w' ((bb, oC #[nv N y] 49) :: (ba, oC #[nv M x] 49) :: O) []) (fun a' _ => (cnt 5 a' + 1).toNat) ⟨qsz M, Nat.le_refl _, qcmp_top hq0, FF4.pick [0, 2, 3], MM4⟩ ?_
    rintro ac5 wd5 ⟨j, hj, hq, FF5, MM5⟩
    have hc := cnt_of (FF5.get 0 rfl)
    refine rg_seq FF5 MM5 [o_, w_ 4] [5, 3, 2, 25] (fun Kt => Kt [(25, .bool (decide ((((j : Nat) : Int) - 1) ≥ ((0 : Nat) : Int)))), (5, .int .i64 (((j : Nat) : Int) - 1 : Int)), (3, pT bb), (2, pT ba)] ((bb, oC #[nv N y] 49) :: (ba, oC #[nv M x] 49) :: O)) (by kernel_rfl) (fun _ => by kernel_rfl) (fun ac6 wd6 FF6 MM6 => ?_)
    by_cases hlt : (((j : Nat) : Int) - 1) ≥ ((0 : Nat) : Int)
    · skip
      refine then_n (.inl ⟨(FF6.ev 0 rfl).trans (dec_t hlt), ?_⟩)
      obtain ⟨j, rfl⟩ : ∃ z, j = z + 1 := ⟨j - 1, by omega⟩
      refine wp_seq (rg_draw FF6 MM6 [.inl (pT ba), .inl (nv M x), .inl (iN j), .inl (.pointer (some ⟨gOf (pOf x), j, none⟩)), .inl (iW (qd M j)), .inl (pT bb), .inl (nv N y), .inl (iN j), .inl (.pointer (some ⟨gOf (pOf y), j, none⟩)), .inl (iW (qd N j)), .inl (.bool (decide ((qd M j) ≠ (qd N j))))] [] [o_, l_ 1 (nv M x), t_ (iN j), f_ (.pointer (some ⟨gOf (pOf x), j, none⟩)), f_ (iW (qd M j)), o_, l_ 0 (nv N y), t_ (iN j), f_ (.pointer (some ⟨gOf (pOf y), j, none⟩)), f_ (iW (qd N j)), o_] [] [5, 3, 2, 38] (fun nb => [ba = ba, (#[nv M x] : Array Value)[0]? = some (nv M x), Value.int .i64 ((((j + 1) : Nat) : Int) - 1 : Int) = iN j, RunV Tryd.prog [(29, nv M x), (30, iN j), (25, .bool (decide (((((j + 1) : Nat) : Int) - 1) ≥ ((0 : Nat) : Int)))), (5, .int .i64 ((((j + 1) : Nat) : Int) - 1 : Int)), (3, pT bb), (2, pT ba)] ((bb, oC #[nv N y] 49) :: (ba, oC #[nv M x] 49) :: O) (opAt Tryd.f28 6 3) (.pointer (some ⟨gOf (pOf x), j, none⟩)), RunV Tryd.prog [(31, .pointer (some ⟨gOf (pOf x), j, none⟩)), (25, .bool (decide (((((j + 1) : Nat) : Int) - 1) ≥ ((0 : Nat) : Int)))), (5, .int .i64 ((((j + 1) : Nat) : Int) - 1 : Int)), (3, pT bb), (2, pT ba)] ((bb, oC #[nv N y] 49) :: (ba, oC #[nv M x] 49) :: O) (opAt Tryd.f28 6 4) (iW (qd M j)), bb = bb, (#[nv N y] : Array Value)[0]? = some (nv N y), Value.int .i64 ((((j + 1) : Nat) : Int) - 1 : Int) = iN j, RunV Tryd.prog [(34, nv N y), (35, iN j), (25, .bool (decide (((((j + 1) : Nat) : Int) - 1) ≥ ((0 : Nat) : Int)))), (5, .int .i64 ((((j + 1) : Nat) : Int) - 1 : Int)), (3, pT bb), (2, pT ba)] ((bb, oC #[nv N y] 49) :: (ba, oC #[nv M x] 49) :: O) (opAt Tryd.f28 6 8) (.pointer (some ⟨gOf (pOf y), j, none⟩)), RunV Tryd.prog [(36, .pointer (some ⟨gOf (pOf y), j, none⟩)), (25, .bool (decide (((((j + 1) : Nat) : Int) - 1) ≥ ((0 : Nat) : Int)))), (5, .int .i64 ((((j + 1) : Nat) : Int) - 1 : Int)), (3, pT bb), (2, pT ba)] ((bb, oC #[nv N y] 49) :: (ba, oC #[nv M x] 49) :: O) (opAt Tryd.f28 6 9) (iW (qd N j))]) (fun nb Kt => Kt [(38, .bool (decide ((qd M j) ≠ (qd N j)))), (5, .int .i64 ((((j + 1) : Nat) : Int) - 1 : Int)), (3, pT bb), (2, pT ba)] ((bb, oC #[nv N y] 49) :: (ba, oC #[nv M x] 49) :: O)) (by kernel_rfl) (by kernel_rfl) (by kernel_rfl) (fun _ => by kernel_rfl) (fun _ _ => by kernel_rfl) trivial (fun nb => ⟨rfl, rfl, (vZ (by omega)), (rowAddr_ok (x := (.tmp 29)) (y := (.tmp 30)) (by kernel_rfl) rfl rfl Tryd.underlying47 (by kernel_rfl) (natO_cells hM) (by omega)), (rowLoad_ok (x := (.tmp 31)) (i := j) (by kernel_rfl) rfl Tryd.underlying71 rfl (natO_cells hM) (fun _ hx => List.mem_cons_of_mem _ (List.mem_cons_of_mem _ (hx))) (by omega)), rfl, rfl, (vZ (by omega)), (rowAddr_ok (x := (.tmp 34)) (y := (.tmp 35)) (by kernel_rfl) rfl rfl Tryd.underlying47 (by kernel_rfl) (natO_cells hN) (by omega)), (rowLoad_ok (x := (.tmp 36)) (i := j) (by kernel_rfl) rfl Tryd.underlying71 rfl (natO_cells hN) (fun _ hx => List.mem_cons_of_mem _ (List.mem_cons_of_mem _ (hx))) (by omega)), trivial⟩) (fun nb => fun ac7 wd7 FF7 MM7 => then_n ?_))
      by_cases hs38 : (qd M j) ≠ (qd N j)
      · refine wp_cond_true ((FF7.ev 0 rfl).trans (dec_t hs38)) ?_
        refine wp_seq (rg_draw FF7 MM7 [.inl (pT ba), .inl (nv M x), .inl (iN j), .inl (.pointer (some ⟨gOf (pOf x), j, none⟩)), .inl (iW (qd M j)), .inl (pT bb), .inl (nv N y), .inl (iN j), .inl (.pointer (some ⟨gOf (pOf y), j, none⟩)), .inl (iW (qd N j)), .inl (.int .i64 (cmpN M N : Int)), .inl (.int .i64 (cmpN M N : Int))] [] [o_, l_ 1 (nv M x), t_ (iN j), f_ (.pointer (some ⟨gOf (pOf x), j, none⟩)), f_ (iW (qd M j)), o_, l_ 0 (nv N y), t_ (iN j), f_ (.pointer (some ⟨gOf (pOf y), j, none⟩)), f_ (iW (qd N j)), t_ (.int .i64 (cmpN M N : Int)), o_] [] [5, 3, 2, 4] (fun nb => [ba = ba, (#[nv M x] : Array Value)[0]? = some (nv M x), Value.int .i64 ((((j + 1) : Nat) : Int) - 1 : Int) = iN j, RunV Tryd.prog [(40, nv M x), (41, iN j), (38, .bool (decide ((qd M j) ≠ (qd N j)))), (5, .int .i64 ((((j + 1) : Nat) : Int) - 1 : Int)), (3, pT bb), (2, pT ba)] ((bb, oC #[nv N y] 49) :: (ba, oC #[nv M x] 49) :: O) (opAt Tryd.f28 7 3) (.pointer (some ⟨gOf (pOf x), j, none⟩)), RunV Tryd.prog [(42, .pointer (some ⟨gOf (pOf x), j, none⟩)), (38, .bool (decide ((qd M j) ≠ (qd N j)))), (5, .int .i64 ((((j + 1) : Nat) : Int) - 1 : Int)), (3, pT bb), (2, pT ba)] ((bb, oC #[nv N y] 49) :: (ba, oC #[nv M x] 49) :: O) (opAt Tryd.f28 7 4) (iW (qd M j)), bb = bb, (#[nv N y] : Array Value)[0]? = some (nv N y), Value.int .i64 ((((j + 1) : Nat) : Int) - 1 : Int) = iN j, RunV Tryd.prog [(45, nv N y), (46, iN j), (38, .bool (decide ((qd M j) ≠ (qd N j)))), (5, .int .i64 ((((j + 1) : Nat) : Int) - 1 : Int)), (3, pT bb), (2, pT ba)] ((bb, oC #[nv N y] 49) :: (ba, oC #[nv M x] 49) :: O) (opAt Tryd.f28 7 8) (.pointer (some ⟨gOf (pOf y), j, none⟩)), RunV Tryd.prog [(47, .pointer (some ⟨gOf (pOf y), j, none⟩)), (38, .bool (decide ((qd M j) ≠ (qd N j)))), (5, .int .i64 ((((j + 1) : Nat) : Int) - 1 : Int)), (3, pT bb), (2, pT ba)] ((bb, oC #[nv N y] 49) :: (ba, oC #[nv M x] 49) :: O) (opAt Tryd.f28 7 9) (iW (qd N j)), CallP Tryd.prog 42 [iW (qd M j), iW (qd N j)] [] (.int .i64 (cmpN M N : Int))]) (fun nb Kt => Kt [(4, .int .i64 (cmpN M N : Int)), (5, .int .i64 ((((j + 1) : Nat) : Int) - 1 : Int)), (3, pT bb), (2, pT ba)] ((bb, oC #[nv N y] 49) :: (ba, oC #[nv M x] 49) :: O)) (by kernel_rfl) (by kernel_rfl) (by kernel_rfl) (fun _ => by kernel_rfl) (fun _ _ => by kernel_rfl) trivial (fun nb => ⟨rfl, rfl, (vZ (by omega)), (rowAddr_ok (x := (.tmp 40)) (y := (.tmp 41)) (by kernel_rfl) rfl rfl Tryd.underlying47 (by kernel_rfl) (natO_cells hM) (by omega)), (rowLoad_ok (x := (.tmp 42)) (i := j) (by kernel_rfl) rfl Tryd.underlying71 rfl (natO_cells hM) (fun _ hx => List.mem_cons_of_mem _ (List.mem_cons_of_mem _ (hx))) (by omega)), rfl, rfl, (vZ (by omega)), (rowAddr_ok (x := (.tmp 45)) (y := (.tmp 46)) (by kernel_rfl) rfl rfl Tryd.underlying47 (by kernel_rfl) (natO_cells hN) (by omega)), (rowLoad_ok (x := (.tmp 47)) (i := j) (by kernel_rfl) rfl Tryd.underlying71 rfl (natO_cells hN) (fun _ hx => List.mem_cons_of_mem _ (List.mem_cons_of_mem _ (hx))) (by omega)), (callP_of en_cmpu (fun w => by have h0 := cmpu_any (qd M j) (qd N j) w; rw [cmp_word hq hs38] at h0; exact h0) _), trivial⟩) (fun nb => fun ac8 wd8 FF8 MM8 => then_n ?_))
        refine wp_ret ?_
        repeat first | refine then_ret ?_ | refine inb_ret ?_
        exact (ret_fr FF8 0 Tryd.results28 rfl ⟨rfl, MM8.belowN H (fun _ hx => List.mem_cons_of_mem _ (List.mem_cons_of_mem _ (hx)))⟩)
      · refine wp_cond_false ((FF7.ev 0 rfl).trans (dec_f hs38)) ?_
        have hq2 := qcmp_eq hq (Classical.byContradiction fun h => hs38 h)
        refine wp_skip ?_
        refine inb_n (then_n ?_)
        refine rg_seq FF7 MM7 [o_, u_ 4 (.int .i64 (((j : Nat) : Int) - 1 : Int)), o_] [5, 3, 2] (fun Kt => -(9223372036854775808 : Int) ≤ ((((j + 1) : Nat) : Int) - 1) - ((1 : Nat) : Int) ∧ ((((j + 1) : Nat) : Int) - 1) - ((1 : Nat) : Int) < (9223372036854775808 : Nat) ∧ Value.int .i64 (((((j + 1) : Nat) : Int) - 1) - ((1 : Nat) : Int) : Int) = .int .i64 (((j : Nat) : Int) - 1 : Int) ∧ Kt [(5, .int .i64 (((j : Nat) : Int) - 1 : Int)), (3, pT bb), (2, pT ba)] ((bb, oC #[nv N y] 49) :: (ba, oC #[nv M x] 49) :: O)) (by kernel_rfl) (fun _ => by kernel_rfl) (⟨(by omega), (by omega), (vZ (by omega)), fun ac9 wd9 FF9 MM9 => ?_⟩)
        have hd := cnt_of (FF9.get 0 rfl)
        refine then_n ⟨⟨j, by omega, hq2, FF9.pick [0, 1, 2], MM9⟩, ?_⟩
        rw [hc, hd]; omega
    · skip
      refine then_n (.inr ⟨(FF6.ev 0 rfl).trans (dec_f hlt), ?_⟩)
      obtain rfl : j = 0 := by omega
      have hMN : M = N := by simpa using hq
      refine then_n ?_
      refine wp_seq (rg_seq FF6 MM6 [t_ (.int .i64 (cmpN M N : Int))] [5, 3, 2, 4] (fun Kt => iN 0 = .int .i64 (cmpN M N : Int) ∧ Kt [(4, .int .i64 (cmpN M N : Int)), (5, .int .i64 (((0 : Nat) : Int) - 1 : Int)), (3, pT bb), (2, pT ba)] ((bb, oC #[nv N y] 49) :: (ba, oC #[nv M x] 49) :: O)) (by kernel_rfl) (fun _ => by kernel_rfl) (⟨(vZ (cmp0 hMN)), fun ac10 wd10 FF10 MM10 => then_n ?_⟩))
      refine wp_ret ?_
      repeat first | refine then_ret ?_ | refine inb_ret ?_
      exact (ret_fr FF10 0 Tryd.results28 rfl ⟨rfl, MM10.belowN H (fun _ hx => List.mem_cons_of_mem _ (List.mem_cons_of_mem _ (hx)))⟩)
theorem nat1_O {w : World} {M : Nat} {x : Value} (h : NatIn w (nv M x) M) : ∃ O : Blks, Has w O ∧ Distinct O ∧ NatO O (nv M x) M := by
  obtain ⟨O, h1, h2, h3, _⟩ := nats_O [(nv M x, M)] (fun y hy => by rw [List.mem_singleton] at hy; subst hy; exact h) [] (fun i y hy => by simp at hy) .nil
  exact ⟨O, h1, distinct_of h2, h3.get 0 rfl⟩
theorem nat2_O {w : World} {M N : Nat} {x y : Value} (h : NatIn w (nv M x) M) (h' : NatIn w (nv N y) N) : ∃ O : Blks, Has w O ∧ Distinct O ∧ NatO O (nv M x) M ∧ NatO O (nv N y) N := by
  obtain ⟨O, h1, h2, h3, _⟩ := nats_O [(nv M x, M), (nv N y, N)] (fun z hz => by
    simp only [List.mem_cons, List.not_mem_nil, or_false] at hz
    rcases hz with rfl | rfl <;> assumption) [] (fun i y hy => by simp at hy) .nil
  exact ⟨O, h1, distinct_of h2, h3.get 0 rfl, h3.get 1 rfl⟩
theorem nbits_any (M : Nat) (x : Value) (hs : qsz M < 1000000) (w : World) (hM : NatIn w (nv M x) M) : Calls Tryd.prog 26 #[.agg #[nv M x]] w fun e w' => e = .returned (iN (bsz M)) ∧ Below w.heap.size w w' := by
  obtain ⟨O, h1, h2, h3⟩ := nat1_O hM
  exact nbits_O O h2 M x h3 hs w h1
theorem ncmp_any (M : Nat) (x : Value) (hs : qsz M < 1000000) (N : Nat) (y : Value) (w : World) (hM : NatIn w (nv M x) M) (hN : NatIn w (nv N y) N) : Calls Tryd.prog 28 #[.agg #[nv M x], .agg #[nv N y]] w fun e w' => e = .returned (.int .i64 (cmpN M N)) ∧ Below w.heap.size w w' := by
  obtain ⟨O, h1, h2, h3, h4⟩ := nat2_O hM hN
  exact ncmp_O O h2 M x h3 hs N y h4 w h1
end Go.Proofs.YtdeiodcfblldgaaDoor
namespace Go.Proofs.YtdeiodcfblldgaaDoor
open Go.RowKit
section
variable {P : Program} {o : Oper} {w0 w w' : World} {n : Nat} {l : Slots} {L O : Blks} {S : Nat → Prop} {R : List Row}
/-- Words as cells. -/
def wc (X : List Nat) : List Value := X.map fun x => .int .u64 (x : Nat)
theorem wc_len (X : List Nat) : (wc X).length = X.length * 1 := by simp [wc]
theorem wc_cn (X : List Nat) : (cn .u64 X).toList = wc X := by simp [cn, wc]
theorem wc_one (X : List Nat) : ∀ u ∈ wc X, u.oneCell' = true := fun u hu => by
  obtain ⟨x, _, rfl⟩ := List.mem_map.1 hu
  rfl
theorem lies_O {p : Option Addr} {X : List Nat} (h : CellsIn w p X.length (fun j => .int .u64 (X.getD j 0 : Nat))) {ad : Addr} (hp : p = some ad) : ∀ (j : Nat) u, (wc X)[j]? = some u → w.cell? (ad.add j) = some u := fun j u hu => by
  have hj : j < X.length := by
    rcases Nat.lt_or_ge j X.length with h | h
    · exact h
    · rw [List.getElem?_eq_none (by rw [wc_len]; omega)] at hu; cases hu
  rcases h with h | ⟨b, cs, T, fr, h1, h2, h3⟩
  · omega
  · rw [hp] at h1
    obtain rfl := Option.some.inj h1
    rw [add_off, cell_of h2, Nat.zero_add, h3 j hj, ← hu]
    simp [wc, hj]
/-- A row of words as a block. -/
theorem MemS.freezeW {g m cap : Nat} {e : TypeId} {X : List Nat} (M : MemS S w0 w L ((.slice (some ⟨g, 0, none⟩) m cap, e, 1, m, wc X) :: R)) : ∃ rest : Array Value, MemS S w0 w ((g, .cells (cn .u64 X ++ rest) e) :: L) R ∧ w0.heap.size ≤ g ∧ m ≤ cap ∧ cap ≤ maxLen ∧ (cn .u64 X ++ rest).size = cap ∧ X.length = m := by
  obtain ⟨cur, h1, h2, h3, h4, h5, h6, h7⟩ := M.freeze
  have e1 : cur = cn .u64 X ++ (cur.toList.drop m).toArray := by
    apply Array.ext'
    rw [Array.toList_append, wc_cn]
    conv => lhs; rw [← List.take_append_drop m cur.toList]
    rw [Nat.mul_one] at h6
    rw [h6]
  refine ⟨(cur.toList.drop m).toArray, ?_, h2, h3, h4, ?_, ?_⟩
  · rw [← e1]; exact h1
  · rw [← e1, h5, Nat.mul_one]
  · rw [wc_len] at h7; omega
theorem MemS.rowSome {q : Option Addr} {m c k : Nat} {e : TypeId} {X : List Value} (M : MemS S w0 w L ((.slice q m c, e, k, m, X) :: R)) (h : 0 < m) : ∃ g, q = some ⟨g, 0, none⟩ := by
  rcases M.rowForm with ⟨_, h2⟩ | ⟨g, cap, h1⟩
  · omega
  · simp only [Value.slice.injEq] at h1
    exact ⟨g, h1.1⟩
/-- One block turns. -/
structure Turn (g : Nat) (ob : Obj) (w w' : World) : Prop where
  os : w'.os = w.os
  tape : w'.tape = w.tape
  output : w'.output = w.output
  size : w.heap.size ≤ w'.heap.size
  block : ∀ k, k < w.heap.size → k ≠ g → w'.heap[k]? = w.heap[k]?
  now : w'.heap[g]? = some ob
theorem MemS.turn {g : Nat} {ob ob' : Obj} (M : MemS (fun k => k < w0.heap.size ∧ ∀ x ∈ (g, ob) :: O, x.1 ≠ k) w0 w L R) (H : Has w0 O) (i : Nat) (hi : L[i]? = some (g, ob')) (hO : ∀ x ∈ O, x ∈ L) : Turn g ob' w0 w := by
  refine ⟨M.os, M.tape, M.output, M.size, fun k hk hne => ?_, M.get i hi⟩
  by_cases h : ∃ x ∈ O, x.1 = k
  · obtain ⟨x, hx, rfl⟩ := h
    rw [Has.mem M.hasL (hO x hx), Has.mem H hx]
  · exact M.block k ⟨hk, fun x hx e => by
      rcases List.mem_cons.1 hx with rfl | hx
      · exact hne e.symm
      · exact h ⟨x, hx, e⟩⟩
theorem MemS.turned {g : Nat} {ob ob' : Obj} (M : MemS S w0 w ((g, ob) :: L) R) (t : Turn g ob' w w') : MemS S w0 w' ((g, ob') :: L) R := by
  have p : Post w w' ((g, ob) :: L) ⟨fun _ => undef, none, [(0, ob')]⟩ 0 := ⟨t.os, t.tape, t.output, t.size, fun k hk hn => t.block k hk (fun e => hn _ (List.mem_singleton.2 rfl) (g, ob) rfl e.symm), fun _ h => (nomatch h), fun _ => rfl, fun u hu y hy => by
    rw [List.mem_singleton] at hu
    subst hu
    obtain rfl := Option.some.inj hy
    exact t.now⟩
  have := M.post p
  simpa [newL, setAll, modAt] using this
end
end Go.Proofs.YtdeiodcfblldgaaDoor
namespace Go.Proofs.YtdeiodcfblldgaaDoor
open Go.RowKit
/-- A row of a number's words, in memory of its own. -/
def CloneOf (base : Nat) (w : World) (M : Nat) (v : Value) : Prop := (M = 0 ∧ pOf v = none ∧ cOf v = 0) ∨ (M ≠ 0 ∧ ∃ (g : Nat) (rest : Array Value), pOf v = some ⟨g, 0, none⟩ ∧ base ≤ g ∧ w.heap[g]? = some (.cells (cn .u64 (qminB M) ++ rest) 71) ∧ (cn .u64 (qminB M) ++ rest).size = cOf v ∧ cOf v ≤ maxLen)
theorem CloneOf.mono {base base' : Nat} {w : World} {M : Nat} {v : Value} (h : CloneOf base w M v) (hb : base' ≤ base) : CloneOf base' w M v := by
  rcases h with h | ⟨h0, g, rest, h1, h2, h3⟩
  · exact .inl h
  · exact .inr ⟨h0, g, rest, h1, Nat.le_trans hb h2, h3⟩
theorem natO_some {O : Blks} {N : Nat} {x : Value} (h : NatO O (nv N x) N) (h0 : N ≠ 0) : ∃ ad, pOf x = some ad := by
  have := natO_none h
  rw [decide_eq_false h0] at this
  cases hp : pOf x with
  | none => rw [hp] at this; cases this
  | some ad => exact ⟨ad, rfl⟩
theorem cells_qmin {w : World} {p : Option Addr} {M : Nat} (h : CellsIn w p (qsz M) (fun j => iW (qd M j))) : CellsIn w p (qsz M) (fun j => iW ((qminB M).getD j 0)) := by
  rcases h with h | ⟨b, cs, T, fr, h1, h2, h3⟩
  · exact .inl h
  · exact .inr ⟨b, cs, T, fr, h1, h2, fun j hj => by rw [h3 j hj]; show some (iW (qd M j)) = some (iW ((qminB M).getD j 0)); rw [qminB_get]; rfl⟩
set_option maxRecDepth 100000 in
theorem clone_zero (O : Blks) (hD : Distinct O) (M : Nat) (x : Value) (hM : NatO O (nv M x) M) (h0 : M = 0) (w0 : World) (H : Has w0 O) :
    Calls Tryd.prog 40 #[nv M x] w0 fun e w' => ∃ v, e = .returned (nv M v) ∧ Below w0.heap.size w0 w' ∧ CloneOf w0.heap.size w' M v := by
  refine enter_fr Tryd.func40 rfl Tryd.ntmps40 (by simp) fun ac (FF : Fr 8 ac [(0, nv M x)]) => ?_
  have MM : MemS (fun k => k < w0.heap.size ∧ ∀ x ∈ O, x.1 ≠ k) w0 w0 O [] := MemS.startN H hD
  refine wp_seq (rg_seq FF MM [o_] [0, 2] (fun Kt => Kt [(2, .slice none 0 0), (0, nv M x)] O) (by kernel_rfl) (fun _ => by kernel_rfl) (fun ac1 wd1 FF1 MM1 => then_n ?_))
  refine wp_seq ?_
  refine wp_seq (rg_seq FF1 MM1 [o_, f_ (.bool true)] [2, 0, 4] (fun Kt => RunV Tryd.prog [(3, nv M x), (2, .slice none 0 0), (0, nv M x)] O (opAt Tryd.f40 1 1) (.bool true) ∧ Kt [(4, .bool true), (2, .slice none 0 0), (0, nv M x)] O) (by kernel_rfl) (fun _ => by kernel_rfl) (⟨(rowNil_ok (x := .tmp 3) (t' := 47) (n := qsz M) (p := pOf x) (c := cOf x) (by kernel_rfl) rfl Tryd.underlying47 (by rw [natO_none hM]; exact decide_eq_true h0)), fun ac2 wd2 FF2 MM2 => then_n ?_⟩))
  refine wp_cond_true (FF2.ev 0 rfl) ?_
  refine wp_seq (rg_seq FF2 MM2 [o_] [2, 0] (fun Kt => Kt [(2, .slice none 0 0), (0, nv M x)] O) (by kernel_rfl) (fun _ => by kernel_rfl) (fun ac3 wd3 FF3 MM3 => then_n ?_))
  refine wp_ret ?_
  repeat first | refine then_ret ?_ | refine inb_ret ?_
  exact (ret_fr FF3 0 Tryd.results40 rfl ⟨.slice none 0 0, congrArg Ending.returned (by rw [h0]; rfl), MM3.belowN H (fun _ hx => hx), .inl ⟨h0, rfl, rfl⟩⟩)
set_option maxRecDepth 100000 in
theorem clone_some (O : Blks) (hD : Distinct O) (M : Nat) (x : Value) (hM : NatO O (nv M x) M) (hs : qsz M < 1000000) (h0 : M ≠ 0) (w0 : World) (H : Has w0 O) :
    Calls Tryd.prog 40 #[nv M x] w0 fun e w' => ∃ v, e = .returned (nv M v) ∧ Below w0.heap.size w0 w' ∧ CloneOf w0.heap.size w' M v := by
  refine enter_fr Tryd.func40 rfl Tryd.ntmps40 (by simp) fun ac (FF : Fr 8 ac [(0, nv M x)]) => ?_
  have MM : MemS (fun k => k < w0.heap.size ∧ ∀ x ∈ O, x.1 ≠ k) w0 w0 O [] := MemS.startN H hD
  obtain ⟨ad, had⟩ := natO_some hM h0
  refine wp_seq (rg_seq FF MM [o_] [0, 2] (fun Kt => Kt [(2, .slice none 0 0), (0, nv M x)] O) (by kernel_rfl) (fun _ => by kernel_rfl) (fun ac1 wd1 FF1 MM1 => then_n ?_))
  refine wp_seq ?_
  refine wp_seq (rg_seq FF1 MM1 [o_, f_ (.bool false)] [2, 0, 4] (fun Kt => RunV Tryd.prog [(3, nv M x), (2, .slice none 0 0), (0, nv M x)] O (opAt Tryd.f40 1 1) (.bool false) ∧ Kt [(4, .bool false), (2, .slice none 0 0), (0, nv M x)] O) (by kernel_rfl) (fun _ => by kernel_rfl) (⟨(rowNil_ok (x := .tmp 3) (t' := 47) (n := qsz M) (p := pOf x) (c := cOf x) (by kernel_rfl) rfl Tryd.underlying47 (by rw [natO_none hM]; exact decide_eq_false h0)), fun ac2 wd2 FF2 MM2 => then_n ?_⟩))
  refine wp_cond_false (FF2.ev 0 rfl) ?_
  refine wp_skip ?_
  refine then_n ?_
  refine wp_seq (wp_region_list ?_)
  refine rg_part 2 FF2 MM2 [o_, o_] [2, 0, 5, 6] (fun Kt => ∀ be, Kt [(6, nv M x), (5, .slice (some ⟨be, 0, none⟩) 0 0), (2, .slice none 0 0), (0, nv M x)] ((be, oC #[] 71) :: O)) (by kernel_rfl) (fun _ => by kernel_rfl) (fun be => fun ac3 wd3 FF3 MM3 => ?_)
  have hnew := MM3.newest (fun _ hx => hx)
  have MMw := MM3.rowOf (m := 0) (k := 1) hnew (Nat.zero_le _) rfl
  rw [show nv M x = .slice (some ad) (qsz M) (cOf x) by rw [nv, had]] at FF3
  refine st_app [2, 0, 7] FF3 MMw (d := 7) (s := 5) (x := 6) (Y := (wc (qminB M))) (z := iW 0) (bb := 8) rfl rfl rfl (by rw [wc_len, qminB_len]) (lies_O (by have h7 := (natO_cells hM).at MMw.hasL; rw [qminB_len]; exact cells_qmin h7) had) (wc_one _) (qsz_pos h0) Tryd.underlying47 (by kernel_rfl) rfl (by decide) (by simp only [maxLen]; omega) (by omega) rfl rfl (by decide) fun ac5 wd5 rv4 (FF5 : Fr 8 ac5 [(7, rv4), (2, .slice none 0 0), (0, .slice (some ad) (qsz M) (cOf x))]) (MM5 : MemS (fun k => k < w0.heap.size ∧ ∀ x ∈ O, x.1 ≠ k) w0 wd5 O [(rv4, 71, 1, (0 + qsz M), ([] ++ (wc (qminB M))))]) => ?_
  refine rg_part 1 FF5 MM5 [o_] [2, 0] (fun Kt => Kt [(2, rv4), (0, .slice (some ad) (qsz M) (cOf x))] O) (by kernel_rfl) (fun _ => by kernel_rfl) (fun ac6 wd6 FF6 MM6 => ?_)
  refine wpl_nil (then_n ?_)
  refine wp_ret ?_
  repeat first | refine then_ret ?_ | refine inb_ret ?_
  exact (ret_fr FF6 0 Tryd.results40 rfl (by have MMv := MM6; rw [Nat.zero_add, List.nil_append] at MMv; obtain ⟨p9, c9, rfl, _⟩ := MMv.rowLen; obtain ⟨g, rfl⟩ := MMv.rowSome (qsz_pos h0); obtain ⟨rest, MMz, hg, _, hmx, hsz, _⟩ := MMv.freezeW; exact ⟨.slice (some ⟨g, 0, none⟩) 0 c9, rfl, MMz.belowN H (fun _ hx => List.mem_cons_of_mem _ (hx)), .inr ⟨h0, g, rest, rfl, hg, MMz.get 0 rfl, hsz, hmx⟩⟩))
theorem clone_any (M : Nat) (x : Value) (hs : qsz M < 1000000) (w0 : World) (hM : NatIn w0 (nv M x) M) : Calls Tryd.prog 40 #[nv M x] w0 fun e w' => ∃ v, e = .returned (nv M v) ∧ Below w0.heap.size w0 w' ∧ CloneOf w0.heap.size w' M v := by
  obtain ⟨O, h1, h2, h3⟩ := nat1_O hM
  by_cases h0 : M = 0
  · exact clone_zero O h2 M x h3 h0 w0 h1
  · exact clone_some O h2 M x h3 hs h0 w0 h1
end Go.Proofs.YtdeiodcfblldgaaDoor
namespace Go.Proofs.YtdeiodcfblldgaaDoor
open Go.RowKit
theorem one_has {w : World} {g : Nat} {ob : Obj} (h : w.heap[g]? = some ob) : Has w [(g, ob)] := fun i x hx => by
  cases i with
  | zero => simp at hx; subst hx; exact h
  | succ i => simp at hx
end Go.Proofs.YtdeiodcfblldgaaDoor
namespace Go.Proofs.YtdeiodcfblldgaaDoor
open Go.RowKit
section
variable {P : Program} {l : Slots} {L : Blks} {o : Oper} {x y : Operand}
theorem ptrSome_ok {t t' e : TypeId} {ad : Addr} (ho : o.op = .binOp .eql t x y t') (hx : evO l x = some (.pointer (some ad))) (hy : evO l y = some (.pointer none)) (hu : P.underlying t = some (.pointer e)) : RunV P l L o (.bool false) := fun ρ w A _ => by
  have h : ∀ d : Nat, (Op.equalIn (d + 1) t (.pointer (some ad)) (.pointer none)).run P w = .ok false w := fun d => by simp [Op.equalIn, run_underlying hu]
  have h2 := h 9999
  have h3 := A x _ hx
  have h4 := A y _ hy
  simp [execOp, ho, h3, h4, eqGuard, binOp, Op.equal, Op.maxDepth, h2]
end
end Go.Proofs.YtdeiodcfblldgaaDoor
namespace Go.Proofs.YtdeiodcfblldgaaDoor
open Go.RowKit
theorem MemS.addFresh {S : Nat → Prop} {w0 w w' : World} {L : Blks} {R : List Row} {g : Nat} {ob : Obj} (M : MemS S w0 w L R) (M' : MemS S w0 w' L R) (hb : w'.heap[g]? = some ob) (hg : w.heap.size ≤ g) : MemS S w0 w' ((g, ob) :: L) R :=
  M'.addBlk hb (fun x hx => by have := lt_of_block (Has.mem M.hasL hx); omega) (fun hs => by have := M.old g hs; have := M.size; omega) (fun r hr g' hg' => by have := (ownsRow_lt (M.rows r hr) hg').2; omega)
set_option maxRecDepth 100000 in
theorem digs_nil  (w0 : World) :
    Calls Tryd.prog 39 #[.slice none 0 0] w0 fun e w' => e = .returned (sB [48]) ∧ Below w0.heap.size w0 w' := by
  refine enter_fr Tryd.func39 rfl Tryd.ntmps39 (by simp) fun ac (FF : Fr 49 ac [(0, .slice none 0 0)]) => ?_
  have MM := MemS.start w0
  refine wp_seq (rg_seq FF MM [o_] [0, 2] (fun Kt => Kt [(2, sB []), (0, .slice none 0 0)] []) (by kernel_rfl) (fun _ => by kernel_rfl) (fun ac1 wd1 FF1 MM1 => then_n ?_))
  refine wp_seq (rg_seq FF1 MM1 [o_] [2, 0, 3] (fun Kt => Kt [(3, .slice none 0 0), (2, sB []), (0, .slice none 0 0)] []) (by kernel_rfl) (fun _ => by kernel_rfl) (fun ac2 wd2 FF2 MM2 => then_n ?_))
  refine wp_seq ?_
  refine wp_for2w (fun a' w' => Fr 49 a' [(3, .slice none 0 0), (2, sB []), (0, .slice none 0 0)] ∧ MemS (fun k => k < w0.heap.size) w0 w' [] []) (fun a' _ => 0) ⟨FF2.pick [0, 1, 2], MM2⟩ ?_
  rintro ac3 wd3 ⟨FF3, MM3⟩
  refine rg_seq FF3 MM3 [o_, o_, w_ 3] [3, 2, 0, 10] (fun Kt => ¬ (0 > 0) ∧ Kt [(10, .bool false), (3, .slice none 0 0), (2, sB []), (0, .slice none 0 0)] []) (by kernel_rfl) (fun _ => by kernel_rfl) (⟨(by decide), fun ac4 wd4 FF4 MM4 => ?_⟩)
  refine then_n (.inr ⟨FF4.ev 0 rfl, ?_⟩)
  refine then_n ?_
  refine wp_seq ?_
  refine wp_seq (rg_seq FF4 MM4 [o_, o_, w_ 2] [3, 2, 0, 20] (fun Kt => 0 = 0 ∧ Kt [(20, .bool true), (3, .slice none 0 0), (2, sB []), (0, .slice none 0 0)] []) (by kernel_rfl) (fun _ => by kernel_rfl) (⟨(by decide), fun ac5 wd5 FF5 MM5 => then_n ?_⟩))
  refine wp_cond_true (FF5.ev 0 rfl) ?_
  refine wp_seq (rg_seq FF5 MM5 [o_] [3, 2, 0] (fun Kt => Kt [(2, sB [48]), (3, .slice none 0 0), (0, .slice none 0 0)] []) (by kernel_rfl) (fun _ => by kernel_rfl) (fun ac6 wd6 FF6 MM6 => then_n ?_))
  refine wp_ret ?_
  repeat first | refine then_ret ?_ | refine inb_ret ?_
  exact (ret_fr FF6 0 Tryd.results39 rfl ⟨rfl, MM6.below⟩)
set_option maxRecDepth 100000 in
theorem ntext_zero (O : Blks) (hD : Distinct O) (M : Nat) (x : Value) (hM : NatO O (nv M x) M) (hs : qsz M < 1000000) (h0 : M = 0) (w0 : World) (H : Has w0 O) :
    Calls Tryd.prog 27 #[.agg #[nv M x]] w0 fun e w' => e = .returned (sB (decN M)) ∧ Below w0.heap.size w0 w' := by
  refine enter_fr Tryd.func27 rfl Tryd.ntmps27 (by simp) fun ac (FF : Fr 7 ac [(0, aG #[nv M x])]) => ?_
  have MM : MemS (fun k => k < w0.heap.size ∧ ∀ x ∈ O, x.1 ≠ k) w0 w0 O [] := MemS.startN H hD
  refine wp_seq (rg_seq FF MM [o_, o_] [1, 2] (fun Kt => ∀ ba, Kt [(2, sB []), (1, pT ba)] ((ba, oC #[nv M x] 49) :: O)) (by kernel_rfl) (fun _ => by kernel_rfl) (fun ba => fun ac1 wd1 FF1 MM1 => then_n ?_))
  refine wp_seq (wp_region_list ?_)
  refine rg_part 2 FF1 MM1 [o_, l_ 0 (nv M x)] [2, 4] (fun Kt => ba = ba ∧ (#[nv M x] : Array Value)[0]? = some (nv M x) ∧ Kt [(4, nv M x), (2, sB [])] ((ba, oC #[nv M x] 49) :: O)) (by kernel_rfl) (fun _ => by kernel_rfl) (⟨rfl, rfl, fun ac2 wd2 FF2 MM2 => ?_⟩)
  refine st_callE [2, 5] FF2 (d := 5) (mk := fun v => nv M v) en_clone rfl rfl (clone_any M x hs _ (hM.at (Has.tl MM2.hasL))) rfl (by kernel_rfl) (by decide) fun ac4 wd4 lv3 (FF4 : Fr 7 ac4 [(5, nv M lv3), (2, sB [])]) hr5 => ?_
  obtain ⟨hB, hcl⟩ := hr5
  have MM6 := MM2.keep hB
  obtain ⟨_, hp, hcp⟩ := hcl.resolve_right (fun h => h.1 h0)
  rw [show nv M lv3 = .slice none 0 0 by rw [nv, hp, hcp, h0]; rfl] at FF4
  refine rg_part 2 FF4 MM6 [t_ (sB (decN M)), o_] [2] (fun Kt => CallP Tryd.prog 39 [.slice none 0 0] [] (sB (decN M)) ∧ Kt [(2, sB (decN M))] ((ba, oC #[nv M x] 49) :: O)) (by kernel_rfl) (fun _ => by kernel_rfl) (⟨(callP_of en_digs (fun w => by have h7 := digs_nil w; rw [h0]; exact h7) _), fun ac7 wd7 FF7 MM7 => ?_⟩)
  refine wpl_nil (then_n ?_)
  refine wp_ret ?_
  repeat first | refine then_ret ?_ | refine inb_ret ?_
  exact (ret_fr FF7 0 Tryd.results27 rfl ⟨rfl, MM7.belowN H (fun _ hx => List.mem_cons_of_mem _ (hx))⟩)
end Go.Proofs.YtdeiodcfblldgaaDoor
namespace Go.Proofs.YtdeiodcfblldgaaDoor
open Go.RowKit
section
variable {P : Program} {ops : Array Oper} {a : Act} {w0 w w' : World} {Q : Exit → Act → World → Prop} {n : Nat} {l : Slots} {L : Blks} {S : Nat → Prop} {R : List Row} {o : Oper}
theorem mvV {x : Operand} {v : Value} (ho : o.op = .move x) (hx : evO l x = some v) : RunV P l L o v := fun ρ w A _ => by
  simp only [execOp, ho, A x _ hx, Sem.run_pure]
theorem draw_open {id N : Nat} (hm : P.follows .mixedOrders = true) (hN : ops.size = N) (M : MemS S w0 w L R) (K : ∀ w', MemS S w0 w' L R → wpAny P .any ops Q N (Array.replicate N false) a w') : (Code.region id ops true).wp P Q a w := by
  refine wp_region_any hm ?_
  rw [hN]
  exact K _ (M.keep (w' := { w with drawn := w.drawn + 1 }) ⟨rfl, rfl, rfl, Nat.le_refl _, fun _ _ => rfl⟩)
/-- A reckoning that looks at no memory is taken first. -/
theorem take_op (F : Fr n a l) {i : Nat} {oi : Oper} {v : Value} {d fuel : Nat} {listed : Array Bool} (hi : ops[i]? = some oi) (hs : Region.noSelect ops = true) (hf : Region.free .any ops listed i = true) (hr : (Region.ready .any ops listed).contains i = true)
    (hQ : ∀ c a (d : Nat) v w, Q (.panic c) (a.put (some d) v) w → Q (.panic c) a w) (hd : oi.dst = some d) (hn : d < n) (hg : wantOf ops.toList l oi = some true) (hrun : RunV P l [] oi v)
    (K : ∀ a', Fr n a' (upd d v l) → wpAny P .any ops Q fuel (listed.setIfInBounds i true) a' w) : wpAny P .any ops Q (fuel + 1) listed a w := by
  refine wpAny_take hi hs hf hr (fun c a w h => by rw [hd] at h; exact hQ c a d v w h) (.inl ⟨wanted_iff hg F.lk, fun w => hrun a.eval w F.agr (fun k y hy => by simp at hy)⟩) ?_
  rw [hd]
  exact K _ (F.put _ hn)
end
end Go.Proofs.YtdeiodcfblldgaaDoor
namespace Go.Proofs.YtdeiodcfblldgaaDoor
open Go.RowKit
section
variable {P : Program} {ops : Array Oper} {a : Act} {w0 w w' : World} {Q : Exit → Act → World → Prop} {n : Nat} {l : Slots} {L : Blks} {S : Nat → Prop} {R : List Row} {o : Oper}
/-- What is to hold behind an operation, as what is to hold behind a row. -/
def onN (K : Act → World → Prop) (Q : Exit → Act → World → Prop) : Exit → Act → World → Prop := fun e a w => match e with | .normal => K a w | e => Q e a w
theorem onN_wp {K : Act → World → Prop} (h : o.wp P a w K (onN K Q)) : o.wp P a w K Q := by
  unfold Oper.wp at *
  generalize (execOp a.eval o).run P w = r at h ⊢
  unfold Oper.upon at *
  split <;> simp_all [onN, LetsOut]
/-- One operation, by the laws for rows. -/
theorem op_row {i : Nat} {K : Act → World → Prop} (hi : ops[i]? = some o) (h : wpList P ops (onN K Q) [o] a w) : wpOp P ops Q i K a w := by
  unfold wpOp
  simp only [hi]
  unfold wpList at h
  split
  · rename_i hw
    rw [if_pos hw] at h
    rcases h with h | ⟨h1, h2⟩
    · exact .inl (onN_wp h)
    · exact .inr ⟨h1, h2⟩
  · rename_i hw
    rw [if_neg hw] at h
    exact h
/-- Just one may come up. -/
theorem any_one {i fuel : Nat} {listed : Array Bool} (hr : Region.ready .any ops listed = [i]) (hi : ops[i]? = some o) (h : wpList P ops (onN (wpAny P .any ops Q fuel (listed.setIfInBounds i true)) Q) [o] a w) : wpAny P .any ops Q (fuel + 1) listed a w :=
  wpAny_all hr (by simp) fun k hk => by
    rw [List.mem_singleton] at hk
    subst hk
    exact op_row hi h
/-- One of two. -/
theorem any_two {i j fuel : Nat} {oi oj : Oper} {listed : Array Bool} (hr : Region.ready .any ops listed = [i, j]) (hi : ops[i]? = some oi) (hj : ops[j]? = some oj) (h : wpList P ops (onN (wpAny P .any ops Q fuel (listed.setIfInBounds i true)) Q) [oi] a w) (h2 : wpList P ops (onN (wpAny P .any ops Q fuel (listed.setIfInBounds j true)) Q) [oj] a w) : wpAny P .any ops Q (fuel + 1) listed a w :=
  wpAny_all hr (by simp) fun k hk => by
    simp only [List.mem_cons, List.not_mem_nil, or_false] at hk
    rcases hk with rfl | rfl
    · exact op_row hi h
    · exact op_row hj h2
/-- None is left. -/
theorem any_none {listed : Array Bool} {fuel : Nat} (hr : Region.ready .any ops listed = []) (h : Q .normal a w) : wpAny P .any ops Q fuel listed a w := by
  cases fuel with
  | zero => exact ⟨hr, h⟩
  | succ k => exact ⟨fun _ => h, fun i hi => by rw [hr] at hi; cases hi⟩
theorem nilV {x : Operand} {p : Addr} (ho : o.op = .nilCheck x) (hx : evO l x = some (.pointer (some p))) : RunV P l L o (.pointer (some p)) := fun ρ w A _ => by
  have e1 := A x _ hx
  simp [execOp, ho, e1, go_sem]
theorem fldV {x : Operand} {t k : Nat} {u v : Value} {cs : List Prop} (ho : o.op = .fieldAddr t x k) (hx : evO l x = some u) (hf : aField P t u k = some (v, cs)) : RunV P l L o v := fun ρ w A _ => by
  have e1 := A x _ hx
  have q := run_field (P := P) (w := w) hf
  simp only [execOp, ho, e1, Sem.run_bind, q, Result.andThen_ok, Sem.run_pure]
theorem onN_n {K : Act → World → Prop} (h : K a w) : onN K Q .normal a w := h
/-- A call that turns one block, in whatever list that block stands. -/
theorem callU_turn {f : FuncId} {args : List Value} {v : Value} {g i : Nat} {ob ob' : Obj} (he : Enters P f) (hi : L[i]? = some (g, ob)) (h : ∀ w, w.heap[g]? = some ob → Calls P f args.toArray w fun e w' => e = .returned v ∧ Turn g ob' w w') : CallU P f args L v [(i, ob')] :=
  ⟨he, fun w H => (h w (H i _ hi)).mono fun e w' ⟨h1, t⟩ => ⟨h1, t.os, t.tape, t.output, t.size, fun k hk hn => t.block k hk (fun e => hn _ (List.mem_singleton.2 rfl) (g, ob) hi e.symm), fun _ h => (nomatch h), fun _ => rfl, fun u hu y hy => by
    rw [List.mem_singleton] at hu
    subst hu
    rw [hi] at hy
    obtain rfl := Option.some.inj hy
    exact t.now⟩⟩
theorem MemS.turnAt {g : Nat} {ob ob' : Obj} (M : MemS S w0 w L R) (t : Turn g ob' w w') (i : Nat) (hi : L[i]? = some (g, ob)) : MemS S w0 w' (newL 0 ⟨fun _ => undef, none, [(i, ob')]⟩ L) R :=
  M.post ⟨t.os, t.tape, t.output, t.size, fun k hk hn => t.block k hk (fun e => hn _ (List.mem_singleton.2 rfl) (g, ob) hi e.symm), fun _ h => (nomatch h), fun _ => rfl, fun u hu y hy => by
    rw [List.mem_singleton] at hu
    subst hu
    rw [hi] at hy
    obtain rfl := Option.some.inj hy
    exact t.now⟩
theorem Turn.of_below {g : Nat} {ob : Obj} (hg : w.heap[g]? = some ob) (h : Below w.heap.size w w') : Turn g ob w w' := ⟨h.os, h.tape, h.output, h.size, fun k hk _ => h.block k hk, (h.block g (lt_of_block hg)).trans hg⟩
theorem Turn.trans {w2 : World} {g : Nat} {ob ob' : Obj} (t : Turn g ob w w') (t2 : Turn g ob' w' w2) : Turn g ob' w w2 := ⟨t2.os.trans t.os, t2.tape.trans t.tape, t2.output.trans t.output, Nat.le_trans t.size t2.size, fun k hk hne => (t2.block k (Nat.lt_of_lt_of_le hk t.size) hne).trans (t.block k hk hne), t2.now⟩
/-- A number that a call has made which turned a block. -/
theorem MemS.addNatsT {K O : Blks} {v : Value} {N : Nat} {ns : List (Value × Nat)} (M : MemS S w0 w L R) (M' : MemS S w0 w' (K ++ O) R) (hi : (K ++ O).map (·.1) = L.map (·.1)) (hn : NatNew w.heap.size w' v N) (hN : Nats O ns) : ∃ O', MemS S w0 w' (K ++ O') R ∧ Nats O' ((v, N) :: ns) ∧ ∀ x ∈ O, x ∈ O' := by
  obtain ⟨O', h1, h2, h3⟩ := M'.addNat hn.1 (fun g hg x hx => by
    have h4 : x.1 ∈ L.map (·.1) := hi ▸ List.mem_map_of_mem hx
    obtain ⟨y, hy, e⟩ := List.mem_map.1 h4
    have := lt_of_block (Has.mem M.hasL hy)
    have := hn.2 g hg
    have e : y.1 = x.1 := e
    omega) (fun g hg hs => by have := M.old g hs; have := M.size; have := hn.2 g hg; omega) (fun g hg r hr g' hg' => by have := (ownsRow_lt (M.rows r hr) hg').2; have := hn.2 g hg; omega)
  exact ⟨O', h1, .cons h2 (hN.mono h3), h3⟩
end
end Go.Proofs.YtdeiodcfblldgaaDoor
namespace Go.Proofs.YtdeiodcfblldgaaDoor
open Go.RowKit
theorem natNew_nil (base : Nat) (w : World) : NatNew base w (nv 0 (.slice none 0 0)) 0 := ⟨⟨none, 0, rfl, fun _ => ⟨rfl, rfl⟩, fun h => (h rfl).elim, Nat.le_refl _, .inl rfl⟩, fun g hg => by cases hg⟩
/-- The next n bytes of a tape: its own, then noughts. -/
def takN (n : Nat) (X : List Nat) : List Nat := X.take n ++ List.replicate (n - X.length) 0
theorem takN_len (n : Nat) (X : List Nat) : (takN n X).length = n := by simp [takN]; omega
theorem dropD (X : List Nat) (k i : Nat) : (X.drop k).getD i 0 = X.getD (k + i) 0 := by simp [List.getD_eq_getElem?_getD]
theorem takN_get {n i : Nat} (X : List Nat) (h : i < n) : (takN n X).getD i 0 = X.getD i 0 := by
  rw [takN]
  rcases Nat.lt_or_ge i X.length with h1 | h1
  · rw [getD_app_l _ _ _ (by simp; omega), List.getD_eq_getElem?_getD, List.getElem?_take, if_pos h, List.getD_eq_getElem?_getD]
  · rw [getD_app_r _ _ _ (by simp; omega), rep_get, getD_out h1]
theorem takN_lt {X : List Nat} (hX : ∀ i, X.getD i 0 < 256) (n : Nat) : ∀ i, (takN n X).getD i 0 < 256 := fun i => by
  rcases Nat.lt_or_ge i n with h | h
  · rw [takN_get X h]; exact hX i
  · rw [getD_out (by rw [takN_len]; exact h)]; decide
theorem dropX_min (X : List Nat) (n : Nat) : X.drop (min X.length n) = X.drop n := by
  rcases Nat.le_total X.length n with h | h
  · rw [Nat.min_eq_left h, List.drop_length, List.drop_of_length_le h]
  · rw [Nat.min_eq_right h]
theorem dropX_lt {X : List Nat} (hX : ∀ i, X.getD i 0 < 256) (n : Nat) : ∀ i, (X.drop n).getD i 0 < 256 := fun i => by rw [dropD]; exact hX _
theorem tak_cells (n : Nat) (X : List Nat) : setFrom (cn .u8 (List.replicate n 0)) 0 (bcells (X.take n)) = cn .u8 (takN n X) := by
  apply Array.ext_getElem?
  intro j
  rw [setFrom_get]
  have hb : (bcells (X.take n)).length = min n X.length := by simp [bcells]
  rcases Nat.lt_or_ge j n with h | h
  · rw [show (cn .u8 (takN n X))[j]? = some (iB (X.getD j 0)) by rw [cn_get _ _ _ (by rw [takN_len]; exact h), takN_get X h]]
    by_cases h1 : j < X.length
    · rw [if_pos ⟨Nat.zero_le _, by rw [hb]; omega, by rw [cn_size, List.length_replicate]; exact h⟩]
      simp [bcells, h, List.getD_eq_getElem?_getD, List.getElem?_eq_getElem h1]
    · rw [if_neg (fun q => by have := q.2.1; rw [hb] at this; omega), cn_get _ _ _ (by rw [List.length_replicate]; exact h), rep_get, getD_out (by omega)]
  · rw [if_neg (fun q => by have := q.2.2; rw [cn_size, List.length_replicate] at this; omega), Array.getElem?_eq_none (by rw [cn_size, List.length_replicate]; exact h), Array.getElem?_eq_none (by rw [cn_size, takN_len]; exact h)]
/-- Two bytes as a number. -/
def twoN (X : List Nat) : Nat := X.getD 0 0 + 256 * X.getD 1 0
theorem two_lt {X : List Nat} (hX : ∀ i, X.getD i 0 < 256) : twoN X < 65536 := by have := hX 0; have := hX 1; unfold twoN; omega
theorem two_or {X : List Nat} (hX : ∀ i, X.getD i 0 < 256) : (takN 2 X).getD 0 0 ||| (takN 2 X).getD 1 0 * 256 = twoN X := by
  rw [takN_get X (by decide), takN_get X (by decide)]
  have h := or_shl (a := X.getD 0 0) (b := X.getD 1 0) 8 (hX 0)
  rw [show (2 : Nat) ^ 8 = 256 by rfl] at h
  rw [h, twoN]; omega
/-- What is drawn below n by k tries: the answer, the refusal, how many bytes. -/
def belN (n : Nat) : Nat → List Nat → Nat × Nat × Nat
  | 0, _ => (0, 3, 0)
  | k + 1, X => if twoN X < 65536 - 65536 % n then (twoN X % n, 0, 2) else ((belN n k (X.drop 2)).1, (belN n k (X.drop 2)).2.1, 2 + (belN n k (X.drop 2)).2.2)
/-- .. behind i tries that were none. -/
def BelI (n k : Nat) (X : List Nat) (i : Nat) : Prop := belN n k X = ((belN n (k - i) (X.drop (2 * i))).1, (belN n (k - i) (X.drop (2 * i))).2.1, 2 * i + (belN n (k - i) (X.drop (2 * i))).2.2)
theorem bel_start (n k : Nat) (X : List Nat) : BelI n k X 0 := by unfold BelI; simp
theorem bel_no {n k i : Nat} {X : List Nat} (h : BelI n k X i) (hi : i < k) (hv : ¬ twoN (X.drop (2 * i)) < 65536 - 65536 % n) : BelI n k X (i + 1) := by
  unfold BelI at *
  obtain ⟨m, hm⟩ : ∃ m, k - i = m + 1 := ⟨k - i - 1, by omega⟩
  rw [hm] at h
  rw [show k - (i + 1) = m by omega, h]
  simp only [belN, if_neg hv, List.drop_drop, Nat.mul_add, Nat.mul_one]
  simp only [Nat.add_assoc]
theorem bel_yes {n k i : Nat} {X : List Nat} (h : BelI n k X i) (hi : i < k) (hv : twoN (X.drop (2 * i)) < 65536 - 65536 % n) : belN n k X = (twoN (X.drop (2 * i)) % n, 0, 2 * i + 2) := by
  unfold BelI at h
  obtain ⟨m, hm⟩ : ∃ m, k - i = m + 1 := ⟨k - i - 1, by omega⟩
  rw [hm] at h
  rw [h]
  simp only [belN, if_pos hv]
theorem bel_end {n k : Nat} {X : List Nat} (h : BelI n k X k) : belN n k X = (0, 3, 2 * k) := by
  unfold BelI at h
  rw [h, Nat.sub_self]
  rfl
/-- The lowest b bits of the next bytes. -/
def bitN (b : Nat) (X : List Nat) : Nat := leV (takN ((b + 7) / 8) X) % 2 ^ b
theorem mask_last {Y : List Nat} {m c : Nat} (hY : ∀ i, Y.getD i 0 < 256) (hl : Y.length = m + 1) : leV (Y.set m (Y.getD m 0 % 2 ^ c)) = leV Y % 2 ^ (8 * m + c) := by
  have e1 : Y = Y.take m ++ [Y.getD m 0] := by
    refine ext_getD (by simp [hl]) fun i hi => ?_
    rcases Nat.lt_or_ge i m with h | h
    · rw [getD_app_l _ _ _ (by simp; omega), List.getD_eq_getElem?_getD, List.getD_eq_getElem?_getD, List.getElem?_take, if_pos h]
    · obtain rfl : i = m := by omega
      rw [getD_app_r _ _ _ (by simp; omega)]
      simp [hl]
  have hA : leV (Y.take m) < 256 ^ m := leV_take hY m
  have e2 : Y.set m (Y.getD m 0 % 2 ^ c) = Y.take m ++ [Y.getD m 0 % 2 ^ c] := by
    refine ext_getD (by simp [hl]) fun i hi => ?_
    simp only [List.length_set] at hi
    rw [getD_set]
    rcases Nat.lt_or_ge i m with h | h
    · rw [if_neg (by omega), getD_app_l _ _ _ (by simp; omega), List.getD_eq_getElem?_getD, List.getD_eq_getElem?_getD, List.getElem?_take, if_pos h]
    · obtain rfl : m = i := by omega
      rw [if_pos ⟨rfl, by omega⟩, getD_app_r _ _ _ (by simp; omega)]
      simp [hl]
  have e3 : ∀ y, leV (Y.take m ++ [y]) = leV (Y.take m) + 256 ^ m * y := fun y => by
    rw [leV_app]; simp [leV, hl]
  have ep : 2 ^ (8 * m + c) = 256 ^ m * 2 ^ c := by rw [Nat.pow_add, Nat.pow_mul]
  have hv : leV Y = leV (Y.take m) + 256 ^ m * Y.getD m 0 := (congrArg leV e1).trans (e3 _)
  rw [e2, e3, hv, ep, Nat.mod_mul, Nat.add_mul_mod_self_left, Nat.mod_eq_of_lt hA, Nat.add_mul_div_left _ _ (Nat.pow_pos (by decide)), Nat.div_eq_of_lt hA, Nat.zero_add]
theorem and_shr {x k : Nat} (hk : k ≤ 7) : x &&& 255 / 2 ^ k = x % 2 ^ (8 - k) := by
  have e : 255 / 2 ^ k = 2 ^ (8 - k) - 1 := by
    have : ∀ k : Fin 8, 255 / 2 ^ k.val = 2 ^ (8 - k.val) - 1 := by decide
    exact this ⟨k, by omega⟩
  rw [e]; exact Nat.and_two_pow_sub_one_eq_mod x (8 - k)
theorem bit_tape {X : List Nat} {b : Nat} (hX : ∀ i, X.getD i 0 < 256) (hb : 1 ≤ b) : leV ((takN ((b + 7) / 8) X).set ((b + 7) / 8 - 1) ((takN ((b + 7) / 8) X).getD ((b + 7) / 8 - 1) 0 &&& 255 / 2 ^ (8 * ((b + 7) / 8) - b))) = bitN b X := by
  rw [and_shr (by omega)]
  have := mask_last (Y := takN ((b + 7) / 8) X) (m := (b + 7) / 8 - 1) (c := 8 - (8 * ((b + 7) / 8) - b)) (takN_lt hX _) (by rw [takN_len]; omega)
  rw [this, bitN]
  congr 2; omega
theorem bitN_lt (b : Nat) (X : List Nat) : bitN b X < 2 ^ b := Nat.mod_lt _ (Nat.pow_pos (by decide))
/-- What is drawn under W by k tries, s bytes each. -/
def undN (W b : Nat) : Nat → List Nat → Nat × Nat × Nat
  | 0, _ => (0, 3, 0)
  | k + 1, X => if bitN b X < W then (bitN b X, 0, (b + 7) / 8) else ((undN W b k (X.drop ((b + 7) / 8))).1, (undN W b k (X.drop ((b + 7) / 8))).2.1, (b + 7) / 8 + (undN W b k (X.drop ((b + 7) / 8))).2.2)
def UndI (W b k : Nat) (X : List Nat) (i : Nat) : Prop := undN W b k X = ((undN W b (k - i) (X.drop ((b + 7) / 8 * i))).1, (undN W b (k - i) (X.drop ((b + 7) / 8 * i))).2.1, (b + 7) / 8 * i + (undN W b (k - i) (X.drop ((b + 7) / 8 * i))).2.2)
theorem und_start (W b k : Nat) (X : List Nat) : UndI W b k X 0 := by unfold UndI; simp
theorem und_no {W b k i : Nat} {X : List Nat} (h : UndI W b k X i) (hi : i < k) (hv : ¬ bitN b (X.drop ((b + 7) / 8 * i)) < W) : UndI W b k X (i + 1) := by
  unfold UndI at *
  obtain ⟨m, hm⟩ : ∃ m, k - i = m + 1 := ⟨k - i - 1, by omega⟩
  rw [hm] at h
  rw [show k - (i + 1) = m by omega, h]
  simp only [undN, if_neg hv, List.drop_drop, Nat.mul_add, Nat.mul_one]
  simp only [Nat.add_assoc]
theorem und_yes {W b k i : Nat} {X : List Nat} (h : UndI W b k X i) (hi : i < k) (hv : bitN b (X.drop ((b + 7) / 8 * i)) < W) : undN W b k X = (bitN b (X.drop ((b + 7) / 8 * i)), 0, (b + 7) / 8 * i + (b + 7) / 8) := by
  unfold UndI at h
  obtain ⟨m, hm⟩ : ∃ m, k - i = m + 1 := ⟨k - i - 1, by omega⟩
  rw [hm] at h
  rw [h]
  simp only [undN, if_pos hv]
theorem und_end {W b k : Nat} {X : List Nat} (h : UndI W b k X k) : undN W b k X = (0, 3, (b + 7) / 8 * k) := by
  unfold UndI at h
  rw [h, Nat.sub_self]
  rfl
end Go.Proofs.YtdeiodcfblldgaaDoor
namespace Go.Proofs.YtdeiodcfblldgaaDoor
open Go.RowKit
theorem en_tnew : Enters Tryd.prog 10 := fun args w => by simp [go_sem]
theorem en_take : Enters Tryd.prog 11 := fun args w => by simp [go_sem]
theorem en_tused : Enters Tryd.prog 24 := fun args w => by simp [go_sem]
theorem en_tbelow : Enters Tryd.prog 17 := fun args w => by simp [go_sem]
theorem en_tunder : Enters Tryd.prog 19 := fun args w => by simp [go_sem]
theorem en_maybe : Enters Tryd.prog 30 := fun args w => by simp [go_sem]
theorem en_pair : Enters Tryd.prog 31 := fun args w => by simp [go_sem]
theorem en_tbits : Enters Tryd.prog 33 := fun args w => by simp [go_sem]
/-- A tape: the bytes that are left, how many were taken. -/
abbrev TB (X : List Nat) (u : Nat) : Obj := .cells #[sB X, iN u] 73
set_option maxRecDepth 100000 in
theorem take_any (g n : Nat) (X : List Nat) (u : Nat) (hX : ∀ i, X.getD i 0 < 256) (hu : u < 4611686018427387904) (hn : n ≤ 65536) (w0 : World) (hg : w0.heap[g]? = some (TB X u)) :
    Calls Tryd.prog 11 #[pT g, iN n] w0 fun e w' => e = .returned (sB (takN n X)) ∧ Turn g (TB (X.drop n) (u + n)) w0 w' := by
  refine enter_fr Tryd.func11 rfl Tryd.ntmps11 (by simp) fun ac (FF : Fr 42 ac [(0, pT g), (1, iN n)]) => ?_
  have MM : MemS (fun k => k < w0.heap.size ∧ ∀ x ∈ (g, oC #[sB X, iN u] 73) :: ([] : Blks), x.1 ≠ k) w0 w0 ((g, oC #[sB X, iN u] 73) :: ([] : Blks)) [] := MemS.startN (one_has hg) ⟨fun y hy => (nomatch hy), trivial⟩
  refine wp_seq (rg_seq FF MM [o_] [0, 1, 4] (fun Kt => Kt [(4, sB []), (0, pT g), (1, iN n)] ((g, oC #[sB X, iN u] 73) :: ([] : Blks))) (by kernel_rfl) (fun _ => by kernel_rfl) (fun ac1 wd1 FF1 MM1 => then_n ?_))
  refine wp_seq ?_
  refine wp_seq (rg_seq FF1 MM1 [o_, f_ (.bool false), o_, o_, w_ 3, o_, o_, o_, w_ 3, o_] [4, 0, 1, 15] (fun Kt => RunV Tryd.prog [(6, pT g), (4, sB []), (0, pT g), (1, iN n)] ((g, oC #[sB X, iN u] 73) :: ([] : Blks)) (opAt Tryd.f11 1 1) (.bool false) ∧ ¬ (n < 0) ∧ ¬ (n > 65536) ∧ Kt [(15, .bool false), (4, sB []), (0, pT g), (1, iN n)] ((g, oC #[sB X, iN u] 73) :: ([] : Blks))) (by kernel_rfl) (fun _ => by kernel_rfl) (⟨(ptrSome_ok (t := 25) (t' := 25) (x := (.tmp 6)) (y := (.const (.pointer none))) (by kernel_rfl) rfl rfl Tryd.underlying25), (by have := hn; omega), (by have := hn; omega), fun ac2 wd2 FF2 MM2 => then_n ?_⟩))
  refine wp_cond_false (FF2.ev 0 rfl) ?_
  refine wp_skip ?_
  refine then_n ?_
  refine wp_seq (rg_seq FF2 MM2 [o_, n_ (.slice none n n) (.cells (cn .u8 (List.replicate n 0)) 5), o_] [4, 0, 1, 5] (fun Kt => RunN Tryd.prog [(16, iN n), (15, .bool false), (4, sB []), (0, pT g), (1, iN n)] ((g, oC #[sB X, iN u] 73) :: ([] : Blks)) (opAt Tryd.f11 3 1) (mkOf (.slice none n n)) (.cells (cn .u8 (List.replicate n 0)) 5) ∧ ∀ bo, Kt [(5, .slice (some ⟨bo, 0, none⟩) n n), (4, sB []), (0, pT g), (1, iN n)] ((bo, .cells (cn .u8 (List.replicate n 0)) 5) :: (g, oC #[sB X, iN u] 73) :: ([] : Blks))) (by kernel_rfl) (fun _ => by kernel_rfl) (⟨(make_ok (t := 63) (e := 5) (p := (.tmp 16)) (q := (.tmp 16)) (by kernel_rfl) rfl rfl Tryd.underlying63 (by kernel_rfl) (by have := hn; omega)), fun bo => fun ac3 wd3 FF3 MM3 => then_n ?_⟩))
  refine wp_mid (fun a' w' => Fr 42 a' [(5, .slice (some ⟨bo, 0, none⟩) n n), (4, sB []), (0, pT g), (1, iN n)] ∧ MemS (fun k => k < w0.heap.size ∧ ∀ x ∈ (g, oC #[sB X, iN u] 73) :: ([] : Blks), x.1 ≠ k) w0 w' ((bo, .cells (cn .u8 (takN n X)) 5) :: (g, oC #[sB (X.drop n), iN u] 73) :: ([] : Blks)) []) ?_ ?_
  · skip
    refine draw_open (N := 15) (by kernel_rfl) (by kernel_rfl) MM3 fun wq4 (MM5 : MemS (fun k => k < w0.heap.size ∧ ∀ x ∈ (g, oC #[sB X, iN u] 73) :: ([] : Blks), x.1 ≠ k) w0 wq4 ((bo, .cells (cn .u8 (List.replicate n 0)) 5) :: (g, oC #[sB X, iN u] 73) :: ([] : Blks)) []) => ?_
    refine take_op FF3 (i := 0) (oi := (opAt Tryd.f11 4 0)) (v := (pT g)) (d := 18) (by kernel_rfl) (by kernel_rfl) (by kernel_rfl) (by kernel_rfl) (fun _ _ _ _ _ h => h) (by kernel_rfl) (by decide) (by kernel_rfl) (mvV (x := (.tmp 0)) (by kernel_rfl) rfl) fun ac6 FF6 => ?_
    refine take_op FF6 (i := 1) (oi := (opAt Tryd.f11 4 1)) (v := (pT g)) (d := 19) (by kernel_rfl) (by kernel_rfl) (by kernel_rfl) (by kernel_rfl) (fun _ _ _ _ _ h => h) (by kernel_rfl) (by decide) (by kernel_rfl) (mvV (x := (.tmp 0)) (by kernel_rfl) rfl) fun ac7 FF7 => ?_
    refine take_op FF7 (i := 2) (oi := (opAt Tryd.f11 4 2)) (v := (pT g)) (d := 20) (by kernel_rfl) (by kernel_rfl) (by kernel_rfl) (by kernel_rfl) (fun _ _ _ _ _ h => h) (by kernel_rfl) (by decide) (by kernel_rfl) (nilV (x := (.tmp 19)) (by kernel_rfl) rfl) fun ac8 FF8 => ?_
    refine take_op FF8 (i := 3) (oi := (opAt Tryd.f11 4 3)) (v := (pT g)) (d := 21) (by kernel_rfl) (by kernel_rfl) (by kernel_rfl) (by kernel_rfl) (fun _ _ _ _ _ h => h) (by kernel_rfl) (by decide) (by kernel_rfl) (fldV (x := (.tmp 20)) (t := 73) (k := 0) (cs := []) (by kernel_rfl) rfl (by kernel_rfl)) fun ac9 FF9 => ?_
    refine take_op FF9 (i := 5) (oi := (opAt Tryd.f11 4 5)) (v := (.slice (some ⟨bo, 0, none⟩) n n)) (d := 23) (by kernel_rfl) (by kernel_rfl) (by kernel_rfl) (by kernel_rfl) (fun _ _ _ _ _ h => h) (by kernel_rfl) (by decide) (by kernel_rfl) (mvV (x := (.tmp 5)) (by kernel_rfl) rfl) fun ac10 FF10 => ?_
    refine take_op FF10 (i := 6) (oi := (opAt Tryd.f11 4 6)) (v := (pT g)) (d := 24) (by kernel_rfl) (by kernel_rfl) (by kernel_rfl) (by kernel_rfl) (fun _ _ _ _ _ h => h) (by kernel_rfl) (by decide) (by kernel_rfl) (mvV (x := (.tmp 0)) (by kernel_rfl) rfl) fun ac11 FF11 => ?_
    refine take_op FF11 (i := 7) (oi := (opAt Tryd.f11 4 7)) (v := (pT g)) (d := 25) (by kernel_rfl) (by kernel_rfl) (by kernel_rfl) (by kernel_rfl) (fun _ _ _ _ _ h => h) (by kernel_rfl) (by decide) (by kernel_rfl) (nilV (x := (.tmp 24)) (by kernel_rfl) rfl) fun ac12 FF12 => ?_
    refine take_op FF12 (i := 8) (oi := (opAt Tryd.f11 4 8)) (v := (pT g)) (d := 26) (by kernel_rfl) (by kernel_rfl) (by kernel_rfl) (by kernel_rfl) (fun _ _ _ _ _ h => h) (by kernel_rfl) (by decide) (by kernel_rfl) (fldV (x := (.tmp 25)) (t := 73) (k := 0) (cs := []) (by kernel_rfl) rfl (by kernel_rfl)) fun ac13 FF13 => ?_
    refine any_two (i := 4) (oi := (opAt Tryd.f11 4 4)) (j := 9) (oj := (opAt Tryd.f11 4 9)) (by kernel_rfl) (by kernel_rfl) (by kernel_rfl) ?_ ?_
    · skip
      refine rg_part 1 FF13 MM5 [l_ 1 (sB X)] [26, 23, 18, 5, 4, 0, 1, 22] (fun Kt => g = g ∧ (#[sB X, iN u] : Array Value)[0]? = some (sB X) ∧ Kt [(22, sB X), (26, pT g), (23, .slice (some ⟨bo, 0, none⟩) n n), (18, pT g), (5, .slice (some ⟨bo, 0, none⟩) n n), (4, sB []), (0, pT g), (1, iN n)] ((bo, .cells (cn .u8 (List.replicate n 0)) 5) :: (g, oC #[sB X, iN u] 73) :: ([] : Blks))) (by kernel_rfl) (fun _ => by kernel_rfl) (⟨rfl, rfl, fun ac14 wd14 FF14 MM14 => ?_⟩)
      refine wpl_nil (onN_n ?_)
      refine any_one (i := 9) (o := (opAt Tryd.f11 4 9)) (by kernel_rfl) (by kernel_rfl) ?_
      refine rg_part 1 FF14 MM14 [l_ 1 (sB X)] [22, 23, 18, 5, 4, 0, 1, 27] (fun Kt => g = g ∧ (#[sB X, iN u] : Array Value)[0]? = some (sB X) ∧ Kt [(27, sB X), (22, sB X), (23, .slice (some ⟨bo, 0, none⟩) n n), (18, pT g), (5, .slice (some ⟨bo, 0, none⟩) n n), (4, sB []), (0, pT g), (1, iN n)] ((bo, .cells (cn .u8 (List.replicate n 0)) 5) :: (g, oC #[sB X, iN u] 73) :: ([] : Blks))) (by kernel_rfl) (fun _ => by kernel_rfl) (⟨rfl, rfl, fun ac15 wd15 FF15 MM15 => ?_⟩)
      refine wpl_nil (onN_n ?_)
      refine any_one (i := 10) (o := (opAt Tryd.f11 4 10)) (by kernel_rfl) (by kernel_rfl) ?_
      refine rg_part 1 FF15 MM15 [r_ (iN (min X.length n)) [(0, .cells (cn .u8 (takN n X)) 5)]] [22, 18, 5, 4, 0, 1, 28] (fun Kt => RunU Tryd.prog [(27, sB X), (22, sB X), (23, .slice (some ⟨bo, 0, none⟩) n n), (18, pT g), (5, .slice (some ⟨bo, 0, none⟩) n n), (4, sB []), (0, pT g), (1, iN n)] ((bo, .cells (cn .u8 (List.replicate n 0)) 5) :: (g, oC #[sB X, iN u] 73) :: ([] : Blks)) (opAt Tryd.f11 4 10) (iN (min X.length n)) [(0, .cells (cn .u8 (takN n X)) 5)] ∧ Kt [(28, iN (min X.length n)), (22, sB X), (18, pT g), (5, .slice (some ⟨bo, 0, none⟩) n n), (4, sB []), (0, pT g), (1, iN n)] ((bo, .cells (cn .u8 (takN n X)) 5) :: (g, oC #[sB X, iN u] 73) :: ([] : Blks))) (by kernel_rfl) (fun _ => by kernel_rfl) (⟨(copyStr_ok (p := .tmp 23) (q := .tmp 27) (t := 63) (tq := 9) (e := 5) (T := 5) (off := 0) (len := n) (X := X) (cs := cn .u8 (List.replicate n 0)) (i := 0) (by kernel_rfl) rfl rfl hX Tryd.underlying63 (by kernel_rfl) rfl (by rw [cn_size, List.length_replicate, Nat.zero_add]; exact Nat.le_refl _) (tak_cells n X)), fun ac16 wd16 FF16 MM16 => ?_⟩)
      refine wpl_nil (onN_n ?_)
      refine any_one (i := 11) (o := (opAt Tryd.f11 4 11)) (by kernel_rfl) (by kernel_rfl) ?_
      refine rg_part 1 FF16 MM16 [t_ (sB (X.drop n))] [18, 5, 4, 0, 1, 29] (fun Kt => (min X.length n) ≤ (bs X).size ∧ 0 ≤ (bs X).size ∧ Value.string ((bs X).extract (min X.length n) (bs X).size) = sB (X.drop n) ∧ Kt [(29, sB (X.drop n)), (18, pT g), (5, .slice (some ⟨bo, 0, none⟩) n n), (4, sB []), (0, pT g), (1, iN n)] ((bo, .cells (cn .u8 (takN n X)) 5) :: (g, oC #[sB X, iN u] 73) :: ([] : Blks))) (by kernel_rfl) (fun _ => by kernel_rfl) (⟨(by simp only [bs_size]; omega), (Nat.zero_le _), (vS2 ((bs_from _ _).trans (congrArg bs (dropX_min X n)))), fun ac17 wd17 FF17 MM17 => ?_⟩)
      refine wpl_nil (onN_n ?_)
      refine take_op FF17 (i := 12) (oi := (opAt Tryd.f11 4 12)) (v := (pT g)) (d := 30) (by kernel_rfl) (by kernel_rfl) (by kernel_rfl) (by kernel_rfl) (fun _ _ _ _ _ h => h) (by kernel_rfl) (by decide) (by kernel_rfl) (nilV (x := (.tmp 18)) (by kernel_rfl) rfl) fun ac18 FF18 => ?_
      refine take_op FF18 (i := 13) (oi := (opAt Tryd.f11 4 13)) (v := (pT g)) (d := 31) (by kernel_rfl) (by kernel_rfl) (by kernel_rfl) (by kernel_rfl) (fun _ _ _ _ _ h => h) (by kernel_rfl) (by decide) (by kernel_rfl) (fldV (x := (.tmp 30)) (t := 73) (k := 0) (cs := []) (by kernel_rfl) rfl (by kernel_rfl)) fun ac19 FF19 => ?_
      refine any_one (i := 14) (o := (opAt Tryd.f11 4 14)) (by kernel_rfl) (by kernel_rfl) ?_
      refine rg_part 1 FF19 MM17 [s_ 1 (oC #[sB (X.drop n), iN u] 73)] [5, 4, 0, 1] (fun Kt => g = g ∧ 0 < (#[sB X, iN u] : Array Value).size ∧ (((0, 0)).2 = 0 ∨ 0 < ((0, 0)).1) ∧ (#[sB X, iN u] : Array Value).setIfInBounds 0 (sB (X.drop n)) = #[sB (X.drop n), iN u] ∧ Kt [(5, .slice (some ⟨bo, 0, none⟩) n n), (4, sB []), (0, pT g), (1, iN n)] ((bo, .cells (cn .u8 (takN n X)) 5) :: (g, oC #[sB (X.drop n), iN u] 73) :: ([] : Blks))) (by kernel_rfl) (fun _ => by kernel_rfl) (⟨rfl, (by simp), (.inl rfl), rfl, fun ac20 wd20 FF20 MM20 => ?_⟩)
      refine wpl_nil (onN_n ?_)
      refine any_none (by kernel_rfl) (then_n ?_)
      exact ⟨FF20.pick [0, 1, 2, 3], MM20⟩
    · skip
      refine rg_part 1 FF13 MM5 [l_ 1 (sB X)] [23, 21, 18, 5, 4, 0, 1, 27] (fun Kt => g = g ∧ (#[sB X, iN u] : Array Value)[0]? = some (sB X) ∧ Kt [(27, sB X), (23, .slice (some ⟨bo, 0, none⟩) n n), (21, pT g), (18, pT g), (5, .slice (some ⟨bo, 0, none⟩) n n), (4, sB []), (0, pT g), (1, iN n)] ((bo, .cells (cn .u8 (List.replicate n 0)) 5) :: (g, oC #[sB X, iN u] 73) :: ([] : Blks))) (by kernel_rfl) (fun _ => by kernel_rfl) (⟨rfl, rfl, fun ac21 wd21 FF21 MM21 => ?_⟩)
      refine wpl_nil (onN_n ?_)
      refine any_two (i := 4) (oi := (opAt Tryd.f11 4 4)) (j := 10) (oj := (opAt Tryd.f11 4 10)) (by kernel_rfl) (by kernel_rfl) (by kernel_rfl) ?_ ?_
      · skip
        refine rg_part 1 FF21 MM21 [l_ 1 (sB X)] [27, 23, 18, 5, 4, 0, 1, 22] (fun Kt => g = g ∧ (#[sB X, iN u] : Array Value)[0]? = some (sB X) ∧ Kt [(22, sB X), (27, sB X), (23, .slice (some ⟨bo, 0, none⟩) n n), (18, pT g), (5, .slice (some ⟨bo, 0, none⟩) n n), (4, sB []), (0, pT g), (1, iN n)] ((bo, .cells (cn .u8 (List.replicate n 0)) 5) :: (g, oC #[sB X, iN u] 73) :: ([] : Blks))) (by kernel_rfl) (fun _ => by kernel_rfl) (⟨rfl, rfl, fun ac22 wd22 FF22 MM22 => ?_⟩)
        refine wpl_nil (onN_n ?_)
        refine any_one (i := 10) (o := (opAt Tryd.f11 4 10)) (by kernel_rfl) (by kernel_rfl) ?_
        refine rg_part 1 FF22 MM22 [r_ (iN (min X.length n)) [(0, .cells (cn .u8 (takN n X)) 5)]] [22, 18, 5, 4, 0, 1, 28] (fun Kt => RunU Tryd.prog [(22, sB X), (27, sB X), (23, .slice (some ⟨bo, 0, none⟩) n n), (18, pT g), (5, .slice (some ⟨bo, 0, none⟩) n n), (4, sB []), (0, pT g), (1, iN n)] ((bo, .cells (cn .u8 (List.replicate n 0)) 5) :: (g, oC #[sB X, iN u] 73) :: ([] : Blks)) (opAt Tryd.f11 4 10) (iN (min X.length n)) [(0, .cells (cn .u8 (takN n X)) 5)] ∧ Kt [(28, iN (min X.length n)), (22, sB X), (18, pT g), (5, .slice (some ⟨bo, 0, none⟩) n n), (4, sB []), (0, pT g), (1, iN n)] ((bo, .cells (cn .u8 (takN n X)) 5) :: (g, oC #[sB X, iN u] 73) :: ([] : Blks))) (by kernel_rfl) (fun _ => by kernel_rfl) (⟨(copyStr_ok (p := .tmp 23) (q := .tmp 27) (t := 63) (tq := 9) (e := 5) (T := 5) (off := 0) (len := n) (X := X) (cs := cn .u8 (List.replicate n 0)) (i := 0) (by kernel_rfl) rfl rfl hX Tryd.underlying63 (by kernel_rfl) rfl (by rw [cn_size, List.length_replicate, Nat.zero_add]; exact Nat.le_refl _) (tak_cells n X)), fun ac23 wd23 FF23 MM23 => ?_⟩)
        refine wpl_nil (onN_n ?_)
        refine any_one (i := 11) (o := (opAt Tryd.f11 4 11)) (by kernel_rfl) (by kernel_rfl) ?_
        refine rg_part 1 FF23 MM23 [t_ (sB (X.drop n))] [18, 5, 4, 0, 1, 29] (fun Kt => (min X.length n) ≤ (bs X).size ∧ 0 ≤ (bs X).size ∧ Value.string ((bs X).extract (min X.length n) (bs X).size) = sB (X.drop n) ∧ Kt [(29, sB (X.drop n)), (18, pT g), (5, .slice (some ⟨bo, 0, none⟩) n n), (4, sB []), (0, pT g), (1, iN n)] ((bo, .cells (cn .u8 (takN n X)) 5) :: (g, oC #[sB X, iN u] 73) :: ([] : Blks))) (by kernel_rfl) (fun _ => by kernel_rfl) (⟨(by simp only [bs_size]; omega), (Nat.zero_le _), (vS2 ((bs_from _ _).trans (congrArg bs (dropX_min X n)))), fun ac24 wd24 FF24 MM24 => ?_⟩)
        refine wpl_nil (onN_n ?_)
        refine take_op FF24 (i := 12) (oi := (opAt Tryd.f11 4 12)) (v := (pT g)) (d := 30) (by kernel_rfl) (by kernel_rfl) (by kernel_rfl) (by kernel_rfl) (fun _ _ _ _ _ h => h) (by kernel_rfl) (by decide) (by kernel_rfl) (nilV (x := (.tmp 18)) (by kernel_rfl) rfl) fun ac25 FF25 => ?_
        refine take_op FF25 (i := 13) (oi := (opAt Tryd.f11 4 13)) (v := (pT g)) (d := 31) (by kernel_rfl) (by kernel_rfl) (by kernel_rfl) (by kernel_rfl) (fun _ _ _ _ _ h => h) (by kernel_rfl) (by decide) (by kernel_rfl) (fldV (x := (.tmp 30)) (t := 73) (k := 0) (cs := []) (by kernel_rfl) rfl (by kernel_rfl)) fun ac26 FF26 => ?_
        refine any_one (i := 14) (o := (opAt Tryd.f11 4 14)) (by kernel_rfl) (by kernel_rfl) ?_
        refine rg_part 1 FF26 MM24 [s_ 1 (oC #[sB (X.drop n), iN u] 73)] [5, 4, 0, 1] (fun Kt => g = g ∧ 0 < (#[sB X, iN u] : Array Value).size ∧ (((0, 0)).2 = 0 ∨ 0 < ((0, 0)).1) ∧ (#[sB X, iN u] : Array Value).setIfInBounds 0 (sB (X.drop n)) = #[sB (X.drop n), iN u] ∧ Kt [(5, .slice (some ⟨bo, 0, none⟩) n n), (4, sB []), (0, pT g), (1, iN n)] ((bo, .cells (cn .u8 (takN n X)) 5) :: (g, oC #[sB (X.drop n), iN u] 73) :: ([] : Blks))) (by kernel_rfl) (fun _ => by kernel_rfl) (⟨rfl, (by simp), (.inl rfl), rfl, fun ac27 wd27 FF27 MM27 => ?_⟩)
        refine wpl_nil (onN_n ?_)
        refine any_none (by kernel_rfl) (then_n ?_)
        exact ⟨FF27.pick [0, 1, 2, 3], MM27⟩
      · skip
        refine rg_part 1 FF21 MM21 [r_ (iN (min X.length n)) [(0, .cells (cn .u8 (takN n X)) 5)]] [21, 18, 5, 4, 0, 1, 28] (fun Kt => RunU Tryd.prog [(27, sB X), (23, .slice (some ⟨bo, 0, none⟩) n n), (21, pT g), (18, pT g), (5, .slice (some ⟨bo, 0, none⟩) n n), (4, sB []), (0, pT g), (1, iN n)] ((bo, .cells (cn .u8 (List.replicate n 0)) 5) :: (g, oC #[sB X, iN u] 73) :: ([] : Blks)) (opAt Tryd.f11 4 10) (iN (min X.length n)) [(0, .cells (cn .u8 (takN n X)) 5)] ∧ Kt [(28, iN (min X.length n)), (21, pT g), (18, pT g), (5, .slice (some ⟨bo, 0, none⟩) n n), (4, sB []), (0, pT g), (1, iN n)] ((bo, .cells (cn .u8 (takN n X)) 5) :: (g, oC #[sB X, iN u] 73) :: ([] : Blks))) (by kernel_rfl) (fun _ => by kernel_rfl) (⟨(copyStr_ok (p := .tmp 23) (q := .tmp 27) (t := 63) (tq := 9) (e := 5) (T := 5) (off := 0) (len := n) (X := X) (cs := cn .u8 (List.replicate n 0)) (i := 0) (by kernel_rfl) rfl rfl hX Tryd.underlying63 (by kernel_rfl) rfl (by rw [cn_size, List.length_replicate, Nat.zero_add]; exact Nat.le_refl _) (tak_cells n X)), fun ac28 wd28 FF28 MM28 => ?_⟩)
        refine wpl_nil (onN_n ?_)
        refine any_one (i := 4) (o := (opAt Tryd.f11 4 4)) (by kernel_rfl) (by kernel_rfl) ?_
        refine rg_part 1 FF28 MM28 [l_ 1 (sB X)] [28, 18, 5, 4, 0, 1, 22] (fun Kt => g = g ∧ (#[sB X, iN u] : Array Value)[0]? = some (sB X) ∧ Kt [(22, sB X), (28, iN (min X.length n)), (18, pT g), (5, .slice (some ⟨bo, 0, none⟩) n n), (4, sB []), (0, pT g), (1, iN n)] ((bo, .cells (cn .u8 (takN n X)) 5) :: (g, oC #[sB X, iN u] 73) :: ([] : Blks))) (by kernel_rfl) (fun _ => by kernel_rfl) (⟨rfl, rfl, fun ac29 wd29 FF29 MM29 => ?_⟩)
        refine wpl_nil (onN_n ?_)
        refine any_one (i := 11) (o := (opAt Tryd.f11 4 11)) (by kernel_rfl) (by kernel_rfl) ?_
        refine rg_part 1 FF29 MM29 [t_ (sB (X.drop n))] [18, 5, 4, 0, 1, 29] (fun Kt => (min X.length n) ≤ (bs X).size ∧ 0 ≤ (bs X).size ∧ Value.string ((bs X).extract (min X.length n) (bs X).size) = sB (X.drop n) ∧ Kt [(29, sB (X.drop n)), (18, pT g), (5, .slice (some ⟨bo, 0, none⟩) n n), (4, sB []), (0, pT g), (1, iN n)] ((bo, .cells (cn .u8 (takN n X)) 5) :: (g, oC #[sB X, iN u] 73) :: ([] : Blks))) (by kernel_rfl) (fun _ => by kernel_rfl) (⟨(by simp only [bs_size]; omega), (Nat.zero_le _), (vS2 ((bs_from _ _).trans (congrArg bs (dropX_min X n)))), fun ac30 wd30 FF30 MM30 => ?_⟩)
        refine wpl_nil (onN_n ?_)
        refine take_op FF30 (i := 12) (oi := (opAt Tryd.f11 4 12)) (v := (pT g)) (d := 30) (by kernel_rfl) (by kernel_rfl) (by kernel_rfl) (by kernel_rfl) (fun _ _ _ _ _ h => h) (by kernel_rfl) (by decide) (by kernel_rfl) (nilV (x := (.tmp 18)) (by kernel_rfl) rfl) fun ac31 FF31 => ?_
        refine take_op FF31 (i := 13) (oi := (opAt Tryd.f11 4 13)) (v := (pT g)) (d := 31) (by kernel_rfl) (by kernel_rfl) (by kernel_rfl) (by kernel_rfl) (fun _ _ _ _ _ h => h) (by kernel_rfl) (by decide) (by kernel_rfl) (fldV (x := (.tmp 30)) (t := 73) (k := 0) (cs := []) (by kernel_rfl) rfl (by kernel_rfl)) fun ac32 FF32 => ?_
        refine any_one (i := 14) (o := (opAt Tryd.f11 4 14)) (by kernel_rfl) (by kernel_rfl) ?_
        refine rg_part 1 FF32 MM30 [s_ 1 (oC #[sB (X.drop n), iN u] 73)] [5, 4, 0, 1] (fun Kt => g = g ∧ 0 < (#[sB X, iN u] : Array Value).size ∧ (((0, 0)).2 = 0 ∨ 0 < ((0, 0)).1) ∧ (#[sB X, iN u] : Array Value).setIfInBounds 0 (sB (X.drop n)) = #[sB (X.drop n), iN u] ∧ Kt [(5, .slice (some ⟨bo, 0, none⟩) n n), (4, sB []), (0, pT g), (1, iN n)] ((bo, .cells (cn .u8 (takN n X)) 5) :: (g, oC #[sB (X.drop n), iN u] 73) :: ([] : Blks))) (by kernel_rfl) (fun _ => by kernel_rfl) (⟨rfl, (by simp), (.inl rfl), rfl, fun ac33 wd33 FF33 MM33 => ?_⟩)
        refine wpl_nil (onN_n ?_)
        refine any_none (by kernel_rfl) (then_n ?_)
        exact ⟨FF33.pick [0, 1, 2, 3], MM33⟩
  · rintro ac34 wd34 ⟨FF34, MM34⟩
    refine wp_seq (rg_seq FF34 MM34 [o_, o_, o_, l_ 1 (iN u), o_, o_, o_, o_, s_ 1 (oC #[sB (X.drop n), iN (u + n)] 73)] [5, 4, 0, 1] (fun Kt => g = g ∧ (#[sB (X.drop n), iN u] : Array Value)[1]? = some (iN u) ∧ u + n < 9223372036854775808 ∧ g = g ∧ 1 < (#[sB (X.drop n), iN u] : Array Value).size ∧ (((0, 0)).2 = 0 ∨ 1 < ((0, 0)).1) ∧ (#[sB (X.drop n), iN u] : Array Value).setIfInBounds 1 (iN (u + n)) = #[sB (X.drop n), iN (u + n)] ∧ Kt [(5, .slice (some ⟨bo, 0, none⟩) n n), (4, sB []), (0, pT g), (1, iN n)] ((bo, .cells (cn .u8 (takN n X)) 5) :: (g, oC #[sB (X.drop n), iN (u + n)] 73) :: ([] : Blks))) (by kernel_rfl) (fun _ => by kernel_rfl) (⟨rfl, rfl, (by have := hn; omega), rfl, (by simp), (.inl rfl), rfl, fun ac35 wd35 FF35 MM35 => then_n ?_⟩))
    refine wp_seq (rg_seq FF35 MM35 [o_, l_ 0 (sB (takN n X)), o_] [5, 4, 0, 1] (fun Kt => bo = bo ∧ StrAt (cn .u8 (takN n X)) 0 n (bs (takN n X)) ∧ Kt [(4, sB (takN n X)), (5, .slice (some ⟨bo, 0, none⟩) n n), (0, pT g), (1, iN n)] ((bo, .cells (cn .u8 (takN n X)) 5) :: (g, oC #[sB (X.drop n), iN (u + n)] 73) :: ([] : Blks))) (by kernel_rfl) (fun _ => by kernel_rfl) (⟨rfl, (str_all (takN_len _ _) (takN_lt hX n)), fun ac36 wd36 FF36 MM36 => then_n ?_⟩))
    refine wp_ret ?_
    repeat first | refine then_ret ?_ | refine inb_ret ?_
    exact (ret_fr FF36 0 Tryd.results11 rfl ⟨rfl, MM36.turn (O := []) (fun i x hx => by simp at hx) 1 rfl (fun x hx => (nomatch hx))⟩)
set_option maxRecDepth 100000 in
theorem tused_T (g : Nat) (X : List Nat) (u : Nat) (w0 : World) (hg : w0.heap[g]? = some (TB X u)) :
    Calls Tryd.prog 24 #[pT g] w0 fun e w' => e = .returned (iN u) ∧ Turn g (TB X u) w0 w' := by
  refine enter_fr Tryd.func24 rfl Tryd.ntmps24 (by simp) fun ac (FF : Fr 9 ac [(0, pT g)]) => ?_
  have MM : MemS (fun k => k < w0.heap.size ∧ ∀ x ∈ (g, oC #[sB X, iN u] 73) :: ([] : Blks), x.1 ≠ k) w0 w0 ((g, oC #[sB X, iN u] 73) :: ([] : Blks)) [] := MemS.startN (one_has hg) ⟨fun y hy => (nomatch hy), trivial⟩
  refine wp_seq (rg_seq FF MM [o_] [0, 2] (fun Kt => Kt [(2, iN 0), (0, pT g)] ((g, oC #[sB X, iN u] 73) :: ([] : Blks))) (by kernel_rfl) (fun _ => by kernel_rfl) (fun ac1 wd1 FF1 MM1 => then_n ?_))
  refine wp_seq ?_
  refine wp_seq (rg_seq FF1 MM1 [o_, f_ (.bool false)] [2, 0, 4] (fun Kt => RunV Tryd.prog [(3, pT g), (2, iN 0), (0, pT g)] ((g, oC #[sB X, iN u] 73) :: ([] : Blks)) (opAt Tryd.f24 1 1) (.bool false) ∧ Kt [(4, .bool false), (2, iN 0), (0, pT g)] ((g, oC #[sB X, iN u] 73) :: ([] : Blks))) (by kernel_rfl) (fun _ => by kernel_rfl) (⟨(ptrSome_ok (t := 25) (t' := 25) (x := (.tmp 3)) (y := (.const (.pointer none))) (by kernel_rfl) rfl rfl Tryd.underlying25), fun ac2 wd2 FF2 MM2 => then_n ?_⟩))
  refine wp_cond_false (FF2.ev 0 rfl) ?_
  refine wp_skip ?_
  refine then_n ?_
  refine wp_seq (rg_seq FF2 MM2 [o_, o_, o_, l_ 0 (iN u), o_] [2, 0] (fun Kt => g = g ∧ (#[sB X, iN u] : Array Value)[1]? = some (iN u) ∧ Kt [(2, iN u), (0, pT g)] ((g, oC #[sB X, iN u] 73) :: ([] : Blks))) (by kernel_rfl) (fun _ => by kernel_rfl) (⟨rfl, rfl, fun ac3 wd3 FF3 MM3 => then_n ?_⟩))
  refine wp_ret ?_
  repeat first | refine then_ret ?_ | refine inb_ret ?_
  exact (ret_fr FF3 0 Tryd.results24 rfl ⟨rfl, MM3.turn (O := []) (fun i x hx => by simp at hx) 0 rfl (fun x hx => (nomatch hx))⟩)
theorem turn_below {w w' : World} {g : Nat} {ob : Obj} (hg : w.heap[g]? = some ob) (t : Turn g ob w w') : Below w.heap.size w w' := ⟨t.os, t.tape, t.output, t.size, fun k hk => by
  by_cases e : k = g
  · subst e; exact t.now.trans hg.symm
  · exact t.block k hk e⟩
theorem tused_any (g : Nat) (X : List Nat) (u : Nat) (w : World) (hg : w.heap[g]? = some (TB X u)) : Calls Tryd.prog 24 #[pT g] w fun e w' => e = .returned (iN u) ∧ Below w.heap.size w w' := (tused_T g X u w hg).mono fun _ _ ⟨h1, h2⟩ => ⟨h1, turn_below hg h2⟩
end Go.Proofs.YtdeiodcfblldgaaDoor
namespace Go.Proofs.YtdeiodcfblldgaaDoor
open Go.RowKit
/-- A tape that was made. -/
def NewT (X : List Nat) (w w' : World) (v : Value) : Prop := ∃ g, v = pT g ∧ Below w.heap.size w w' ∧ w.heap.size ≤ g ∧ w'.heap[g]? = some (TB X 0)
set_option maxRecDepth 100000 in
theorem tnew_any (X : List Nat) (w0 : World) : Calls Tryd.prog 10 #[sB X] w0 fun e w' => ∃ v, e = .returned v ∧ NewT X w0 w' v := by
  refine enter_fr Tryd.func10 rfl Tryd.ntmps10 (by simp) fun ac (FF : Fr 6 ac [(0, sB X)]) => ?_
  have MM := MemS.start w0
  refine wp_seq (rg_seq FF MM [o_] [0, 2] (fun Kt => Kt [(2, .pointer none), (0, sB X)] []) (by kernel_rfl) (fun _ => by kernel_rfl) (fun ac1 wd1 FF1 MM1 => then_n ?_))
  refine wp_seq (rg_seq FF1 MM1 [o_, o_, o_, o_] [2] (fun Kt => ∀ bt, Kt [(2, pT bt)] [(bt, oC #[sB X, iN 0] 73)]) (by kernel_rfl) (fun _ => by kernel_rfl) (fun bt => fun ac2 wd2 FF2 MM2 => then_n ?_))
  refine wp_ret ?_
  repeat first | refine then_ret ?_ | refine inb_ret ?_
  exact (ret_fr FF2 0 Tryd.results10 rfl ⟨_, rfl, bt, rfl, MM2.below, MM2.fresh 0 rfl, MM2.get 0 rfl⟩)
set_option maxRecDepth 100000 in
theorem maybe_yes (k : Nat) (h1 : k ≥ 1) (hk : k ≤ 16) (w0 : World) :
    Calls Tryd.prog 30 #[iN k] w0 fun e w' => e = .returned (.bool true) ∧ Below w0.heap.size w0 w' := by
  refine enter_fr Tryd.func30 rfl Tryd.ntmps30 (by simp) fun ac (FF : Fr 9 ac [(0, iN k)]) => ?_
  have MM := MemS.start w0
  refine wp_seq (rg_seq FF MM [o_] [0, 2] (fun Kt => Kt [(2, .bool false), (0, iN k)] []) (by kernel_rfl) (fun _ => by kernel_rfl) (fun ac1 wd1 FF1 MM1 => then_n ?_))
  refine wp_seq (rg_seq FF1 MM1 [o_, w_ 2, o_, o_, w_ 2, o_, o_] [2] (fun Kt => k ≥ 1 ∧ k ≤ 16 ∧ Kt [(2, .bool true)] []) (by kernel_rfl) (fun _ => by kernel_rfl) (⟨h1, hk, fun ac2 wd2 FF2 MM2 => then_n ?_⟩))
  refine wp_ret ?_
  repeat first | refine then_ret ?_ | refine inb_ret ?_
  exact (ret_fr FF2 0 Tryd.results30 rfl ⟨rfl, MM2.below⟩)
set_option maxRecDepth 100000 in
theorem pair_any (g : Nat) (X : List Nat) (u : Nat) (hX : ∀ i, X.getD i 0 < 256) (hu : u < 4611686018427387904)  (w0 : World) (hg : w0.heap[g]? = some (TB X u)) :
    Calls Tryd.prog 31 #[pT g] w0 fun e w' => e = .returned (iN (twoN X)) ∧ Turn g (TB (X.drop 2) (u + 2)) w0 w' := by
  refine enter_fr Tryd.func31 rfl Tryd.ntmps31 (by simp) fun ac (FF : Fr 14 ac [(0, pT g)]) => ?_
  have MM : MemS (fun k => k < w0.heap.size ∧ ∀ x ∈ (g, oC #[sB X, iN u] 73) :: ([] : Blks), x.1 ≠ k) w0 w0 ((g, oC #[sB X, iN u] 73) :: ([] : Blks)) [] := MemS.startN (one_has hg) ⟨fun y hy => (nomatch hy), trivial⟩
  refine wp_seq (rg_seq FF MM [o_] [0, 2] (fun Kt => Kt [(2, iN 0), (0, pT g)] ((g, oC #[sB X, iN u] 73) :: ([] : Blks))) (by kernel_rfl) (fun _ => by kernel_rfl) (fun ac1 wd1 FF1 MM1 => then_n ?_))
  refine wp_seq (rg_seq FF1 MM1 [o_, c_ (sB (takN 2 X)) [(0, oC #[sB (X.drop 2), iN (u + 2)] 73)], o_] [2, 3] (fun Kt => CallU Tryd.prog 11 [pT g, iN 2] ((g, oC #[sB X, iN u] 73) :: ([] : Blks)) (sB (takN 2 X)) [(0, oC #[sB (X.drop 2), iN (u + 2)] 73)] ∧ Kt [(3, sB (takN 2 X)), (2, iN 0)] ((g, oC #[sB (X.drop 2), iN (u + 2)] 73) :: ([] : Blks))) (by kernel_rfl) (fun _ => by kernel_rfl) (⟨(callU_turn en_take (g := g) (ob := TB X u) rfl fun w hg => by have h0 := take_any g 2 X u hX (by omega) (by decide) w hg; exact h0), fun ac2 wd2 FF2 MM2 => then_n ?_⟩))
  have h20 := takN_lt hX 2 0
  have h21 := takN_lt hX 2 1
  refine wp_seq (rg_draw FF2 MM2 [.inl (sB (takN 2 X)), .inl (iB ((takN 2 X).getD 0 0)), .inl (iN ((takN 2 X).getD 0 0)), .inl (sB (takN 2 X)), .inl (iB ((takN 2 X).getD 1 0)), .inl (iN ((takN 2 X).getD 1 0)), .inl (iN (((takN 2 X).getD 1 0) * 256)), .inl (iN (twoN X)), .inl (iN (twoN X))] [] [o_, t_ (iB ((takN 2 X).getD 0 0)), w_ 1, o_, t_ (iB ((takN 2 X).getD 1 0)), w_ 1, o_, t_ (iN (twoN X)), o_] [] [2] (fun nb => [0 < (bs (takN 2 X)).size, (nl (bs (takN 2 X))).getD 0 0 = (takN 2 X).getD 0 0, ((takN 2 X).getD 0 0) < 9223372036854775808, 1 < (bs (takN 2 X)).size, (nl (bs (takN 2 X))).getD 1 0 = (takN 2 X).getD 1 0, ((takN 2 X).getD 1 0) < 9223372036854775808, ((takN 2 X).getD 1 0) * 256 < 9223372036854775808, 8 ≤ 64, ((takN 2 X).getD 0 0) < 9223372036854775808, (((takN 2 X).getD 1 0) * 256) < 9223372036854775808, iN (((takN 2 X).getD 0 0) ||| (((takN 2 X).getD 1 0) * 256)) = iN (twoN X)]) (fun nb Kt => Kt [(2, iN (twoN X))] ((g, oC #[sB (X.drop 2), iN (u + 2)] 73) :: ([] : Blks))) (by kernel_rfl) (by kernel_rfl) (by kernel_rfl) (fun _ => by kernel_rfl) (fun _ _ => by kernel_rfl) trivial (fun nb => ⟨(by rw [bs_size, takN_len]; decide), (byte_bs (takN_lt hX 2) _), (by have := (takN_lt hX 2) 0; omega), (by rw [bs_size, takN_len]; decide), (byte_bs (takN_lt hX 2) _), (by have := (takN_lt hX 2) 1; omega), (by have := (takN_lt hX 2) 1; omega), (by decide), (by omega), (by omega), (vI (two_or hX)), trivial⟩) (fun nb => fun ac3 wd3 FF3 MM3 => then_n ?_))
  refine wp_ret ?_
  repeat first | refine then_ret ?_ | refine inb_ret ?_
  exact (ret_fr FF3 0 Tryd.results31 rfl ⟨rfl, MM3.turn (O := []) (fun i x hx => by simp at hx) 0 rfl (fun x hx => (nomatch hx))⟩)
set_option maxRecDepth 100000 in
theorem tbelow_any (g : Nat) (X : List Nat) (u : Nat) (hX : ∀ i, X.getD i 0 < 256) (hu : u < 4611686018427000000) (n k : Nat) (h1 : 1 ≤ n) (hn : n ≤ 65536) (hk1 : 1 ≤ k) (hk : k ≤ 16) (w0 : World) (hg : w0.heap[g]? = some (TB X u)) :
    Calls Tryd.prog 17 #[pT g, iN n, iN k] w0 fun e w' => e = .returned (.tuple #[iN ((belN n k X).1), iN ((belN n k X).2.1)]) ∧ Turn g (TB (X.drop (belN n k X).2.2) (u + (belN n k X).2.2)) w0 w' := by
  refine enter_fr Tryd.func17 rfl Tryd.ntmps17 (by simp) fun ac (FF : Fr 38 ac [(0, pT g), (1, iN n), (2, iN k)]) => ?_
  have MM : MemS (fun k => k < w0.heap.size ∧ ∀ x ∈ (g, oC #[sB X, iN u] 73) :: ([] : Blks), x.1 ≠ k) w0 w0 ((g, oC #[sB X, iN u] 73) :: ([] : Blks)) [] := MemS.startN (one_has hg) ⟨fun y hy => (nomatch hy), trivial⟩
  refine wp_seq (rg_seq FF MM [o_, o_] [0, 1, 2, 6, 7] (fun Kt => Kt [(7, iN 0), (6, iN 0), (0, pT g), (1, iN n), (2, iN k)] ((g, oC #[sB X, iN u] 73) :: ([] : Blks))) (by kernel_rfl) (fun _ => by kernel_rfl) (fun ac1 wd1 FF1 MM1 => then_n ?_))
  refine wp_seq ?_
  refine wp_seq (rg_seq FF1 MM1 [o_, f_ (.bool false), o_, o_, w_ 3, o_, o_, o_, w_ 3, o_, o_, o_, t_ (.bool true), o_, o_] [7, 6, 0, 1, 2, 23] (fun Kt => RunV Tryd.prog [(9, pT g), (7, iN 0), (6, iN 0), (0, pT g), (1, iN n), (2, iN k)] ((g, oC #[sB X, iN u] 73) :: ([] : Blks)) (opAt Tryd.f17 1 1) (.bool false) ∧ ¬ (n < 1) ∧ ¬ (n > 65536) ∧ CallP Tryd.prog 30 [iN k] [] (.bool true) ∧ Kt [(23, .bool false), (7, iN 0), (6, iN 0), (0, pT g), (1, iN n), (2, iN k)] ((g, oC #[sB X, iN u] 73) :: ([] : Blks))) (by kernel_rfl) (fun _ => by kernel_rfl) (⟨(ptrSome_ok (t := 25) (t' := 25) (x := (.tmp 9)) (y := (.const (.pointer none))) (by kernel_rfl) rfl rfl Tryd.underlying25), (by omega), (by omega), (callP_of en_maybe (maybe_yes k (by omega) (by omega)) _), fun ac2 wd2 FF2 MM2 => then_n ?_⟩))
  refine wp_cond_false (FF2.ev 0 rfl) ?_
  refine wp_skip ?_
  refine then_n ?_
  refine wp_seq ?_
  refine wp_seq (rg_seq FF2 MM2 [o_, o_] [7, 6, 0, 1, 2, 24, 25] (fun Kt => Kt [(25, iN 0), (24, iN k), (7, iN 0), (6, iN 0), (0, pT g), (1, iN n), (2, iN k)] ((g, oC #[sB X, iN u] 73) :: ([] : Blks))) (by kernel_rfl) (fun _ => by kernel_rfl) (fun ac3 wd3 FF3 MM3 => then_n ?_))
  refine wp_for (fun a' w' => ∃ i : Nat, i ≤ k ∧ BelI n k X i ∧ Fr 38 a' [(25, iN i), (24, iN k), (0, pT g), (1, iN n), (2, iN k)] ∧ MemS (fun k => k < w0.heap.size ∧ ∀ x ∈ (g, oC #[sB X, iN u] 73) :: ([] : Blks), x.1 ≠ k) w0 w' ((g, oC #[sB (X.drop (2 * i)), iN (u + 2 * i)] 73) :: ([] : Blks)) []) (fun a' _ => (k - cnt 25 a').toNat) ⟨0, Nat.zero_le _, bel_start _ _ _, FF3.pick [0, 1, 4, 5, 6], MM3⟩ ?_
  rintro ac4 wd4 ⟨i, hi, hb, FF4, MM4⟩
  have hc := cnt_of (FF4.get 0 rfl)
  refine rg_seq FF4 MM4 [o_] [25, 24, 0, 1, 2, 26] (fun Kt => Kt [(26, .bool (decide (i < k))), (25, iN i), (24, iN k), (0, pT g), (1, iN n), (2, iN k)] ((g, oC #[sB (X.drop (2 * i)), iN (u + 2 * i)] 73) :: ([] : Blks))) (by kernel_rfl) (fun _ => by kernel_rfl) (fun ac5 wd5 FF5 MM5 => ?_)
  by_cases hlt : i < k
  · skip
    refine then_n (.inl ⟨(FF5.ev 0 rfl).trans (dec_t hlt), ?_⟩)
    refine wp_seq (rg_seq FF5 MM5 [o_, c_ (iN (twoN (X.drop (2 * i)))) [(0, oC #[sB (X.drop (2 * (i + 1))), iN (u + 2 * (i + 1))] 73)], o_] [25, 24, 0, 1, 2, 8] (fun Kt => CallU Tryd.prog 31 [pT g] ((g, oC #[sB (X.drop (2 * i)), iN (u + 2 * i)] 73) :: ([] : Blks)) (iN (twoN (X.drop (2 * i)))) [(0, oC #[sB (X.drop (2 * (i + 1))), iN (u + 2 * (i + 1))] 73)] ∧ Kt [(8, iN (twoN (X.drop (2 * i)))), (25, iN i), (24, iN k), (0, pT g), (1, iN n), (2, iN k)] ((g, oC #[sB (X.drop (2 * (i + 1))), iN (u + 2 * (i + 1))] 73) :: ([] : Blks))) (by kernel_rfl) (fun _ => by kernel_rfl) (⟨(callU_turn en_pair (g := g) (ob := TB (X.drop (2 * i)) (u + 2 * i)) rfl fun w hg => by have h0 := pair_any g (X.drop (2 * i)) (u + 2 * i) (dropX_lt hX (2 * i)) (by omega) w hg; rw [List.drop_drop] at h0; exact h0), fun ac6 wd6 FF6 MM6 => then_n ?_⟩))
    refine wp_seq (rg_seq FF6 MM6 [o_, o_, o_, o_, o_] [8, 25, 24, 0, 1, 2, 33] (fun Kt => n ≠ 0 ∧ (65536 % n) ≤ 65536 ∧ 65536 - (65536 % n) < 9223372036854775808 ∧ Kt [(33, .bool (decide ((twoN (X.drop (2 * i))) < (65536 - (65536 % n))))), (8, iN (twoN (X.drop (2 * i)))), (25, iN i), (24, iN k), (0, pT g), (1, iN n), (2, iN k)] ((g, oC #[sB (X.drop (2 * (i + 1))), iN (u + 2 * (i + 1))] 73) :: ([] : Blks))) (by kernel_rfl) (fun _ => by kernel_rfl) (⟨(by have := hn; omega), (Nat.mod_le _ _), (by have := hn; omega), fun ac7 wd7 FF7 MM7 => then_n ?_⟩))
    by_cases hs33 : (twoN (X.drop (2 * i))) < (65536 - (65536 % n))
    · refine wp_cond_true ((FF7.ev 0 rfl).trans (dec_t hs33)) ?_
      have hE := bel_yes hb hlt hs33
      refine wp_seq (rg_seq FF7 MM7 [o_, o_, o_, o_, o_] [8, 25, 24, 0, 1, 2, 6, 7] (fun Kt => n ≠ 0 ∧ Kt [(7, iN 0), (6, iN ((twoN (X.drop (2 * i))) % n)), (8, iN (twoN (X.drop (2 * i)))), (25, iN i), (24, iN k), (0, pT g), (1, iN n), (2, iN k)] ((g, oC #[sB (X.drop (2 * (i + 1))), iN (u + 2 * (i + 1))] 73) :: ([] : Blks))) (by kernel_rfl) (fun _ => by kernel_rfl) (⟨(by have := two_lt (dropX_lt hX (2 * i)); have := hn; omega), fun ac8 wd8 FF8 MM8 => then_n ?_⟩))
      refine wp_ret ?_
      repeat first | refine then_ret ?_ | refine inb_ret ?_
      exact (ret_tup2 FF8 1 0 Tryd.results17 rfl rfl (by rw [hE]; exact ⟨rfl, MM8.turn (O := []) (fun i x hx => by simp at hx) 0 rfl (fun x hx => (nomatch hx))⟩))
    · refine wp_cond_false ((FF7.ev 0 rfl).trans (dec_f hs33)) ?_
      refine wp_skip ?_
      refine inb_n (then_n ?_)
      refine rg_seq FF7 MM7 [o_, o_] [8, 25, 24, 0, 1, 2] (fun Kt => i + 1 < 9223372036854775808 ∧ Kt [(25, iN (i + 1)), (8, iN (twoN (X.drop (2 * i)))), (24, iN k), (0, pT g), (1, iN n), (2, iN k)] ((g, oC #[sB (X.drop (2 * (i + 1))), iN (u + 2 * (i + 1))] 73) :: ([] : Blks))) (by kernel_rfl) (fun _ => by kernel_rfl) (⟨(by omega), fun ac9 wd9 FF9 MM9 => ?_⟩)
      have hd := cnt_of (FF9.get 0 rfl)
      refine then_n ⟨⟨i + 1, by omega, bel_no hb hlt hs33, FF9.pick [0, 2, 3, 4, 5], MM9⟩, ?_⟩
      rw [hc, hd]; omega
  · skip
    refine then_n (.inr ⟨(FF5.ev 0 rfl).trans (dec_f hlt), ?_⟩)
    have hik : i = k := by omega
    subst hik
    have hE := bel_end hb
    refine then_n ?_
    refine wp_seq (rg_seq FF5 MM5 [o_, o_] [25, 24, 0, 1, 2, 6, 7] (fun Kt => Kt [(7, iN 3), (6, iN 0), (25, iN i), (24, iN i), (0, pT g), (1, iN n), (2, iN i)] ((g, oC #[sB (X.drop (2 * i)), iN (u + 2 * i)] 73) :: ([] : Blks))) (by kernel_rfl) (fun _ => by kernel_rfl) (fun ac10 wd10 FF10 MM10 => then_n ?_))
    refine wp_ret ?_
    repeat first | refine then_ret ?_ | refine inb_ret ?_
    exact (ret_tup2 FF10 1 0 Tryd.results17 rfl rfl (by rw [hE]; exact ⟨rfl, MM10.turn (O := []) (fun i x hx => by simp at hx) 0 rfl (fun x hx => (nomatch hx))⟩))
set_option maxRecDepth 100000 in
theorem tbelow_lo (g : Nat) (z t : Int) (hz : z < 1) (w0 : World) :
    Calls Tryd.prog 17 #[pT g, .int .i64 z, .int .i64 t] w0 fun e w' => e = .returned (.tuple #[iN 0, iN 1]) ∧ Below w0.heap.size w0 w' := by
  refine enter_fr Tryd.func17 rfl Tryd.ntmps17 (by simp) fun ac (FF : Fr 38 ac [(0, pT g), (1, .int .i64 (z : Int)), (2, .int .i64 (t : Int))]) => ?_
  have MM := MemS.start w0
  refine wp_seq (rg_seq FF MM [o_, o_] [0, 1, 2, 6, 7] (fun Kt => Kt [(7, iN 0), (6, iN 0), (0, pT g), (1, .int .i64 (z : Int)), (2, .int .i64 (t : Int))] []) (by kernel_rfl) (fun _ => by kernel_rfl) (fun ac1 wd1 FF1 MM1 => then_n ?_))
  refine wp_seq ?_
  refine wp_seq (rg_seq FF1 MM1 [o_, f_ (.bool false), o_, o_, w_ 6, o_, o_, o_, o_, o_, o_, o_, o_, o_, o_] [7, 6, 0, 1, 2, 23] (fun Kt => RunV Tryd.prog [(9, pT g), (7, iN 0), (6, iN 0), (0, pT g), (1, .int .i64 (z : Int)), (2, .int .i64 (t : Int))] [] (opAt Tryd.f17 1 1) (.bool false) ∧ z < ((1 : Nat) : Int) ∧ Kt [(23, .bool true), (7, iN 0), (6, iN 0), (0, pT g), (1, .int .i64 (z : Int)), (2, .int .i64 (t : Int))] []) (by kernel_rfl) (fun _ => by kernel_rfl) (⟨(ptrSome_ok (t := 25) (t' := 25) (x := (.tmp 9)) (y := (.const (.pointer none))) (by kernel_rfl) rfl rfl Tryd.underlying25), hz, fun ac2 wd2 FF2 MM2 => then_n ?_⟩))
  refine wp_cond_true (FF2.ev 0 rfl) ?_
  refine wp_seq (rg_seq FF2 MM2 [o_, o_] [7, 6, 0, 1, 2] (fun Kt => Kt [(7, iN 1), (6, iN 0), (0, pT g), (1, .int .i64 (z : Int)), (2, .int .i64 (t : Int))] []) (by kernel_rfl) (fun _ => by kernel_rfl) (fun ac3 wd3 FF3 MM3 => then_n ?_))
  refine wp_ret ?_
  repeat first | refine then_ret ?_ | refine inb_ret ?_
  exact (ret_tup2 FF3 1 0 Tryd.results17 rfl rfl ⟨rfl, MM3.below⟩)
end Go.Proofs.YtdeiodcfblldgaaDoor
namespace Go.Proofs.YtdeiodcfblldgaaDoor
open Go.RowKit
theorem nat1_sep {w : World} {g N : Nat} {ob : Obj} {y : Value} (h : NatIn w (nv N y) N) (hg : w.heap[g]? = some ob) (hne : ∀ g', (nv N y).ownBlock = some g' → g' ≠ g) : ∃ O : Blks, Has w ((g, ob) :: O) ∧ Distinct ((g, ob) :: O) ∧ NatO O (nv N y) N := by
  obtain ⟨p, c, h1, h2, h2', h3, h4⟩ := h
  rcases h4 with h4 | ⟨b, cs, T, fr, rfl, h5, h6⟩
  · refine ⟨[], fun i x hx => ?_, ⟨fun y hy => (nomatch hy), trivial⟩, ⟨p, c, h1, h2, h2', h3, .inl h4⟩⟩
    cases i with
    | zero => simp at hx; subst hx; exact hg
    | succ i => simp at hx
  · have hb : b ≠ g := hne b (by rw [h1]; rfl)
    refine ⟨[(b, .cells cs T fr)], fun i x hx => ?_, ⟨fun y hy => by rw [List.mem_singleton] at hy; subst hy; exact hb, fun y hy => (nomatch hy), trivial⟩, ⟨_, c, h1, h2, h2', h3, .inr ⟨b, cs, T, fr, rfl, by simp, h6⟩⟩⟩
    cases i with
    | zero => simp at hx; subst hx; exact hg
    | succ i =>
      cases i with
      | zero => simp at hx; subst hx; exact h5
      | succ i => simp at hx
theorem strY_rep {Y : List Nat} {c n : Nat} (hl : Y.length = n) (hY : ∀ i, Y.getD i 0 < 256) : StrAt (cn .u8 (Y ++ List.replicate c 0)) 0 n (bs Y) := by
  have h5 := str_part (X := Y ++ List.replicate c 0) (n := Y.length + c) (off := 0) (len := n) (by simp) (rep_lt hY c) (by omega)
  rw [List.drop_zero, ← hl, List.take_left] at h5
  rw [hl] at h5
  exact h5
theorem setY_rep {Y : List Nat} {c i x : Nat} (h : i < Y.length) : (Y ++ List.replicate c 0).set i x = Y.set i x ++ List.replicate c 0 := List.set_append_left _ _ h
theorem setY_lt {Y : List Nat} {i x : Nat} (hY : ∀ i, Y.getD i 0 < 256) (hx : x < 256) : ∀ j, (Y.set i x).getD j 0 < 256 := fun j => by
  rw [getD_set]; split
  · exact hx
  · exact hY j
set_option maxRecDepth 100000 in
theorem tbits_any (g : Nat) (X : List Nat) (u : Nat) (hX : ∀ i, X.getD i 0 < 256) (hu : u < 4611686018427387904) (b : Nat) (hb1 : 1 ≤ b) (hb : b ≤ 1024) (w0 : World) (hg : w0.heap[g]? = some (TB X u)) :
    Calls Tryd.prog 33 #[pT g, iN b] w0 fun e w' => ∃ v, e = .returned (.agg #[nv (bitN b X) v]) ∧ Turn g (TB (X.drop ((b + 7) / 8)) (u + (b + 7) / 8)) w0 w' ∧ NatNew w0.heap.size w' (nv (bitN b X) v) (bitN b X) := by
  refine enter_fr Tryd.func33 rfl Tryd.ntmps33 (by simp) fun ac (FF : Fr 29 ac [(0, pT g), (1, iN b)]) => ?_
  have MM : MemS (fun k => k < w0.heap.size ∧ ∀ x ∈ (g, oC #[sB X, iN u] 73) :: ([] : Blks), x.1 ≠ k) w0 w0 ((g, oC #[sB X, iN u] 73) :: ([] : Blks)) [] := MemS.startN (one_has hg) ⟨fun y hy => (nomatch hy), trivial⟩
  have hmk : (takN ((b + 7) / 8) X).getD ((b + 7) / 8 - 1) 0 &&& 255 / 2 ^ (8 * ((b + 7) / 8) - b) < 256 := Nat.lt_of_le_of_lt Nat.and_le_left (takN_lt hX _ _)
  have hY2 := setY_lt (i := (b + 7) / 8 - 1) (takN_lt hX ((b + 7) / 8)) hmk
  refine wp_seq (rg_seq FF MM [o_] [0, 1, 4] (fun Kt => ∀ br, Kt [(4, pT br), (0, pT g), (1, iN b)] ((br, oC #[.slice none 0 0] 49) :: (g, oC #[sB X, iN u] 73) :: ([] : Blks))) (by kernel_rfl) (fun _ => by kernel_rfl) (fun br => fun ac1 wd1 FF1 MM1 => then_n ?_))
  refine wp_seq (wp_region_list ?_)
  refine rg_part 5 FF1 MM1 [o_, o_, o_, o_, c_ (sB (takN ((b + 7) / 8) X)) [(1, oC #[sB (X.drop ((b + 7) / 8)), iN (u + ((b + 7) / 8))] 73)]] [4, 1, 10] (fun Kt => b + 7 < 9223372036854775808 ∧ 8 ≠ 0 ∧ (b + 7) / 8 < 9223372036854775808 ∧ CallU Tryd.prog 11 [pT g, iN ((b + 7) / 8)] ((br, oC #[.slice none 0 0] 49) :: (g, oC #[sB X, iN u] 73) :: ([] : Blks)) (sB (takN ((b + 7) / 8) X)) [(1, oC #[sB (X.drop ((b + 7) / 8)), iN (u + ((b + 7) / 8))] 73)] ∧ Kt [(10, sB (takN ((b + 7) / 8) X)), (4, pT br), (1, iN b)] ((br, oC #[.slice none 0 0] 49) :: (g, oC #[sB (X.drop ((b + 7) / 8)), iN (u + ((b + 7) / 8))] 73) :: ([] : Blks))) (by kernel_rfl) (fun _ => by kernel_rfl) (⟨(by have := hb; omega), (by decide), (by have := hb; omega), (callU_turn en_take (g := g) (ob := TB X u) rfl fun w hg => by have h0 := take_any g ((b + 7) / 8) X u hX (by omega) (by omega) w hg; exact h0), fun ac2 wd2 FF2 MM2 => ?_⟩)
  refine st_new [4, 1, 11] FF2 MM2 (d := 11) (bytes_ok (e := 5) (x := (.tmp 10)) (by kernel_rfl) rfl (takN_lt hX ((b + 7) / 8)) Tryd.underlying9 Tryd.underlying63 Tryd.underlying5) rfl rfl (by decide) fun ac3 wd3 bs_ cz (FF3 : Fr 29 ac3 [(11, .slice (some ⟨bs_, 0, none⟩) ((takN ((b + 7) / 8) X).length) ((takN ((b + 7) / 8) X).length + cz)), (4, pT br), (1, iN b)]) (MM3 : MemS (fun k => k < w0.heap.size ∧ ∀ x ∈ (g, oC #[sB X, iN u] 73) :: ([] : Blks), x.1 ≠ k) w0 wd3 ((bs_, .cells (cn .u8 ((takN ((b + 7) / 8) X) ++ List.replicate cz 0)) 5 ((takN ((b + 7) / 8) X).length + cz, (takN ((b + 7) / 8) X).length + cz + 1)) :: (br, oC #[.slice none 0 0] 49) :: (g, oC #[sB (X.drop ((b + 7) / 8)), iN (u + ((b + 7) / 8))] 73) :: ([] : Blks)) []) => ?_
  refine rg_part 1 FF3 MM3 [o_] [4, 1, 5] (fun Kt => Kt [(5, .slice (some ⟨bs_, 0, none⟩) ((takN ((b + 7) / 8) X).length) ((takN ((b + 7) / 8) X).length + cz)), (4, pT br), (1, iN b)] ((bs_, .cells (cn .u8 ((takN ((b + 7) / 8) X) ++ List.replicate cz 0)) 5 ((takN ((b + 7) / 8) X).length + cz, (takN ((b + 7) / 8) X).length + cz + 1)) :: (br, oC #[.slice none 0 0] 49) :: (g, oC #[sB (X.drop ((b + 7) / 8)), iN (u + ((b + 7) / 8))] 73) :: ([] : Blks))) (by kernel_rfl) (fun _ => by kernel_rfl) (fun ac4 wd4 FF4 MM4 => ?_)
  refine wpl_nil (then_n ?_)
  refine wp_seq (rg_draw FF4 MM4 [.inl (.slice (some ⟨bs_, 0, none⟩) ((takN ((b + 7) / 8) X).length) ((takN ((b + 7) / 8) X).length + cz)), .inl (.slice (some ⟨bs_, 0, none⟩) ((takN ((b + 7) / 8) X).length) ((takN ((b + 7) / 8) X).length + cz)), .inl (iN ((b + 7) / 8)), .inl (iN (((b + 7) / 8) - 1)), .inl (.pointer (some ⟨bs_, ((b + 7) / 8) - 1, none⟩)), .inl (iB ((takN ((b + 7) / 8) X).getD ((b + 7) / 8 - 1) 0)), .inl (.slice (some ⟨bs_, 0, none⟩) ((takN ((b + 7) / 8) X).length) ((takN ((b + 7) / 8) X).length + cz)), .inl (iN ((b + 7) / 8)), .inl (iN (8 * ((b + 7) / 8))), .inl (iN b), .inl (iN ((8 * ((b + 7) / 8)) - b)), .inl (iB (255 / (2 ^ ((8 * ((b + 7) / 8)) - b)))), .inl (iB (((takN ((b + 7) / 8) X).getD ((b + 7) / 8 - 1) 0) &&& (255 / (2 ^ ((8 * ((b + 7) / 8)) - b))))), .inl (.pointer (some ⟨bs_, ((b + 7) / 8) - 1, none⟩))] [] [o_, o_, t_ (iN ((b + 7) / 8)), o_, w_ 1, l_ 0 (iB ((takN ((b + 7) / 8) X).getD ((b + 7) / 8 - 1) 0)), o_, t_ (iN ((b + 7) / 8)), o_, o_, o_, o_, o_, w_ 1] [s_ 0 (.cells (cn .u8 ((takN ((b + 7) / 8) X).set ((b + 7) / 8 - 1) ((takN ((b + 7) / 8) X).getD ((b + 7) / 8 - 1) 0 &&& 255 / 2 ^ (8 * ((b + 7) / 8) - b)) ++ List.replicate cz 0)) 5)] [5, 4, 1] (fun nb => [iN ((takN ((b + 7) / 8) X).length) = iN ((b + 7) / 8), 1 ≤ ((b + 7) / 8), ((b + 7) / 8) - 1 < 9223372036854775808, (((b + 7) / 8) - 1) < ((takN ((b + 7) / 8) X).length), bs_ = bs_, (cn .u8 ((takN ((b + 7) / 8) X) ++ List.replicate cz 0))[((b + 7) / 8) - 1]? = some (iB ((takN ((b + 7) / 8) X).getD ((b + 7) / 8 - 1) 0)), iN ((takN ((b + 7) / 8) X).length) = iN ((b + 7) / 8), 8 * ((b + 7) / 8) < 9223372036854775808, b ≤ (8 * ((b + 7) / 8)), (8 * ((b + 7) / 8)) - b < 9223372036854775808, (8 * ((b + 7) / 8)) - b ≤ 8, ((takN ((b + 7) / 8) X).getD ((b + 7) / 8 - 1) 0) < 256, (255 / (2 ^ ((8 * ((b + 7) / 8)) - b))) < 256, (((b + 7) / 8) - 1) < ((takN ((b + 7) / 8) X).length)]) (fun nb Kt => bs_ = bs_ ∧ ((b + 7) / 8) - 1 < (cn .u8 ((takN ((b + 7) / 8) X) ++ List.replicate cz 0)).size ∧ ((((takN ((b + 7) / 8) X).length + cz, (takN ((b + 7) / 8) X).length + cz + 1)).2 = 0 ∨ ((b + 7) / 8) - 1 < (((takN ((b + 7) / 8) X).length + cz, (takN ((b + 7) / 8) X).length + cz + 1)).1) ∧ (cn .u8 ((takN ((b + 7) / 8) X) ++ List.replicate cz 0)).setIfInBounds (((b + 7) / 8) - 1) (iB (((takN ((b + 7) / 8) X).getD ((b + 7) / 8 - 1) 0) &&& (255 / (2 ^ ((8 * ((b + 7) / 8)) - b))))) = cn .u8 ((takN ((b + 7) / 8) X).set ((b + 7) / 8 - 1) ((takN ((b + 7) / 8) X).getD ((b + 7) / 8 - 1) 0 &&& 255 / 2 ^ (8 * ((b + 7) / 8) - b)) ++ List.replicate cz 0) ∧ Kt [(5, .slice (some ⟨bs_, 0, none⟩) ((takN ((b + 7) / 8) X).length) ((takN ((b + 7) / 8) X).length + cz)), (4, pT br), (1, iN b)] ((bs_, .cells (cn .u8 ((takN ((b + 7) / 8) X).set ((b + 7) / 8 - 1) ((takN ((b + 7) / 8) X).getD ((b + 7) / 8 - 1) 0 &&& 255 / 2 ^ (8 * ((b + 7) / 8) - b)) ++ List.replicate cz 0)) 5 ((takN ((b + 7) / 8) X).length + cz, (takN ((b + 7) / 8) X).length + cz + 1)) :: (br, oC #[.slice none 0 0] 49) :: (g, oC #[sB (X.drop ((b + 7) / 8)), iN (u + ((b + 7) / 8))] 73) :: ([] : Blks))) (by kernel_rfl) (by kernel_rfl) (by kernel_rfl) (fun _ => by kernel_rfl) (fun _ _ => by kernel_rfl) trivial (fun nb => ⟨(vI (takN_len _ _)), (by omega), (by omega), (by rw [takN_len]; omega), rfl, ((cn_get _ _ _ (by rw [List.length_append, takN_len]; omega)).trans (congrArg some (vI (getD_app_l _ _ _ (by rw [takN_len]; omega))))), (vI (takN_len _ _)), (by omega), (by have := hb; omega), (by have := hb; omega), (by have := hb; omega), (takN_lt hX _ _), (Nat.lt_of_le_of_lt (Nat.div_le_self _ _) (by decide)), (by rw [takN_len]; omega), trivial⟩) (fun nb => ⟨rfl, (by rw [cn_size, List.length_append, takN_len]; omega), (.inr (by rw [takN_len]; show _ < _; omega)), ((cn_set _ _ _ _).trans (congrArg _ (setY_rep (by rw [takN_len]; omega)))), fun ac5 wd5 FF5 MM5 => then_n ?_⟩))
  refine wp_seq (wp_region_list ?_)
  refine rg_part 2 FF5 MM5 [o_, l_ 0 (sB ((takN ((b + 7) / 8) X).set ((b + 7) / 8 - 1) ((takN ((b + 7) / 8) X).getD ((b + 7) / 8 - 1) 0 &&& 255 / 2 ^ (8 * ((b + 7) / 8) - b))))] [5, 4, 1, 27] (fun Kt => bs_ = bs_ ∧ StrAt (cn .u8 ((takN ((b + 7) / 8) X).set ((b + 7) / 8 - 1) ((takN ((b + 7) / 8) X).getD ((b + 7) / 8 - 1) 0 &&& 255 / 2 ^ (8 * ((b + 7) / 8) - b)) ++ List.replicate cz 0)) 0 ((takN ((b + 7) / 8) X).length) (bs ((takN ((b + 7) / 8) X).set ((b + 7) / 8 - 1) ((takN ((b + 7) / 8) X).getD ((b + 7) / 8 - 1) 0 &&& 255 / 2 ^ (8 * ((b + 7) / 8) - b)))) ∧ Kt [(27, sB ((takN ((b + 7) / 8) X).set ((b + 7) / 8 - 1) ((takN ((b + 7) / 8) X).getD ((b + 7) / 8 - 1) 0 &&& 255 / 2 ^ (8 * ((b + 7) / 8) - b)))), (5, .slice (some ⟨bs_, 0, none⟩) ((takN ((b + 7) / 8) X).length) ((takN ((b + 7) / 8) X).length + cz)), (4, pT br), (1, iN b)] ((bs_, .cells (cn .u8 ((takN ((b + 7) / 8) X).set ((b + 7) / 8 - 1) ((takN ((b + 7) / 8) X).getD ((b + 7) / 8 - 1) 0 &&& 255 / 2 ^ (8 * ((b + 7) / 8) - b)) ++ List.replicate cz 0)) 5 ((takN ((b + 7) / 8) X).length + cz, (takN ((b + 7) / 8) X).length + cz + 1)) :: (br, oC #[.slice none 0 0] 49) :: (g, oC #[sB (X.drop ((b + 7) / 8)), iN (u + ((b + 7) / 8))] 73) :: ([] : Blks))) (by kernel_rfl) (fun _ => by kernel_rfl) (⟨rfl, (strY_rep (by rw [List.length_set]) hY2), fun ac6 wd6 FF6 MM6 => ?_⟩)
  refine st_callE [5, 4, 1, 28] FF6 (d := 28) (mk := fun v => .agg #[nv (bitN b X) v]) en_nbytes rfl rfl (by have h0 := nbytes_any ((takN ((b + 7) / 8) X).set ((b + 7) / 8 - 1) ((takN ((b + 7) / 8) X).getD ((b + 7) / 8 - 1) 0 &&& 255 / 2 ^ (8 * ((b + 7) / 8) - b))) hY2 (by rw [List.length_set, takN_len]; omega) wd6; rw [bit_tape hX hb1] at h0; exact h0) rfl (by kernel_rfl) (by decide) fun ac8 wd8 lv7 (FF8 : Fr 29 ac8 [(28, aG #[nv (bitN b X) lv7]), (5, .slice (some ⟨bs_, 0, none⟩) ((takN ((b + 7) / 8) X).length) ((takN ((b + 7) / 8) X).length + cz)), (4, pT br), (1, iN b)]) hr9 => ?_
  have hfr := hr9.2.2
  have hsz := MM6.size
  obtain ⟨O10, MM110, hN12, hs13⟩ := MemS.addNats (K := [(bs_, .cells (cn .u8 ((takN ((b + 7) / 8) X).set ((b + 7) / 8 - 1) ((takN ((b + 7) / 8) X).getD ((b + 7) / 8 - 1) 0 &&& 255 / 2 ^ (8 * ((b + 7) / 8) - b)) ++ List.replicate cz 0)) 5 ((takN ((b + 7) / 8) X).length + cz, (takN ((b + 7) / 8) X).length + cz + 1)), (br, oC #[.slice none 0 0] 49), (g, oC #[sB (X.drop ((b + 7) / 8)), iN (u + ((b + 7) / 8))] 73)]) (O := ([] : Blks)) MM6 hr9.1 hr9.2 (Nats.nil ([] : Blks))
  have MM11 : MemS (fun k => k < w0.heap.size ∧ ∀ x ∈ (g, oC #[sB X, iN u] 73) :: ([] : Blks), x.1 ≠ k) w0 wd8 ((bs_, .cells (cn .u8 ((takN ((b + 7) / 8) X).set ((b + 7) / 8 - 1) ((takN ((b + 7) / 8) X).getD ((b + 7) / 8 - 1) 0 &&& 255 / 2 ^ (8 * ((b + 7) / 8) - b)) ++ List.replicate cz 0)) 5 ((takN ((b + 7) / 8) X).length + cz, (takN ((b + 7) / 8) X).length + cz + 1)) :: (br, oC #[.slice none 0 0] 49) :: (g, oC #[sB (X.drop ((b + 7) / 8)), iN (u + ((b + 7) / 8))] 73) :: O10) [] := MM110
  refine rg_part 1 FF8 MM11 [b_ 1] [5, 4, 1] (fun Kt => br = br ∧ (#[.slice none 0 0] : Array Value).size = 1 ∧ (#[nv (bitN b X) lv7] : Array Value).size = 1 ∧ (#[nv (bitN b X) lv7] : Array Value).all (·.oneCell') = true ∧ (0, 0).2 = 0 ∧ Kt [(5, .slice (some ⟨bs_, 0, none⟩) ((takN ((b + 7) / 8) X).length) ((takN ((b + 7) / 8) X).length + cz)), (4, pT br), (1, iN b)] ((bs_, .cells (cn .u8 ((takN ((b + 7) / 8) X).set ((b + 7) / 8 - 1) ((takN ((b + 7) / 8) X).getD ((b + 7) / 8 - 1) 0 &&& 255 / 2 ^ (8 * ((b + 7) / 8) - b)) ++ List.replicate cz 0)) 5 ((takN ((b + 7) / 8) X).length + cz, (takN ((b + 7) / 8) X).length + cz + 1)) :: (br, oC #[nv (bitN b X) lv7] 49) :: (g, oC #[sB (X.drop ((b + 7) / 8)), iN (u + ((b + 7) / 8))] 73) :: O10)) (by kernel_rfl) (fun _ => by kernel_rfl) (⟨rfl, rfl, rfl, (by kernel_rfl), rfl, fun ac14 wd14 FF14 MM14 => ?_⟩)
  refine wpl_nil (then_n ?_)
  refine wp_ret ?_
  repeat first | refine then_ret ?_ | refine inb_ret ?_
  exact (retc FF14 MM14 (k := 1) (i := 1) (j := 1) Tryd.results33 rfl rfl Tryd.underlying49 rfl (by kernel_rfl) rfl ⟨lv7, rfl, MM14.turn (O := []) (fun i x hx => by simp at hx) 2 rfl (fun x hx => (nomatch hx)), (hN12.get 0 rfl).at (Has.tl (Has.tl (Has.tl MM14.hasL))), fun q hq => Nat.le_trans hsz (hfr q hq)⟩)
set_option maxRecDepth 100000 in
theorem tunder_O (g : Nat) (X : List Nat) (u : Nat) (hX : ∀ i, X.getD i 0 < 256) (hu : u < 4611686018427000000) (N : Nat) (y : Value) (k : Nat) (O : Blks) (hN : NatO O (nv N y) N) (h1 : 1 ≤ bsz N) (hb : bsz N ≤ 1024) (hk1 : 1 ≤ k) (hk : k ≤ 16) (w0 : World) (H : Has w0 ((g, TB X u) :: O)) (hD : Distinct ((g, TB X u) :: O)) :
    Calls Tryd.prog 19 #[pT g, .agg #[nv N y], iN k] w0 fun e w' => ∃ v, e = .returned (.tuple #[.agg #[nv (undN N (bsz N) k X).1 v], iN ((undN N (bsz N) k X).2.1)]) ∧ Turn g (TB (X.drop (undN N (bsz N) k X).2.2) (u + (undN N (bsz N) k X).2.2)) w0 w' ∧ NatNew w0.heap.size w' (nv (undN N (bsz N) k X).1 v) (undN N (bsz N) k X).1 := by
  refine enter_fr Tryd.func19 rfl Tryd.ntmps19 (by simp) fun ac (FF : Fr 41 ac [(0, pT g), (1, aG #[nv N y]), (2, iN k)]) => ?_
  have MM : MemS (fun k => k < w0.heap.size ∧ ∀ x ∈ (g, oC #[sB X, iN u] 73) :: O, x.1 ≠ k) w0 w0 ((g, oC #[sB X, iN u] 73) :: O) [] := MemS.startN H hD
  have hs : qsz N < 1000000 := Nat.lt_of_le_of_lt (qsz_le (n := 16) (Nat.lt_of_lt_of_le (bsz_ok N).1 (Nat.le_trans (Nat.pow_le_pow_right (by decide) hb) (by decide +kernel)))) (by decide)
  refine wp_seq (rg_seq FF MM [o_, o_, o_] [0, 2, 4, 6, 7] (fun Kt => ∀ bw, ∀ br, Kt [(7, iN 0), (6, pT br), (4, pT bw), (0, pT g), (2, iN k)] ((br, oC #[.slice none 0 0] 49) :: (bw, oC #[nv N y] 49) :: (g, oC #[sB X, iN u] 73) :: O)) (by kernel_rfl) (fun _ => by kernel_rfl) (fun bw => fun br => fun ac1 wd1 FF1 MM1 => then_n ?_))
  refine wp_seq (rg_seq FF1 MM1 [b_ 1, u_ 1 (iN (bsz N)), o_] [7, 6, 4, 0, 2, 8] (fun Kt => bw = bw ∧ (#[nv N y] : Array Value).size = 1 ∧ CallP Tryd.prog 26 [aG #[nv N y]] ((br, oC #[.slice none 0 0] 49) :: (bw, oC #[nv N y] 49) :: (g, oC #[sB X, iN u] 73) :: O) (iN (bsz N)) ∧ Kt [(8, iN (bsz N)), (7, iN 0), (6, pT br), (4, pT bw), (0, pT g), (2, iN k)] ((br, oC #[.slice none 0 0] 49) :: (bw, oC #[nv N y] 49) :: (g, oC #[sB X, iN u] 73) :: O)) (by kernel_rfl) (fun _ => by kernel_rfl) (⟨rfl, rfl, ⟨en_nbits, fun w Hw => nbits_any N y hs w (hN.at (Has.tl (Has.tl (Has.tl Hw))))⟩, fun ac2 wd2 FF2 MM2 => then_n ?_⟩))
  refine wp_seq ?_
  refine wp_seq (rg_seq FF2 MM2 [o_, f_ (.bool false), o_, o_, w_ 3, o_, o_, o_, w_ 3, o_, o_, o_, t_ (.bool true), o_, o_] [8, 7, 6, 4, 0, 2, 26] (fun Kt => RunV Tryd.prog [(12, pT g), (8, iN (bsz N)), (7, iN 0), (6, pT br), (4, pT bw), (0, pT g), (2, iN k)] ((br, oC #[.slice none 0 0] 49) :: (bw, oC #[nv N y] 49) :: (g, oC #[sB X, iN u] 73) :: O) (opAt Tryd.f19 2 1) (.bool false) ∧ ¬ ((bsz N) < 1) ∧ ¬ ((bsz N) > 1024) ∧ CallP Tryd.prog 30 [iN k] [] (.bool true) ∧ Kt [(26, .bool false), (8, iN (bsz N)), (7, iN 0), (6, pT br), (4, pT bw), (0, pT g), (2, iN k)] ((br, oC #[.slice none 0 0] 49) :: (bw, oC #[nv N y] 49) :: (g, oC #[sB X, iN u] 73) :: O)) (by kernel_rfl) (fun _ => by kernel_rfl) (⟨(ptrSome_ok (t := 25) (t' := 25) (x := (.tmp 12)) (y := (.const (.pointer none))) (by kernel_rfl) rfl rfl Tryd.underlying25), (by omega), (by omega), (callP_of en_maybe (maybe_yes k (by omega) (by omega)) _), fun ac3 wd3 FF3 MM3 => then_n ?_⟩))
  refine wp_cond_false (FF3.ev 0 rfl) ?_
  refine wp_skip ?_
  refine then_n ?_
  refine wp_seq ?_
  refine wp_seq (rg_seq FF3 MM3 [o_, o_] [8, 7, 6, 4, 0, 2, 28, 29] (fun Kt => Kt [(29, iN 0), (28, iN k), (8, iN (bsz N)), (7, iN 0), (6, pT br), (4, pT bw), (0, pT g), (2, iN k)] ((br, oC #[.slice none 0 0] 49) :: (bw, oC #[nv N y] 49) :: (g, oC #[sB X, iN u] 73) :: O)) (by kernel_rfl) (fun _ => by kernel_rfl) (fun ac4 wd4 FF4 MM4 => then_n ?_))
  refine wp_for (fun a' w' => ∃ O1 : Blks, ∃ i : Nat, i ≤ k ∧ (∀ x ∈ O, x ∈ O1) ∧ UndI N (bsz N) k X i ∧ Fr 41 a' [(29, iN i), (28, iN k), (8, iN (bsz N)), (6, pT br), (4, pT bw), (0, pT g), (2, iN k)] ∧ MemS (fun k => k < w0.heap.size ∧ ∀ x ∈ (g, oC #[sB X, iN u] 73) :: O, x.1 ≠ k) w0 w' ((br, oC #[.slice none 0 0] 49) :: (bw, oC #[nv N y] 49) :: (g, oC #[sB (X.drop ((bsz N + 7) / 8 * i)), iN (u + (bsz N + 7) / 8 * i)] 73) :: O1) []) (fun a' _ => (k - cnt 29 a').toNat) ⟨O, 0, Nat.zero_le _, (fun _ h => h), und_start _ _ _ _, FF4.pick [0, 1, 2, 4, 5, 6, 7], MM4⟩ ?_
  rintro ac5 wd5 ⟨O1, i, hi, hsb, hI, FF5, MM5⟩
  have hN1 := hN.mono hsb
  have hc := cnt_of (FF5.get 0 rfl)
  refine rg_seq FF5 MM5 [o_] [29, 28, 8, 6, 4, 0, 2, 30] (fun Kt => Kt [(30, .bool (decide (i < k))), (29, iN i), (28, iN k), (8, iN (bsz N)), (6, pT br), (4, pT bw), (0, pT g), (2, iN k)] ((br, oC #[.slice none 0 0] 49) :: (bw, oC #[nv N y] 49) :: (g, oC #[sB (X.drop ((bsz N + 7) / 8 * i)), iN (u + (bsz N + 7) / 8 * i)] 73) :: O1)) (by kernel_rfl) (fun _ => by kernel_rfl) (fun ac6 wd6 FF6 MM6 => ?_)
  by_cases hlt : i < k
  · skip
    refine then_n (.inl ⟨(FF6.ev 0 rfl).trans (dec_t hlt), ?_⟩)
    have hmi : (bsz N + 7) / 8 * i ≤ 129 * 16 := Nat.mul_le_mul (by omega) (by omega)
    have hui : u + (bsz N + 7) / 8 * i < 4611686018427387904 := by omega
    refine wp_seq (wp_region_list ?_)
    refine rg_part 2 FF6 MM6 [o_, o_] [29, 28, 8, 6, 4, 0, 2, 31, 32] (fun Kt => Kt [(32, iN (bsz N)), (31, pT g), (29, iN i), (28, iN k), (8, iN (bsz N)), (6, pT br), (4, pT bw), (0, pT g), (2, iN k)] ((br, oC #[.slice none 0 0] 49) :: (bw, oC #[nv N y] 49) :: (g, oC #[sB (X.drop ((bsz N + 7) / 8 * i)), iN (u + (bsz N + 7) / 8 * i)] 73) :: O1)) (by kernel_rfl) (fun _ => by kernel_rfl) (fun ac7 wd7 FF7 MM7 => ?_)
    refine st_callE [29, 28, 8, 6, 4, 0, 2, 33] FF7 (d := 33) (mk := fun v => .agg #[nv (bitN (bsz N) (X.drop ((bsz N + 7) / 8 * i))) v]) en_tbits rfl rfl (tbits_any g (X.drop ((bsz N + 7) / 8 * i)) (u + (bsz N + 7) / 8 * i) (dropX_lt hX _) hui (bsz N) h1 hb _ (MM7.get 2 rfl)) rfl (by kernel_rfl) (by decide) fun ac9 wd9 lv8 (FF9 : Fr 41 ac9 [(33, aG #[nv (bitN (bsz N) (X.drop ((bsz N + 7) / 8 * i))) lv8]), (29, iN i), (28, iN k), (8, iN (bsz N)), (6, pT br), (4, pT bw), (0, pT g), (2, iN k)]) hr10 => ?_
    obtain ⟨ht9, hn9⟩ := hr10
    rw [List.drop_drop] at ht9
    have ht9 : Turn g (TB (X.drop ((bsz N + 7) / 8 * (i + 1))) (u + (bsz N + 7) / 8 * (i + 1))) wd7 wd9 := by rw [Nat.mul_succ, ← Nat.add_assoc]; exact ht9
    have MM11 : MemS (fun k => k < w0.heap.size ∧ ∀ x ∈ (g, oC #[sB X, iN u] 73) :: O, x.1 ≠ k) w0 wd9 ((br, oC #[.slice none 0 0] 49) :: (bw, oC #[nv N y] 49) :: (g, oC #[sB (X.drop ((bsz N + 7) / 8 * (i + 1))), iN (u + (bsz N + 7) / 8 * (i + 1))] 73) :: O1) [] := MM7.turnAt ht9 2 rfl
    have hfr := hn9.2
    have hsz := MM7.size
    obtain ⟨O12, MM130, hN14, hs15⟩ := MemS.addNatsT (K := [(br, oC #[.slice none 0 0] 49), (bw, oC #[nv N y] 49), (g, oC #[sB (X.drop ((bsz N + 7) / 8 * (i + 1))), iN (u + (bsz N + 7) / 8 * (i + 1))] 73)]) (O := O1) MM7 MM11 rfl hn9 (Nats.nil O1)
    have MM13 : MemS (fun k => k < w0.heap.size ∧ ∀ x ∈ (g, oC #[sB X, iN u] 73) :: O, x.1 ≠ k) w0 wd9 ((br, oC #[.slice none 0 0] 49) :: (bw, oC #[nv N y] 49) :: (g, oC #[sB (X.drop ((bsz N + 7) / 8 * (i + 1))), iN (u + (bsz N + 7) / 8 * (i + 1))] 73) :: O12) [] := MM130
    have hN0_16 := hN1.mono hs15
    have hz17 : ∀ x ∈ O, x ∈ O12 := fun x hx => hs15 x (hsb x hx)
    refine rg_part 2 FF9 MM13 [o_, b_ 0] [29, 28, 8, 6, 4, 0, 2, 9] (fun Kt => ∀ bv, bv = bv ∧ (#[.slice none 0 0] : Array Value).size = 1 ∧ (#[nv (bitN (bsz N) (X.drop ((bsz N + 7) / 8 * i))) lv8] : Array Value).size = 1 ∧ (#[nv (bitN (bsz N) (X.drop ((bsz N + 7) / 8 * i))) lv8] : Array Value).all (·.oneCell') = true ∧ (0, 0).2 = 0 ∧ Kt [(9, pT bv), (29, iN i), (28, iN k), (8, iN (bsz N)), (6, pT br), (4, pT bw), (0, pT g), (2, iN k)] ((bv, oC #[nv (bitN (bsz N) (X.drop ((bsz N + 7) / 8 * i))) lv8] 49) :: (br, oC #[.slice none 0 0] 49) :: (bw, oC #[nv N y] 49) :: (g, oC #[sB (X.drop ((bsz N + 7) / 8 * (i + 1))), iN (u + (bsz N + 7) / 8 * (i + 1))] 73) :: O12)) (by kernel_rfl) (fun _ => by kernel_rfl) (fun bv => ⟨rfl, rfl, rfl, (by kernel_rfl), rfl, fun ac18 wd18 FF18 MM18 => ?_⟩)
    refine wpl_nil (then_n ?_)
    have hsv : qsz (bitN (bsz N) (X.drop ((bsz N + 7) / 8 * i))) < 1000000 := Nat.lt_of_le_of_lt (qsz_le (n := 16) (Nat.lt_of_lt_of_le (bitN_lt _ _) (Nat.le_trans (Nat.pow_le_pow_right (by decide) hb) (by decide +kernel)))) (by decide)
    refine wp_seq (rg_seq FF18 MM18 [b_ 0, b_ 2, u_ 1 (.int .i64 (cmpN (bitN (bsz N) (X.drop ((bsz N + 7) / 8 * i))) N : Int)), w_ 4] [9, 29, 28, 8, 6, 4, 0, 2, 37] (fun Kt => bv = bv ∧ (#[nv (bitN (bsz N) (X.drop ((bsz N + 7) / 8 * i))) lv8] : Array Value).size = 1 ∧ bw = bw ∧ (#[nv N y] : Array Value).size = 1 ∧ CallP Tryd.prog 28 [aG #[nv (bitN (bsz N) (X.drop ((bsz N + 7) / 8 * i))) lv8], aG #[nv N y]] ((bv, oC #[nv (bitN (bsz N) (X.drop ((bsz N + 7) / 8 * i))) lv8] 49) :: (br, oC #[.slice none 0 0] 49) :: (bw, oC #[nv N y] 49) :: (g, oC #[sB (X.drop ((bsz N + 7) / 8 * (i + 1))), iN (u + (bsz N + 7) / 8 * (i + 1))] 73) :: O12) (.int .i64 (cmpN (bitN (bsz N) (X.drop ((bsz N + 7) / 8 * i))) N : Int)) ∧ Kt [(37, .bool (decide ((cmpN (bitN (bsz N) (X.drop ((bsz N + 7) / 8 * i))) N) < ((0 : Nat) : Int)))), (9, pT bv), (29, iN i), (28, iN k), (8, iN (bsz N)), (6, pT br), (4, pT bw), (0, pT g), (2, iN k)] ((bv, oC #[nv (bitN (bsz N) (X.drop ((bsz N + 7) / 8 * i))) lv8] 49) :: (br, oC #[.slice none 0 0] 49) :: (bw, oC #[nv N y] 49) :: (g, oC #[sB (X.drop ((bsz N + 7) / 8 * (i + 1))), iN (u + (bsz N + 7) / 8 * (i + 1))] 73) :: O12)) (by kernel_rfl) (fun _ => by kernel_rfl) (⟨rfl, rfl, rfl, rfl, ⟨en_ncmp, fun w Hw => ncmp_any (bitN (bsz N) (X.drop ((bsz N + 7) / 8 * i))) lv8 hsv N y w ((hN14.get 0 rfl).at (Has.tl (Has.tl (Has.tl (Has.tl Hw))))) (hN0_16.at (Has.tl (Has.tl (Has.tl (Has.tl Hw)))))⟩, fun ac19 wd19 FF19 MM19 => then_n ?_⟩))
    by_cases hs37 : (cmpN (bitN (bsz N) (X.drop ((bsz N + 7) / 8 * i))) N) < ((0 : Nat) : Int)
    · refine wp_cond_true ((FF19.ev 0 rfl).trans (dec_t hs37)) ?_
      have hE := und_yes hI hlt ((cmp_neg _ _).1 hs37)
      refine wp_seq (rg_seq FF19 MM19 [b_ 0, b_ 1, o_] [9, 29, 28, 8, 6, 4, 0, 2, 7] (fun Kt => bv = bv ∧ (#[nv (bitN (bsz N) (X.drop ((bsz N + 7) / 8 * i))) lv8] : Array Value).size = 1 ∧ br = br ∧ (#[.slice none 0 0] : Array Value).size = 1 ∧ (#[nv (bitN (bsz N) (X.drop ((bsz N + 7) / 8 * i))) lv8] : Array Value).size = 1 ∧ (#[nv (bitN (bsz N) (X.drop ((bsz N + 7) / 8 * i))) lv8] : Array Value).all (·.oneCell') = true ∧ (0, 0).2 = 0 ∧ Kt [(7, iN 0), (9, pT bv), (29, iN i), (28, iN k), (8, iN (bsz N)), (6, pT br), (4, pT bw), (0, pT g), (2, iN k)] ((bv, oC #[nv (bitN (bsz N) (X.drop ((bsz N + 7) / 8 * i))) lv8] 49) :: (br, oC #[nv (bitN (bsz N) (X.drop ((bsz N + 7) / 8 * i))) lv8] 49) :: (bw, oC #[nv N y] 49) :: (g, oC #[sB (X.drop ((bsz N + 7) / 8 * (i + 1))), iN (u + (bsz N + 7) / 8 * (i + 1))] 73) :: O12)) (by kernel_rfl) (fun _ => by kernel_rfl) (⟨rfl, rfl, rfl, rfl, rfl, (by kernel_rfl), rfl, fun ac20 wd20 FF20 MM20 => then_n ?_⟩))
      refine wp_ret ?_
      repeat first | refine then_ret ?_ | refine inb_ret ?_
      exact (ret_ct FF20 MM20 (k := 1) (i := 1) (j := 5) (m := 0) Tryd.results19 rfl rfl rfl Tryd.underlying49 rfl (by kernel_rfl) rfl (by rw [hE]; exact ⟨lv8, rfl, MM20.turn (Has.tl H) 3 rfl (fun _ hx => List.mem_cons_of_mem _ (List.mem_cons_of_mem _ (List.mem_cons_of_mem _ (List.mem_cons_of_mem _ (hz17 _ hx))))), (hN14.get 0 rfl).at (Has.tl (Has.tl (Has.tl (Has.tl MM20.hasL)))), fun q hq => Nat.le_trans hsz (hfr q hq)⟩))
    · refine wp_cond_false ((FF19.ev 0 rfl).trans (dec_f hs37)) ?_
      have hno := fun h => hs37 ((cmp_neg _ _).2 h)
      refine wp_skip ?_
      refine inb_n (then_n ?_)
      refine rg_seq FF19 MM19 [o_, o_] [9, 29, 28, 8, 6, 4, 0, 2] (fun Kt => i + 1 < 9223372036854775808 ∧ Kt [(29, iN (i + 1)), (9, pT bv), (28, iN k), (8, iN (bsz N)), (6, pT br), (4, pT bw), (0, pT g), (2, iN k)] ((bv, oC #[nv (bitN (bsz N) (X.drop ((bsz N + 7) / 8 * i))) lv8] 49) :: (br, oC #[.slice none 0 0] 49) :: (bw, oC #[nv N y] 49) :: (g, oC #[sB (X.drop ((bsz N + 7) / 8 * (i + 1))), iN (u + (bsz N + 7) / 8 * (i + 1))] 73) :: O12)) (by kernel_rfl) (fun _ => by kernel_rfl) (⟨(by omega), fun ac21 wd21 FF21 MM21 => ?_⟩)
      have hd := cnt_of (FF21.get 0 rfl)
      refine then_n ⟨⟨O12, i + 1, by omega, hz17, und_no hI hlt hno, FF21.pick [0, 2, 3, 4, 5, 6, 7], (MM21.dropAt 0)⟩, ?_⟩
      rw [hc, hd]; omega
  · skip
    refine then_n (.inr ⟨(FF6.ev 0 rfl).trans (dec_f hlt), ?_⟩)
    have hik : i = k := by omega
    subst hik
    have hE := und_end hI
    refine then_n ?_
    refine wp_seq (rg_seq FF6 MM6 [o_, b_ 0, o_] [29, 28, 8, 6, 4, 0, 2, 7] (fun Kt => br = br ∧ (#[.slice none 0 0] : Array Value).size = 1 ∧ (#[.slice none 0 0] : Array Value).size = 1 ∧ (#[.slice none 0 0] : Array Value).all (·.oneCell') = true ∧ (0, 0).2 = 0 ∧ Kt [(7, iN 3), (29, iN i), (28, iN i), (8, iN (bsz N)), (6, pT br), (4, pT bw), (0, pT g), (2, iN i)] ((br, oC #[.slice none 0 0] 49) :: (bw, oC #[nv N y] 49) :: (g, oC #[sB (X.drop ((bsz N + 7) / 8 * i)), iN (u + (bsz N + 7) / 8 * i)] 73) :: O1)) (by kernel_rfl) (fun _ => by kernel_rfl) (⟨rfl, rfl, rfl, (by kernel_rfl), rfl, fun ac22 wd22 FF22 MM22 => then_n ?_⟩))
    refine wp_ret ?_
    repeat first | refine then_ret ?_ | refine inb_ret ?_
    exact (ret_ct FF22 MM22 (k := 1) (i := 0) (j := 4) (m := 0) Tryd.results19 rfl rfl rfl Tryd.underlying49 rfl (by kernel_rfl) rfl (by rw [hE]; exact ⟨.slice none 0 0, rfl, MM22.turn (Has.tl H) 2 rfl (fun _ hx => List.mem_cons_of_mem _ (List.mem_cons_of_mem _ (List.mem_cons_of_mem _ (hsb _ hx)))), natNew_nil _ _⟩))
theorem tunder_any (g : Nat) (X : List Nat) (u : Nat) (hX : ∀ i, X.getD i 0 < 256) (hu : u < 4611686018427000000) (N : Nat) (y : Value) (k : Nat) (h1 : 1 ≤ bsz N) (hb : bsz N ≤ 1024) (hk1 : 1 ≤ k) (hk : k ≤ 16) (w0 : World) (hg : w0.heap[g]? = some (TB X u)) (hN : NatIn w0 (nv N y) N) (hne : ∀ g', (nv N y).ownBlock = some g' → g' ≠ g) :
    Calls Tryd.prog 19 #[pT g, .agg #[nv N y], iN k] w0 fun e w' => ∃ v, e = .returned (.tuple #[.agg #[nv (undN N (bsz N) k X).1 v], iN ((undN N (bsz N) k X).2.1)]) ∧ Turn g (TB (X.drop (undN N (bsz N) k X).2.2) (u + (undN N (bsz N) k X).2.2)) w0 w' ∧ NatNew w0.heap.size w' (nv (undN N (bsz N) k X).1 v) (undN N (bsz N) k X).1 := by
  obtain ⟨O, q1, q2, q3⟩ := nat1_sep hN hg hne
  exact tunder_O g X u hX hu N y k O q3 h1 hb hk1 hk w0 q1 q2
end Go.Proofs.YtdeiodcfblldgaaDoor
namespace Go.Proofs.YtdeiodcfblldgaaDoor
open Go.RowKit
theorem en_wakes : Enters Tryd.prog 9 := fun args w => by simp [go_sem]
theorem en_kmod : Enters Tryd.prog 25 := fun args w => by simp [go_sem]
theorem ntext0_w (x : Value) (w : World) (hM : NatIn w (nv 0 x) 0) : Calls Tryd.prog 27 #[.agg #[nv 0 x]] w fun e w' => e = .returned (sB [48]) ∧ Below w.heap.size w w' := by
  obtain ⟨O, h1, h2, h3⟩ := nat1_O hM
  exact ntext_zero O h2 0 x h3 (by decide) rfl w h1
theorem MemS.apartO {S : Nat → Prop} {w0 w : World} {K O : Blks} {R : List Row} {g : Nat} {ob : Obj} (M : MemS S w0 w (K ++ O) R) (i : Nat) (hi : K[i]? = some (g, ob)) : ∀ x ∈ O, x.1 ≠ g := fun x hx => by
  obtain ⟨j, hj⟩ := List.mem_iff_getElem?.1 hx
  have hl : i < K.length := by
    rcases Nat.lt_or_ge i K.length with h | h
    · exact h
    · rw [List.getElem?_eq_none h] at hi; cases hi
  exact M.apart (K.length + j) i x (g, ob) (by rw [List.getElem?_append_right (Nat.le_add_right _ _), Nat.add_sub_cancel_left]; exact hj) (by rw [List.getElem?_append_left hl]; exact hi) (by omega)
theorem natO_ne {O : Blks} {N g : Nat} {y : Value} (h : NatO O (nv N y) N) (hg : ∀ x ∈ O, x.1 ≠ g) : ∀ g', (nv N y).ownBlock = some g' → g' ≠ g := fun g' hg' => by
  obtain ⟨p, c, h1, h2, _, _, h4⟩ := h
  rw [h1] at hg'
  rcases h4 with h4 | ⟨b, cs, T, fr, rfl, h5, h6⟩
  · have := (h2 (qz0 h4)).1
    subst this
    cases hg'
  · obtain rfl : b = g' := by simpa [Value.ownBlock] using hg'
    exact hg _ h5
/-- A whole number as one from 0 below m. -/
def modZ (z : Int) (m : Nat) : Nat := if 0 ≤ z then z.toNat % m else (18446744073709551616 - (-z).toNat) % m
theorem modZ_lt (z : Int) {m : Nat} (h : 0 < m) : modZ z m < m := by unfold modZ; split <;> exact Nat.mod_lt _ h
set_option maxRecDepth 100000 in
theorem kmod_pos (n m : Nat) (hn : n < 9223372036854775808) (h1 : 0 < m) (hm : m ≤ 65536) (w0 : World) :
    Calls Tryd.prog 25 #[iN n, iN m] w0 fun e w' => e = .returned (iN ((n) % m)) ∧ Below w0.heap.size w0 w' := by
  refine enter_fr Tryd.func25 rfl Tryd.ntmps25 (by simp) fun ac (FF : Fr 11 ac [(0, iN n), (1, iN m)]) => ?_
  have MM := MemS.start w0
  refine wp_seq (rg_seq FF MM [o_] [0, 1, 4] (fun Kt => Kt [(4, iN 0), (0, iN n), (1, iN m)] []) (by kernel_rfl) (fun _ => by kernel_rfl) (fun ac1 wd1 FF1 MM1 => then_n ?_))
  refine wp_seq (rg_seq FF1 MM1 [o_, w_ 1, o_, w_ 1, o_, w_ 1, o_] [4] (fun Kt => n < 18446744073709551616 ∧ m < 18446744073709551616 ∧ m ≠ 0 ∧ (n % m) < 9223372036854775808 ∧ Kt [(4, iN (n % m))] []) (by kernel_rfl) (fun _ => by kernel_rfl) (⟨(by have := hn; omega), (by have := hm; omega), (by have := hn; have := hm; omega), (Nat.lt_trans (Nat.mod_lt _ h1) (by omega)), fun ac2 wd2 FF2 MM2 => then_n ?_⟩))
  refine wp_ret ?_
  repeat first | refine then_ret ?_ | refine inb_ret ?_
  exact (ret_fr FF2 0 Tryd.results25 rfl ⟨rfl, MM2.below⟩)
set_option maxRecDepth 100000 in
theorem kmod_neg (n m : Nat) (h0 : 0 < n) (hn : n ≤ 9223372036854775808) (h1 : 0 < m) (hm : m ≤ 65536) (w0 : World) :
    Calls Tryd.prog 25 #[.int .i64 (-((n : Nat) : Int)), iN m] w0 fun e w' => e = .returned (iN ((18446744073709551616 - n) % m)) ∧ Below w0.heap.size w0 w' := by
  refine enter_fr Tryd.func25 rfl Tryd.ntmps25 (by simp) fun ac (FF : Fr 11 ac [(0, .int .i64 (-((n : Nat) : Int) : Int)), (1, iN m)]) => ?_
  have MM := MemS.start w0
  refine wp_seq (rg_seq FF MM [o_] [0, 1, 4] (fun Kt => Kt [(4, iN 0), (0, .int .i64 (-((n : Nat) : Int) : Int)), (1, iN m)] []) (by kernel_rfl) (fun _ => by kernel_rfl) (fun ac1 wd1 FF1 MM1 => then_n ?_))
  refine wp_seq (rg_seq FF1 MM1 [o_, f_ (iW (18446744073709551616 - n)), o_, w_ 1, o_, w_ 1, o_] [4] (fun Kt => RunV Tryd.prog [(5, .int .i64 (-((n : Nat) : Int) : Int)), (4, iN 0), (0, .int .i64 (-((n : Nat) : Int) : Int)), (1, iN m)] [] (opAt Tryd.f25 1 1) (iW (18446744073709551616 - n)) ∧ m < 18446744073709551616 ∧ m ≠ 0 ∧ ((18446744073709551616 - n) % m) < 9223372036854775808 ∧ Kt [(4, iN ((18446744073709551616 - n) % m))] []) (by kernel_rfl) (fun _ => by kernel_rfl) (⟨(negconv_ok (src := 3) (dst := 62) (x := (.tmp 5)) (n := n) (by kernel_rfl) rfl Tryd.underlying3 Tryd.underlying62 h0 (by omega)), (by have := hm; omega), (by have := hm; omega), (Nat.lt_trans (Nat.mod_lt _ h1) (by omega)), fun ac2 wd2 FF2 MM2 => then_n ?_⟩))
  refine wp_ret ?_
  repeat first | refine then_ret ?_ | refine inb_ret ?_
  exact (ret_fr FF2 0 Tryd.results25 rfl ⟨rfl, MM2.below⟩)
theorem kmod_any (z : Int) (m : Nat) (h1 : -9223372036854775808 ≤ z) (h2 : z < 9223372036854775808) (hm1 : 0 < m) (hm : m ≤ 65536) (w : World) : Calls Tryd.prog 25 #[.int .i64 z, iN m] w fun e w' => e = .returned (iN (modZ z m)) ∧ Below w.heap.size w w' := by
  unfold modZ
  split
  · obtain ⟨n, rfl⟩ := Int.eq_ofNat_of_zero_le (by assumption)
    exact kmod_pos n m (by omega) hm1 hm w
  · obtain ⟨n, hn⟩ := Int.eq_ofNat_of_zero_le (a := -z) (by omega)
    obtain rfl : z = -((n : Nat) : Int) := by omega
    rw [show (- -((n : Nat) : Int)).toNat = n by omega]
    exact kmod_neg n m (by omega) (by omega) hm1 hm w
set_option maxRecDepth 100000 in
theorem wakes_any (O : Blks) (hD : Distinct O) (hT : TabO O) (w0 : World) (H : Has w0 O) :
    Calls Tryd.prog 9 #[] w0 fun e w' => e = .returned (.bool true) ∧ Below w0.heap.size w0 w' := by
  refine enter_fr Tryd.func9 rfl Tryd.ntmps9 (by simp) fun ac (FF : Fr 56 ac []) => ?_
  have MM : MemS (fun k => k < w0.heap.size ∧ ∀ x ∈ O, x.1 ≠ k) w0 w0 O [] := MemS.startN H hD
  refine wp_seq (rg_seq FF MM [o_] [0] (fun Kt => Kt [(0, .bool false)] O) (by kernel_rfl) (fun _ => by kernel_rfl) (fun ac1 wd1 FF1 MM1 => then_n ?_))
  refine wp_seq (wp_region_list ?_)
  refine st_callE [0, 9] FF1 (d := 9) (mk := fun v => v) en_tnew rfl rfl (tnew_any ([255, 255, 7, 0, 97, 98]) _) rfl (by kernel_rfl) (by decide) fun ac3 wd3 lv2 (FF3 : Fr 56 ac3 [(9, lv2), (0, .bool false)]) hr4 => ?_
  obtain ⟨gt, rfl, hB_gt, hf_gt, hb_gt⟩ := hr4
  have MM5 := MM1.keep hB_gt
  have MM6 : MemS (fun k => k < w0.heap.size ∧ ∀ x ∈ O, x.1 ≠ k) w0 wd3 ((gt, oC #[sB ([255, 255, 7, 0, 97, 98]), iN 0] 73) :: O) [] := MM1.addFresh MM5 hb_gt hf_gt
  refine rg_part 1 FF3 MM6 [o_] [0, 1] (fun Kt => Kt [(1, pT gt), (0, .bool false)] ((gt, oC #[sB ([255, 255, 7, 0, 97, 98]), iN 0] 73) :: O)) (by kernel_rfl) (fun _ => by kernel_rfl) (fun ac7 wd7 FF7 MM7 => ?_)
  refine wpl_nil (then_n ?_)
  refine wp_seq (rg_seq FF7 MM7 [o_, c_ (.tuple #[iN 7, iN 0]) [(0, oC #[sB ([97, 98]), iN 4] 73)], o_, o_, o_, o_, o_] [1, 0, 2, 3] (fun Kt => CallU Tryd.prog 17 [pT gt, iN 10, iN 2] ((gt, oC #[sB ([255, 255, 7, 0, 97, 98]), iN 0] 73) :: O) (.tuple #[iN 7, iN 0]) [(0, oC #[sB ([97, 98]), iN 4] 73)] ∧ Kt [(3, iN 0), (2, iN 7), (1, pT gt), (0, .bool false)] ((gt, oC #[sB ([97, 98]), iN 4] 73) :: O)) (by kernel_rfl) (fun _ => by kernel_rfl) (⟨(callU_turn en_tbelow (g := gt) (ob := TB ([255, 255, 7, 0, 97, 98]) 0) rfl fun w hg => by have h0 := tbelow_any gt ([255, 255, 7, 0, 97, 98]) 0 (lit_lt (by kernel_rfl)) (by decide) 10 2 (by decide) (by decide) (by decide) (by decide) w hg; rw [show belN 10 2 [255, 255, 7, 0, 97, 98] = (7, 0, 4) by decide +kernel] at h0; exact h0), fun ac8 wd8 FF8 MM8 => then_n ?_⟩))
  refine wp_seq (rg_seq FF8 MM8 [o_, c_ (sB ([97, 98, 0])) [(0, oC #[sB [], iN 7] 73)], o_] [3, 2, 1, 0, 4] (fun Kt => CallU Tryd.prog 11 [pT gt, iN 3] ((gt, oC #[sB ([97, 98]), iN 4] 73) :: O) (sB ([97, 98, 0])) [(0, oC #[sB [], iN 7] 73)] ∧ Kt [(4, sB ([97, 98, 0])), (3, iN 0), (2, iN 7), (1, pT gt), (0, .bool false)] ((gt, oC #[sB [], iN 7] 73) :: O)) (by kernel_rfl) (fun _ => by kernel_rfl) (⟨(callU_turn en_take (g := gt) (ob := TB ([97, 98]) 4) rfl fun w hg => by have h0 := take_any gt 3 ([97, 98]) 4 (lit_lt (by kernel_rfl)) (by decide) (by decide) w hg; rw [show takN 3 [97, 98] = [97, 98, 0] by decide] at h0; exact h0), fun ac9 wd9 FF9 MM9 => then_n ?_⟩))
  refine wp_seq (rg_seq FF9 MM9 [o_, t_ (.tuple #[iN 0, iN 1]), o_, o_, o_, o_, o_] [4, 3, 2, 1, 0, 6] (fun Kt => CallP Tryd.prog 17 [pT gt, iN 0, iN 1] [] (.tuple #[iN 0, iN 1]) ∧ Kt [(6, iN 1), (4, sB ([97, 98, 0])), (3, iN 0), (2, iN 7), (1, pT gt), (0, .bool false)] ((gt, oC #[sB [], iN 7] 73) :: O)) (by kernel_rfl) (fun _ => by kernel_rfl) (⟨(callP_of en_tbelow (tbelow_lo gt ((0 : Nat) : Int) ((1 : Nat) : Int)  (by decide)) _), fun ac10 wd10 FF10 MM10 => then_n ?_⟩))
  refine wp_seq (wp_region_list ?_)
  refine rg_part 1 FF10 MM10 [o_] [6, 4, 3, 2, 1, 0, 23] (fun Kt => Kt [(23, pT gt), (6, iN 1), (4, sB ([97, 98, 0])), (3, iN 0), (2, iN 7), (1, pT gt), (0, .bool false)] ((gt, oC #[sB [], iN 7] 73) :: O)) (by kernel_rfl) (fun _ => by kernel_rfl) (fun ac11 wd11 FF11 MM11 => ?_)
  refine st_callE [23, 6, 4, 3, 2, 1, 0, 24] FF11 (d := 24) (mk := fun v => .agg #[nv (3) v]) en_nof rfl rfl (nof_any 3 (by decide) _) rfl (by kernel_rfl) (by decide) fun ac13 wd13 lv12 (FF13 : Fr 56 ac13 [(24, aG #[nv 3 lv12]), (23, pT gt), (6, iN 1), (4, sB ([97, 98, 0])), (3, iN 0), (2, iN 7), (1, pT gt), (0, .bool false)]) hr14 => ?_
  obtain ⟨O15, MM160, hN17, hs18⟩ := MemS.addNats (K := [(gt, oC #[sB [], iN 7] 73)]) (O := O) MM11 hr14.1 hr14.2 (Nats.nil O)
  have MM16 : MemS (fun k => k < w0.heap.size ∧ ∀ x ∈ O, x.1 ≠ k) w0 wd13 ((gt, oC #[sB [], iN 7] 73) :: O15) [] := MM160
  have hT_19 := hT.mono hs18
  refine st_callE [6, 4, 3, 2, 1, 0, 25] FF13 (d := 25) (mk := fun v => .tuple #[.agg #[nv 0 v], iN 0]) en_tunder rfl rfl (by have h0 := tunder_any gt [] 7 (lit_lt (by kernel_rfl)) (by decide) 3 lv12 1 (by decide +kernel) (by decide +kernel) (by decide) (by decide) wd13 (MM16.get 0 rfl) ((hN17.get 0 rfl).at (Has.tl MM16.hasL)) (natO_ne (hN17.get 0 rfl) (MemS.apartO (K := [(gt, oC #[sB [], iN 7] 73)]) MM16 0 rfl)); rw [show undN 3 (bsz 3) 1 [] = (0, 0, 1) by decide +kernel] at h0; exact h0) rfl (by kernel_rfl) (by decide) fun ac21 wd21 lv20 (FF21 : Fr 56 ac21 [(25, .tuple #[aG #[nv 0 lv20], iN 0]), (6, iN 1), (4, sB ([97, 98, 0])), (3, iN 0), (2, iN 7), (1, pT gt), (0, .bool false)]) hr22 => ?_
  obtain ⟨ht9, hn9⟩ := hr22
  have MM23 : MemS (fun k => k < w0.heap.size ∧ ∀ x ∈ O, x.1 ≠ k) w0 wd21 ((gt, oC #[sB [], iN 8] 73) :: O15) [] := MM16.turnAt ht9 0 rfl
  obtain ⟨O24, MM250, hN26, hs27⟩ := MemS.addNatsT (K := [(gt, oC #[sB [], iN 8] 73)]) (O := O15) MM16 MM23 rfl hn9 hN17
  have MM25 : MemS (fun k => k < w0.heap.size ∧ ∀ x ∈ O, x.1 ≠ k) w0 wd21 ((gt, oC #[sB [], iN 8] 73) :: O24) [] := MM250
  have hT_28 := hT_19.mono hs27
  have hz29 : ∀ x ∈ O, x ∈ O24 := fun x hx => hs27 x (hs18 x hx)
  refine rg_part 6 FF21 MM25 [o_, o_, o_, o_, b_ 0, o_] [6, 4, 3, 2, 1, 0, 7, 8] (fun Kt => ∀ bv, bv = bv ∧ (#[.slice none 0 0] : Array Value).size = 1 ∧ (#[nv 0 lv20] : Array Value).size = 1 ∧ (#[nv 0 lv20] : Array Value).all (·.oneCell') = true ∧ (0, 0).2 = 0 ∧ Kt [(8, iN 0), (7, pT bv), (6, iN 1), (4, sB ([97, 98, 0])), (3, iN 0), (2, iN 7), (1, pT gt), (0, .bool false)] ((bv, oC #[nv 0 lv20] 49) :: (gt, oC #[sB [], iN 8] 73) :: O24)) (by kernel_rfl) (fun _ => by kernel_rfl) (fun bv => ⟨rfl, rfl, rfl, (by kernel_rfl), rfl, fun ac30 wd30 FF30 MM30 => ?_⟩)
  refine wpl_nil (then_n ?_)
  refine wp_seq (rg_seq FF30 MM30 [o_, w_ 2, o_, o_, w_ 2, o_, o_, o_, w_ 2, o_, o_, o_, w_ 2, o_, o_, b_ 0, u_ 1 (sB [48]), w_ 2, o_, o_, o_, w_ 2, o_, o_, o_, u_ 1 (iN 8), w_ 2, o_, o_] [7, 1, 0] (fun Kt => 7 = 7 ∧ 0 = 0 ∧ bs ([97, 98, 0]) = bs ([97, 98, 0]) ∧ 1 = 1 ∧ bv = bv ∧ (#[nv 0 lv20] : Array Value).size = 1 ∧ CallP Tryd.prog 27 [aG #[nv 0 lv20]] ((bv, oC #[nv 0 lv20] 49) :: (gt, oC #[sB [], iN 8] 73) :: O24) (sB [48]) ∧ bs [48] = bs [48] ∧ 0 = 0 ∧ CallP Tryd.prog 24 [pT gt] ((bv, oC #[nv 0 lv20] 49) :: (gt, oC #[sB [], iN 8] 73) :: O24) (iN 8) ∧ 8 = 8 ∧ Kt [(0, .bool true), (7, pT bv), (1, pT gt)] ((bv, oC #[nv 0 lv20] 49) :: (gt, oC #[sB [], iN 8] 73) :: O24)) (by kernel_rfl) (fun _ => by kernel_rfl) (⟨(by decide), (by decide), rfl, (by decide), rfl, rfl, ⟨en_ntext, fun w Hw => ntext0_w lv20 w ((hN26.get 0 rfl).at (Has.tl (Has.tl Hw)))⟩, rfl, (by decide), ⟨en_tused, fun w Hw => tused_any gt [] 8 w (Hw 1 _ rfl)⟩, (by decide), fun ac31 wd31 FF31 MM31 => then_n ?_⟩))
  refine wp_ret ?_
  repeat first | refine then_ret ?_ | refine inb_ret ?_
  exact (ret_fr FF31 0 Tryd.results9 rfl ⟨rfl, MM31.belowN H (fun _ hx => List.mem_cons_of_mem _ (List.mem_cons_of_mem _ (hz29 _ hx)))⟩)
theorem wakes_w (w : World) (hT : TabIn w) : Calls Tryd.prog 9 #[] w fun e w' => e = .returned (.bool true) ∧ Below w.heap.size w w' := by
  obtain ⟨O, g1, g2, g3⟩ := tab_O hT
  exact wakes_any O (distinct_of g2) g3 w g1
end Go.Proofs.YtdeiodcfblldgaaDoor
namespace Go.Proofs.YtdeiodcfblldgaaDoor
open Go.RowKit
theorem two8 (v : Nat) : ∀ i, [v % 256, v / 256 % 256].getD i 0 < 256 := fun i => by
  match i with
  | 0 => exact Nat.mod_lt _ (by decide)
  | 1 => exact Nat.mod_lt _ (by decide)
  | i + 2 => simp
theorem two_v {v : Nat} (h : v < 65536) : twoN [v % 256, v / 256 % 256] = v := by
  show v % 256 + 256 * (v / 256 % 256) = v
  omega
theorem bel1_yes {v m : Nat} (h : v < 65536) (hv : v < 65536 - 65536 % m) : belN m 1 [v % 256, v / 256 % 256] = (v % m, 0, 2) := by
  rw [belN, two_v h, if_pos hv]
theorem bel1_no {v m : Nat} (h : v < 65536) (hv : ¬ v < 65536 - 65536 % m) : belN m 1 [v % 256, v / 256 % 256] = (0, 3, 2) := by
  rw [belN, two_v h, if_neg hv]; rfl
theorem row_whole (m : Nat) : 65536 / m * m = 65536 - 65536 % m := by have := Nat.div_add_mod 65536 m; rw [Nat.mul_comm] at this; omega
set_option maxRecDepth 100000 in
theorem flat_any (O : Blks) (hD : Distinct O) (hT : TabO O) (v : Nat) (hv16 : v < 65536) (z : Int) (hz1 : -9223372036854775808 ≤ z) (hz2 : z < 9223372036854775808) (m : Nat) (hm : 1 + modZ z 65536 = m) (w0 : World) (H : Has w0 O) :
    Calls Tryd.prog 4 #[.int .u16 (v : Nat), .int .i64 z] w0 fun e w' => e = .returned (.bool true) ∧ Below w0.heap.size w0 w' := by
  refine enter_fr Tryd.func4 rfl Tryd.ntmps4 (by simp) fun ac (FF : Fr 65 ac [(0, .int .u16 (v : Nat)), (1, .int .i64 (z : Int))]) => ?_
  have MM : MemS (fun k => k < w0.heap.size ∧ ∀ x ∈ O, x.1 ≠ k) w0 w0 O [] := MemS.startN H hD
  refine wp_seq (rg_seq FF MM [o_] [0, 1, 4] (fun Kt => Kt [(4, .bool false), (0, .int .u16 (v : Nat)), (1, .int .i64 (z : Int))] O) (by kernel_rfl) (fun _ => by kernel_rfl) (fun ac1 wd1 FF1 MM1 => then_n ?_))
  have hmb : 1 ≤ m ∧ m ≤ 65536 := by have := modZ_lt z (m := 65536) (by decide); omega
  refine wp_seq (rg_seq FF1 MM1 [o_, t_ (iN (modZ z 65536)), t_ (iN m), o_] [4, 0, 5] (fun Kt => CallP Tryd.prog 25 [.int .i64 (z : Int), iN 65536] [] (iN (modZ z 65536)) ∧ 1 + (modZ z 65536) < 9223372036854775808 ∧ iN (1 + (modZ z 65536)) = iN m ∧ Kt [(5, iN m), (4, .bool false), (0, .int .u16 (v : Nat))] O) (by kernel_rfl) (fun _ => by kernel_rfl) (⟨(callP_of en_kmod (kmod_any z 65536 hz1 hz2 (by decide) (by decide)) _), (by have := modZ_lt z (m := 65536) (by decide); omega), (vI hm), fun ac2 wd2 FF2 MM2 => then_n ?_⟩))
  refine wp_seq (wp_region_list ?_)
  refine rg_part 7 FF2 MM2 [o_, o_, o_, o_, o_, o_, l_ 0 (sB ([v % 256, v / 256 % 256]))] [5, 4, 0, 18] (fun Kt => 8 ≤ 16 ∧ ∀ bl, bl = bl ∧ StrAt (cn .u8 ([v % 256, (v / 256) % 256])) 0 2 (bs ([v % 256, v / 256 % 256])) ∧ Kt [(18, sB ([v % 256, v / 256 % 256])), (5, iN m), (4, .bool false), (0, .int .u16 (v : Nat))] ((bl, .cells (cn .u8 ([v % 256, (v / 256) % 256])) 5) :: O)) (by kernel_rfl) (fun _ => by kernel_rfl) (⟨(by decide), fun bl => ⟨rfl, (str_all rfl (two8 v)), fun ac3 wd3 FF3 MM3 => ?_⟩⟩)
  refine st_callE [5, 4, 0, 19] FF3 (d := 19) (mk := fun v => v) en_tnew rfl rfl (tnew_any ([v % 256, v / 256 % 256]) _) rfl (by kernel_rfl) (by decide) fun ac5 wd5 lv4 (FF5 : Fr 65 ac5 [(19, lv4), (5, iN m), (4, .bool false), (0, .int .u16 (v : Nat))]) hr6 => ?_
  obtain ⟨gt, rfl, hB_gt, hf_gt, hb_gt⟩ := hr6
  have MM7 := MM3.keep hB_gt
  have MM8 : MemS (fun k => k < w0.heap.size ∧ ∀ x ∈ O, x.1 ≠ k) w0 wd5 ((gt, oC #[sB ([v % 256, v / 256 % 256]), iN 0] 73) :: (bl, .cells (cn .u8 ([v % 256, (v / 256) % 256])) 5) :: O) [] := MM3.addFresh MM7 hb_gt hf_gt
  refine rg_part 1 FF5 MM8 [o_] [5, 4, 0, 6] (fun Kt => Kt [(6, pT gt), (5, iN m), (4, .bool false), (0, .int .u16 (v : Nat))] ((gt, oC #[sB ([v % 256, v / 256 % 256]), iN 0] 73) :: (bl, .cells (cn .u8 ([v % 256, (v / 256) % 256])) 5) :: O)) (by kernel_rfl) (fun _ => by kernel_rfl) (fun ac9 wd9 FF9 MM9 => ?_)
  refine wpl_nil (then_n ?_)
  by_cases hvm : v < 65536 - 65536 % m
  · skip
    refine wp_seq (rg_seq FF9 MM9 [o_, o_, c_ (.tuple #[iN (v % m), iN 0]) [(0, oC #[sB [], iN 2] 73)], o_, o_, o_, o_, o_] [6, 5, 4, 0, 7, 8] (fun Kt => CallU Tryd.prog 17 [pT gt, iN m, iN 1] ((gt, oC #[sB ([v % 256, v / 256 % 256]), iN 0] 73) :: (bl, .cells (cn .u8 ([v % 256, (v / 256) % 256])) 5) :: O) (.tuple #[iN (v % m), iN 0]) [(0, oC #[sB [], iN 2] 73)] ∧ Kt [(8, iN 0), (7, iN (v % m)), (6, pT gt), (5, iN m), (4, .bool false), (0, .int .u16 (v : Nat))] ((gt, oC #[sB [], iN 2] 73) :: (bl, .cells (cn .u8 ([v % 256, (v / 256) % 256])) 5) :: O)) (by kernel_rfl) (fun _ => by kernel_rfl) (⟨(callU_turn en_tbelow (g := gt) (ob := TB ([v % 256, v / 256 % 256]) 0) rfl fun w hg => by have h0 := tbelow_any gt ([v % 256, v / 256 % 256]) 0 (two8 v) (by decide) m 1 (by omega) (by omega) (by decide) (by decide) w hg; rw [bel1_yes hv16 hvm] at h0; exact h0), fun ac10 wd10 FF10 MM10 => then_n ?_⟩))
    refine wp_seq ?_
    refine wp_seq (rg_seq FF10 MM10 [o_, w_ 1, o_, o_, o_, t_ (iN (65536 - 65536 % m)), w_ 3] [8, 7, 6, 5, 4, 0, 32] (fun Kt => v < 9223372036854775808 ∧ m ≠ 0 ∧ 65536 / m < 9223372036854775808 ∧ (65536 / m) * m < 9223372036854775808 ∧ iN ((65536 / m) * m) = iN (65536 - 65536 % m) ∧ ¬ (v ≥ (65536 - 65536 % m)) ∧ Kt [(32, .bool false), (8, iN 0), (7, iN (v % m)), (6, pT gt), (5, iN m), (4, .bool false), (0, .int .u16 (v : Nat))] ((gt, oC #[sB [], iN 2] 73) :: (bl, .cells (cn .u8 ([v % 256, (v / 256) % 256])) 5) :: O)) (by kernel_rfl) (fun _ => by kernel_rfl) (⟨(by have := hv16; omega), (by have := hmb; omega), (Nat.lt_of_le_of_lt (Nat.div_le_self _ _) (by decide)), (by rw [row_whole]; omega), (vI (row_whole m)), (by omega), fun ac11 wd11 FF11 MM11 => then_n ?_⟩))
    refine wp_cond_false (FF11.ev 0 rfl) ?_
    refine wp_skip ?_
    refine then_n ?_
    refine wp_seq (rg_seq FF11 MM11 [o_, w_ 2, o_, o_, o_, w_ 1, o_, o_, w_ 2, o_, o_, o_, u_ 1 (iN 2), w_ 2, o_, o_, u_ 1 (.bool true), o_, o_] [8, 7, 6, 5, 4, 0] (fun Kt => 0 = 0 ∧ v < 9223372036854775808 ∧ m ≠ 0 ∧ (v % m) = (v % m) ∧ CallP Tryd.prog 24 [pT gt] ((gt, oC #[sB [], iN 2] 73) :: (bl, .cells (cn .u8 ([v % 256, (v / 256) % 256])) 5) :: O) (iN 2) ∧ 2 = 2 ∧ CallP Tryd.prog 9 [] ((gt, oC #[sB [], iN 2] 73) :: (bl, .cells (cn .u8 ([v % 256, (v / 256) % 256])) 5) :: O) (.bool true) ∧ Kt [(4, .bool true), (8, iN 0), (7, iN (v % m)), (6, pT gt), (5, iN m), (0, .int .u16 (v : Nat))] ((gt, oC #[sB [], iN 2] 73) :: (bl, .cells (cn .u8 ([v % 256, (v / 256) % 256])) 5) :: O)) (by kernel_rfl) (fun _ => by kernel_rfl) (⟨(by decide), (by have := hv16; omega), (by have := hv16; have := hmb; omega), rfl, ⟨en_tused, fun w Hw => tused_any gt [] 2 w (Hw 0 _ rfl)⟩, (by decide), ⟨en_wakes, fun w Hw => wakes_w w (hT.at (Has.tl (Has.tl Hw)))⟩, fun ac12 wd12 FF12 MM12 => then_n ?_⟩))
    refine wp_ret ?_
    repeat first | refine then_ret ?_ | refine inb_ret ?_
    exact (ret_fr FF12 0 Tryd.results4 rfl ⟨rfl, MM12.belowN H (fun _ hx => List.mem_cons_of_mem _ (List.mem_cons_of_mem _ (hx)))⟩)
  · skip
    refine wp_seq (rg_seq FF9 MM9 [o_, o_, c_ (.tuple #[iN 0, iN 3]) [(0, oC #[sB [], iN 2] 73)], o_, o_, o_, o_, o_] [6, 5, 4, 0, 7, 8] (fun Kt => CallU Tryd.prog 17 [pT gt, iN m, iN 1] ((gt, oC #[sB ([v % 256, v / 256 % 256]), iN 0] 73) :: (bl, .cells (cn .u8 ([v % 256, (v / 256) % 256])) 5) :: O) (.tuple #[iN 0, iN 3]) [(0, oC #[sB [], iN 2] 73)] ∧ Kt [(8, iN 3), (7, iN 0), (6, pT gt), (5, iN m), (4, .bool false), (0, .int .u16 (v : Nat))] ((gt, oC #[sB [], iN 2] 73) :: (bl, .cells (cn .u8 ([v % 256, (v / 256) % 256])) 5) :: O)) (by kernel_rfl) (fun _ => by kernel_rfl) (⟨(callU_turn en_tbelow (g := gt) (ob := TB ([v % 256, v / 256 % 256]) 0) rfl fun w hg => by have h0 := tbelow_any gt ([v % 256, v / 256 % 256]) 0 (two8 v) (by decide) m 1 (by omega) (by omega) (by decide) (by decide) w hg; rw [bel1_no hv16 hvm] at h0; exact h0), fun ac13 wd13 FF13 MM13 => then_n ?_⟩))
    refine wp_seq ?_
    refine wp_seq (rg_seq FF13 MM13 [o_, w_ 1, o_, o_, o_, t_ (iN (65536 - 65536 % m)), w_ 2] [8, 7, 6, 5, 4, 0, 32] (fun Kt => v < 9223372036854775808 ∧ m ≠ 0 ∧ 65536 / m < 9223372036854775808 ∧ (65536 / m) * m < 9223372036854775808 ∧ iN ((65536 / m) * m) = iN (65536 - 65536 % m) ∧ v ≥ (65536 - 65536 % m) ∧ Kt [(32, .bool true), (8, iN 3), (7, iN 0), (6, pT gt), (5, iN m), (4, .bool false), (0, .int .u16 (v : Nat))] ((gt, oC #[sB [], iN 2] 73) :: (bl, .cells (cn .u8 ([v % 256, (v / 256) % 256])) 5) :: O)) (by kernel_rfl) (fun _ => by kernel_rfl) (⟨(by have := hv16; omega), (by have := hmb; omega), (Nat.lt_of_le_of_lt (Nat.div_le_self _ _) (by decide)), (by rw [row_whole]; omega), (vI (row_whole m)), (by omega), fun ac14 wd14 FF14 MM14 => then_n ?_⟩))
    refine wp_cond_true (FF14.ev 0 rfl) ?_
    refine wp_seq (rg_seq FF14 MM14 [o_, w_ 2, o_, o_, w_ 2, o_, o_, o_, u_ 1 (iN 2), w_ 2, o_, o_, u_ 1 (.bool true), o_, o_] [8, 7, 6, 5, 4, 0] (fun Kt => 3 = 3 ∧ 0 = 0 ∧ CallP Tryd.prog 24 [pT gt] ((gt, oC #[sB [], iN 2] 73) :: (bl, .cells (cn .u8 ([v % 256, (v / 256) % 256])) 5) :: O) (iN 2) ∧ 2 = 2 ∧ CallP Tryd.prog 9 [] ((gt, oC #[sB [], iN 2] 73) :: (bl, .cells (cn .u8 ([v % 256, (v / 256) % 256])) 5) :: O) (.bool true) ∧ Kt [(4, .bool true), (8, iN 3), (7, iN 0), (6, pT gt), (5, iN m), (0, .int .u16 (v : Nat))] ((gt, oC #[sB [], iN 2] 73) :: (bl, .cells (cn .u8 ([v % 256, (v / 256) % 256])) 5) :: O)) (by kernel_rfl) (fun _ => by kernel_rfl) (⟨(by decide), (by decide), ⟨en_tused, fun w Hw => tused_any gt [] 2 w (Hw 0 _ rfl)⟩, (by decide), ⟨en_wakes, fun w Hw => wakes_w w (hT.at (Has.tl (Has.tl Hw)))⟩, fun ac15 wd15 FF15 MM15 => then_n ?_⟩))
    refine wp_ret ?_
    repeat first | refine then_ret ?_ | refine inb_ret ?_
    exact (ret_fr FF15 0 Tryd.results4 rfl ⟨rfl, MM15.belowN H (fun _ hx => List.mem_cons_of_mem _ (List.mem_cons_of_mem _ (hx)))⟩)
end Go.Proofs.YtdeiodcfblldgaaDoor
namespace Go.Proofs.YtdeiodcfblldgaaDoor
open Go.RowKit
def pw10 : List Nat := [1, 10, 100, 1000, 10000, 100000, 1000000, 10000000, 100000000, 1000000000, 10000000000, 100000000000, 1000000000000, 10000000000000, 100000000000000, 1000000000000000, 10000000000000000, 100000000000000000, 1000000000000000000, 10000000000000000000]
theorem pw10_at : ∀ i : Fin 20, pw10[i.val]? = some (10 ^ i.val) := by decide +kernel
theorem tab_in {w : World} {T : TypeId} {fr : Nat × Nat} (h : w.heap[2]? = some (.cells (cn .u64 pw10) T fr)) : TabIn w := .inr ⟨2, _, T, fr, rfl, h, fun j hj => by
  have := pw10_at ⟨j, hj⟩
  simp [cn, this]⟩
end Go.Proofs.YtdeiodcfblldgaaDoor
namespace Go.Proofs.YtdeiodcfblldgaaDoor
open Go.ChangeShapes Go.WideShapes Go.ChangeAt Go.RowKit
theorem Tryd.own : ownKnob Tryd.prog.godebug = Option.none := by kernel_rfl
theorem Tryd.laidOut : laidOutB Tryd.prog = true := by kernel_rfl
section
variable {H : Type} {enc : TypeId × Value → H} {P : Program}
theorem trodAll_below (hl : laidOutB P = true) {W W' : World} (hb : Below W.heap.size W W') : ∀ (ts : List TypeId) (vs : List Value) (ds : List (DataW H)) (ps : List MemPlace), (∀ t ∈ ts, P.readableRec t = true ∧ t < P.types.size) →
    DataW.TrodAll enc P W 0 (fun _ => true) true ts vs ds ps → (∀ x ∈ ps, x.block < W.heap.size) → DataW.TrodAll enc P W' 0 (fun b => decide (b < W.heap.size)) true ts vs ds ps
  | [], [], [], _, _, h, _ => h
  | t :: ts, v :: vs, d :: ds, ps, hr, ⟨p, q, h1, h2, e⟩, hlt => by
    subst e
    obtain ⟨r1, r2⟩ := hr t (by simp)
    exact ⟨p, q, Below.trod hl r1 r2 h1 hb (fun x hx => hlt x (by simp [hx])), trodAll_below hl hb ts vs ds q (fun t ht => hr t (by simp [ht])) h2 (fun x hx => hlt x (by simp [hx])), rfl⟩
  | [], [], _ :: _, _, _, h, _ => h.elim
  | [], _ :: _, _, _, _, h, _ => by cases h
  | _ :: _, [], _, _, _, h, _ => by cases h
  | _ :: _, _ :: _, [], _, _, h, _ => h.elim
/-- What is asked behind a law's walk. -/
theorem post_true {f : Func} {s : ChangeSpec} {W W' : World} {args : Array Value} {ds : List (DataW H)} {before : List MemPlace} {T : TypeId} (hl : laidOutB P = true) (hr : ∀ t ∈ f.params.toList, P.readableRec t = true ∧ t < P.types.size) (hv : s.vars = [])
    (hW : DataW.Whole enc P f.params.toList s.vars false W args.toList ds [] before) (hres : (s.fn H (ds ++ [])).results = [.lit (.bool true)]) (hargs : (s.fn H (ds ++ [])).args = ds) (hvs : (s.fn H (ds ++ [])).vars = [])
    (hT : f.resultTypes = #[T]) (hu : P.underlying T = some .bool) (hb : Below W.heap.size W W') : s.post enc P f false true false false W args (.bool true) W' := by
  have hlt := hW.lt
  have hW' := hW
  obtain ⟨p, q, hA, hV, rfl, _, _⟩ := hW'
  refine ⟨ds, [], p ++ q, [], p, [], hW, ?_, ?_, ?_, hb.frame _, fun h => by cases h⟩
  · rw [hres, hT]
    exact trodAll_cons_mk (shut_bool hu _) rfl
  · rw [hargs]
    exact trodAll_below hl hb _ _ _ _ hr hA (fun x hx => hlt x (by simp [hx]))
  · rw [hvs, hv]
    exact rfl
end
section
variable {H : Type} {enc : TypeId × Value → H} {P : Program}
end
end Go.Proofs.YtdeiodcfblldgaaDoor
namespace Go.Proofs.YtdeiodcfblldgaaDoor
open Go.RowKit
theorem laid_mem {P : Program} {W : World} : ∀ (laid : List (String × DataW Unit)) (ps : List MemPlace), DataW.LaidVars P W laid ps → ∀ x ∈ laid, ∃ g t cs fuel p, P.globalNamed x.1 = some g ∧ (P.globals[g]?).map (·.type) = some t ∧ W.var? P x.1 = some cs ∧ DataW.trod (fun _ => ()) P W 0 (fun _ => true) false fuel t cs.toList = some (x.2, p)
  | [], _, _, _, hx => by cases hx
  | (n, d) :: r, ps, h, x, hx => by
    obtain ⟨g, t, cs, fuel, p, q, h1, h2, h3, h4, h5, _⟩ := h
    rcases List.mem_cons.1 hx with rfl | hx
    · exact ⟨g, t, cs, fuel, p, h1, h2, h3, h4⟩
    · exact laid_mem r q h5 x hx
/-- A table of numbers that is laid lies in its block. -/
theorem tab_of {P : Program} {W : World} {laid : List (String × DataW Unit)} {n : String} {D : DataW Unit} {g : Nat} {t e : TypeId} {m : Nat} {k : IntKind} {K : List Nat} (h : laidMetH P laid W) (hH : (laid.all fun x => x.2.handleName?.isNone) = true) (hx : (n, D) ∈ laid)
    (hg : P.globalNamed n = some g) (ht : (P.globals[g]?).map (·.type) = some t) (hu : P.underlying t = some (.array m e)) (he : P.underlying e = some (.int k)) (hc : P.cellsOf e = 1) (hct : P.cellsOf t = m) (hD : D = .agg (K.map fun (x : Nat) => .lit (.int k (x : Int)))) (hK : K.length = m) :
    ∃ T fr, W.heap[g]? = some (.cells (cn k K) T fr) := by
  rw [MakeChecks.laidMetH_plain _ _ _ hH] at h
  obtain ⟨ps, hl, _⟩ := h
  obtain ⟨g', t', cs, fuel, p, h1, h2, h3, h4⟩ := laid_mem laid ps hl _ hx
  obtain rfl := Option.some.inj (hg.symm.trans h1)
  obtain rfl := Option.some.inj (ht.symm.trans h2)
  have hb : ∃ T fr, W.heap[g]? = some (.cells cs T fr) := by
    simp only [World.var?, hg, Option.bind_some] at h3
    split at h3
    · rename_i c T fr hb
      cases h3
      exact ⟨T, fr, hb⟩
    · cases h3
  obtain ⟨T, fr, hb⟩ := hb
  refine ⟨T, fr, ?_⟩
  rw [hb]
  obtain ⟨xs, m1, _, hx1, hlen, hn, hel⟩ := DataW.trod_array hu h4
  have hx2 : D = .agg (xs.map fun x => x.1) := (Prod.mk.inj hx1).1
  rw [hD] at hx2
  have hx3 : (K.map fun (x : Nat) => (DataW.lit (.int k (x : Int)) : DataW Unit)) = xs.map fun x => x.1 := by injection hx2
  have hcs : cs = cn k K := by
    refine Array.ext_getElem? fun i => ?_
    rcases Nat.lt_or_ge i m with hi | hi
    · have e1 := hel i hi
      have e2 : xs[i]? = some (xs[i]'(by omega)) := by simp
      rw [e2, hc] at e1
      obtain ⟨z, e3, e4, _⟩ := DataW.trod_int he e1
      have e5 := congrArg (fun l => l[i]?) hx3
      simp only [List.getElem?_map, e2, e4, List.getElem?_eq_getElem (show i < K.length by omega), Option.map_some, Option.some.injEq, DataW.lit.injEq, Lit.int.injEq] at e5
      have e6 := congrArg (fun l => l[0]?) e3
      rw [Nat.mul_one] at e6
      have e7 : cs[i]? = some (.int k z) := by simpa using e6
      rw [e7, cn_get k K i (by omega), ← e5.2]
      simp [show i < K.length by omega]
    · rw [Array.getElem?_eq_none (by rw [← Array.length_toList, hlen, hct]; exact hi), Array.getElem?_eq_none (by rw [cn_size, hK]; exact hi)]
  rw [hcs]
end Go.Proofs.YtdeiodcfblldgaaDoor
