/- Several texts in one: Package nat: a row, and a number times a word. Package nat: a product of two rows. Package nat: products. Package nat: powers. Package nat: a copy of a row. Package nat: differences. Numbers as groups of decimal digits, the lowest first. No program in this text. Words divided by a group; groups of decimal digits. No program in this text. Package nat: a row divided by a group. What strings.Builder's own text does: a pointer held against nil and against itself, turned to a bare pointer and back; a row's bytes as a string. strings.Builder: WriteString, String. Package nat: the digits of a row. -/
import Derived.Test.YtlljedijldkcbaaDoorZ4
import Derived.Test.YtlljedijldkcbaaDoorZ2
import Derived.Laws.Externs
namespace Go.Proofs.YtlljedijldkcbaaDoor
open Go.RowKit
theorem mt_len {A C : List Nat} {f n V N x k : Nat} (hA : A.length = f) : (midL A (mtL n V N x k) C).length = f + n + C.length := by rw [midL_len, mtL_len, hA]
set_option maxRecDepth 100000 in
theorem addt_O (g f cp : Nat) (A C : List Nat) (V N x : Nat) (y : Value) (O : Blks) (hA : A.length = f) (hx : x < 18446744073709551616) (hV : V < 18446744073709551616 ^ qsz N) (hN : NatO O (nv N y) N) (hs : qsz N < 1000000) (w0 : World) (H : Has w0 ((g, Obj.cells (cn .u64 (midL A (qleB (qsz N) V) C)) 61) :: O)) (hD : Distinct ((g, Obj.cells (cn .u64 (midL A (qleB (qsz N) V) C)) 61) :: O)) :
    Calls Tryd.prog 70 #[.slice (some ⟨g, f, none⟩) (qsz N) cp, nv N y, iW x] w0 fun e w' => e = .returned (iW ((V + N * x) / 18446744073709551616 ^ qsz N)) ∧ Turn g (.cells (cn .u64 (midL A (qleB (qsz N) (V + N * x)) C)) 61) w0 w' := by
  refine enter_fr Tryd.func70 rfl Tryd.ntmps70 (by simp) fun ac (FF : Fr 54 ac [(0, .slice (some ⟨g, f, none⟩) (qsz N) cp), (1, nv N y), (2, iW x)]) => ?_
  have MM0 : MemS (fun k => k < w0.heap.size ∧ ∀ x ∈ (g, Obj.cells (cn .u64 (midL A (qleB (qsz N) V) C)) 61) :: O, x.1 ≠ k) w0 w0 ((g, .cells (cn .u64 (midL A (qleB (qsz N) V) C)) 61) :: O) [] := MemS.startN H hD
  have MM : MemS (fun k => k < w0.heap.size ∧ ∀ x ∈ (g, Obj.cells (cn .u64 (midL A (qleB (qsz N) V) C)) 61) :: O, x.1 ≠ k) w0 w0 ((g, .cells (cn .u64 (midL A (mtL (qsz N) V N x 0) C)) 61) :: O) [] := by rw [mtL_zero]; exact MM0
  refine wp_seq (rg_seq FF MM [o_] [0, 1, 2, 6] (fun Kt => Kt [(6, iW 0), (0, .slice (some ⟨g, f, none⟩) (qsz N) cp), (1, nv N y), (2, iW x)] ((g, .cells (cn .u64 (midL A (mtL (qsz N) V N x 0) C)) 61) :: O)) (by kernel_rfl) (fun _ => by kernel_rfl) (fun ac1 wd1 FF1 MM1 => then_n ?_))
  refine wp_seq (rg_seq FF1 MM1 [o_] [6, 0, 1, 2, 7] (fun Kt => Kt [(7, iW 0), (6, iW 0), (0, .slice (some ⟨g, f, none⟩) (qsz N) cp), (1, nv N y), (2, iW x)] ((g, .cells (cn .u64 (midL A (mtL (qsz N) V N x 0) C)) 61) :: O)) (by kernel_rfl) (fun _ => by kernel_rfl) (fun ac2 wd2 FF2 MM2 => then_n ?_))
  refine wp_seq ?_
  refine wp_seq (rg_seq FF2 MM2 [o_, o_, o_] [7, 6, 0, 2, 15, 16, 17] (fun Kt => Kt [(17, iN 0), (16, iN (qsz N)), (15, nv N y), (7, iW 0), (6, iW 0), (0, .slice (some ⟨g, f, none⟩) (qsz N) cp), (2, iW x)] ((g, .cells (cn .u64 (midL A (mtL (qsz N) V N x 0) C)) 61) :: O)) (by kernel_rfl) (fun _ => by kernel_rfl) (fun ac3 wd3 FF3 MM3 => then_n ?_))
  refine wp_for (fun a' w' => ∃ k : Nat, ∃ cc : Nat, k ≤ qsz N ∧ cc = mc V N x k ∧ Fr 54 a' [(17, iN k), (16, iN (qsz N)), (15, nv N y), (7, iW cc), (6, iW 0), (0, .slice (some ⟨g, f, none⟩) (qsz N) cp), (2, iW x)] ∧ MemS (fun k => k < w0.heap.size ∧ ∀ x ∈ (g, Obj.cells (cn .u64 (midL A (qleB (qsz N) V) C)) 61) :: O, x.1 ≠ k) w0 w' ((g, .cells (cn .u64 (midL A (mtL (qsz N) V N x k) C)) 61) :: O) []) (fun a' _ => (qsz N - cnt 17 a').toNat) ⟨0, 0, by omega, (mc_zero V N x).symm, FF3.pick [0, 1, 2, 3, 4, 5, 6], MM3⟩ ?_
  rintro ac4 wd4 ⟨k, cc, hk, hcc, FF4, MM4⟩
  have hc := cnt_of (FF4.get 0 rfl)
  refine rg_seq FF4 MM4 [o_] [17, 16, 15, 7, 6, 0, 2, 18] (fun Kt => Kt [(18, .bool (decide (k < (qsz N)))), (17, iN k), (16, iN (qsz N)), (15, nv N y), (7, iW cc), (6, iW 0), (0, .slice (some ⟨g, f, none⟩) (qsz N) cp), (2, iW x)] ((g, .cells (cn .u64 (midL A (mtL (qsz N) V N x k) C)) 61) :: O)) (by kernel_rfl) (fun _ => by kernel_rfl) (fun ac5 wd5 FF5 MM5 => ?_)
  by_cases hlt : k < (qsz N)
  · skip
    refine then_n (.inl ⟨(FF5.ev 0 rfl).trans (dec_t hlt), ?_⟩)
    have hcl : cc < 18446744073709551616 := hcc ▸ mc_lt hx V N k
    obtain ⟨m1, m2, m3, m4⟩ := mac (word_mul hx (qd_lt N k)) hcl (qd_lt V k)
    have hw := mc_word V N x k
    have hy := mc_step V N x k
    rw [← hcc] at hw hy
    refine wp_seq (rg_seq FF5 MM5 [o_, f_ (.pointer (some ⟨gOf (pOf y), k, none⟩)), f_ (iW (qd N k)), o_, o_] [17, 16, 15, 7, 6, 0, 2, 8, 9] (fun Kt => RunV Tryd.prog [(19, iN k), (18, .bool (decide (k < (qsz N)))), (17, iN k), (16, iN (qsz N)), (15, nv N y), (7, iW cc), (6, iW 0), (0, .slice (some ⟨g, f, none⟩) (qsz N) cp), (2, iW x)] ((g, .cells (cn .u64 (midL A (mtL (qsz N) V N x k) C)) 61) :: O) (opAt Tryd.f70 4 1) (.pointer (some ⟨gOf (pOf y), k, none⟩)) ∧ RunV Tryd.prog [(20, .pointer (some ⟨gOf (pOf y), k, none⟩)), (19, iN k), (18, .bool (decide (k < (qsz N)))), (17, iN k), (16, iN (qsz N)), (15, nv N y), (7, iW cc), (6, iW 0), (0, .slice (some ⟨g, f, none⟩) (qsz N) cp), (2, iW x)] ((g, .cells (cn .u64 (midL A (mtL (qsz N) V N x k) C)) 61) :: O) (opAt Tryd.f70 4 2) (iW (qd N k)) ∧ Kt [(9, iW (qd N k)), (8, iN k), (17, iN k), (16, iN (qsz N)), (15, nv N y), (7, iW cc), (6, iW 0), (0, .slice (some ⟨g, f, none⟩) (qsz N) cp), (2, iW x)] ((g, .cells (cn .u64 (midL A (mtL (qsz N) V N x k) C)) 61) :: O)) (by kernel_rfl) (fun _ => by kernel_rfl) (⟨(rowAddr_ok (x := (.tmp 15)) (y := (.tmp 17)) (by kernel_rfl) rfl rfl Tryd.underlying35 (by kernel_rfl) (natO_cells hN) (by omega)), (rowLoad_ok (x := (.tmp 20)) (i := k) (by kernel_rfl) rfl Tryd.underlying61 rfl (natO_cells hN) (fun _ hx => List.mem_cons_of_mem _ (hx)) (by omega)), fun ac6 wd6 FF6 MM6 => then_n ?_⟩))
    refine wp_seq (rg_seq FF6 MM6 [o_, o_, t_ (.tuple #[iW (x * (qd N k) / 18446744073709551616), iW (x * (qd N k) % 18446744073709551616)]), o_, o_, o_, o_, o_] [9, 8, 17, 16, 15, 7, 6, 0, 2, 10, 11] (fun Kt => CallP Tryd.prog 78 [iW x, iW (qd N k)] [] (.tuple #[iW (x * (qd N k) / 18446744073709551616), iW (x * (qd N k) % 18446744073709551616)]) ∧ Kt [(11, iW (x * (qd N k) % 18446744073709551616)), (10, iW (x * (qd N k) / 18446744073709551616)), (9, iW (qd N k)), (8, iN k), (17, iN k), (16, iN (qsz N)), (15, nv N y), (7, iW cc), (6, iW 0), (0, .slice (some ⟨g, f, none⟩) (qsz N) cp), (2, iW x)] ((g, .cells (cn .u64 (midL A (mtL (qsz N) V N x k) C)) 61) :: O)) (by kernel_rfl) (fun _ => by kernel_rfl) (⟨(callP_of en_mul64 (mul64_any x (qd N k) hx (qd_lt N k)) _), fun ac7 wd7 FF7 MM7 => then_n ?_⟩))
    refine wp_seq (rg_seq FF7 MM7 [o_, o_, f_ (.tuple #[iW (((x * (qd N k) % 18446744073709551616) + cc + 0) % 18446744073709551616), iW (((x * (qd N k) % 18446744073709551616) + cc + 0) / 18446744073709551616)]), o_, o_, o_, o_, o_] [11, 10, 9, 8, 17, 16, 15, 7, 6, 0, 2, 12] (fun Kt => RunV Tryd.prog [(30, iW cc), (29, iW (x * (qd N k) % 18446744073709551616)), (11, iW (x * (qd N k) % 18446744073709551616)), (10, iW (x * (qd N k) / 18446744073709551616)), (9, iW (qd N k)), (8, iN k), (17, iN k), (16, iN (qsz N)), (15, nv N y), (7, iW cc), (6, iW 0), (0, .slice (some ⟨g, f, none⟩) (qsz N) cp), (2, iW x)] ((g, .cells (cn .u64 (midL A (mtL (qsz N) V N x k) C)) 61) :: O) (opAt Tryd.f70 6 2) (.tuple #[iW (((x * (qd N k) % 18446744073709551616) + cc + 0) % 18446744073709551616), iW (((x * (qd N k) % 18446744073709551616) + cc + 0) / 18446744073709551616)]) ∧ Kt [(12, iW (((x * (qd N k) % 18446744073709551616) + cc + 0) / 18446744073709551616)), (11, iW (((x * (qd N k) % 18446744073709551616) + cc + 0) % 18446744073709551616)), (10, iW (x * (qd N k) / 18446744073709551616)), (9, iW (qd N k)), (8, iN k), (17, iN k), (16, iN (qsz N)), (15, nv N y), (7, iW cc), (6, iW 0), (0, .slice (some ⟨g, f, none⟩) (qsz N) cp), (2, iW x)] ((g, .cells (cn .u64 (midL A (mtL (qsz N) V N x k) C)) 61) :: O)) (by kernel_rfl) (fun _ => by kernel_rfl) (⟨(add64_ok (f := 66) (ts := #[61, 61, 61]) (x := (.tmp 29)) (y := (.tmp 30)) (z := (.const (iW 0))) (by decide) (by kernel_rfl) rfl rfl rfl Tryd.func66 (by kernel_rfl) (by kernel_rfl) (by kernel_rfl) (by kernel_rfl)), fun ac8 wd8 FF8 MM8 => then_n ?_⟩))
    refine wp_seq (rg_seq FF8 MM8 [o_, o_, o_, l_ 0 (iW (qd V k)), o_, f_ (.tuple #[iW (((qd V k) + (((x * (qd N k) % 18446744073709551616) + cc + 0) % 18446744073709551616) + 0) % 18446744073709551616), iW (((qd V k) + (((x * (qd N k) % 18446744073709551616) + cc + 0) % 18446744073709551616) + 0) / 18446744073709551616)]), o_, t_ (iW (qd (V + N * x) k)), o_, o_, o_] [12, 11, 10, 9, 8, 17, 16, 15, 7, 6, 0, 2, 13, 14] (fun Kt => k < (qsz N) ∧ g = g ∧ (cn .u64 (midL A (mtL (qsz N) V N x k) C))[f + k]? = some (iW (qd V k)) ∧ RunV Tryd.prog [(39, iW (((x * (qd N k) % 18446744073709551616) + cc + 0) % 18446744073709551616)), (38, iW (qd V k)), (37, .pointer (some ⟨g, f + k, none⟩)), (36, iN k), (35, .slice (some ⟨g, f, none⟩) (qsz N) cp), (12, iW (((x * (qd N k) % 18446744073709551616) + cc + 0) / 18446744073709551616)), (11, iW (((x * (qd N k) % 18446744073709551616) + cc + 0) % 18446744073709551616)), (10, iW (x * (qd N k) / 18446744073709551616)), (9, iW (qd N k)), (8, iN k), (17, iN k), (16, iN (qsz N)), (15, nv N y), (7, iW cc), (6, iW 0), (0, .slice (some ⟨g, f, none⟩) (qsz N) cp), (2, iW x)] ((g, .cells (cn .u64 (midL A (mtL (qsz N) V N x k) C)) 61) :: O) (opAt Tryd.f70 7 5) (.tuple #[iW (((qd V k) + (((x * (qd N k) % 18446744073709551616) + cc + 0) % 18446744073709551616) + 0) % 18446744073709551616), iW (((qd V k) + (((x * (qd N k) % 18446744073709551616) + cc + 0) % 18446744073709551616) + 0) / 18446744073709551616)]) ∧ iW (((qd V k) + (((x * (qd N k) % 18446744073709551616) + cc + 0) % 18446744073709551616) + 0) % 18446744073709551616) = iW (qd (V + N * x) k) ∧ Kt [(14, iW (((qd V k) + (((x * (qd N k) % 18446744073709551616) + cc + 0) % 18446744073709551616) + 0) / 18446744073709551616)), (13, iW (qd (V + N * x) k)), (12, iW (((x * (qd N k) % 18446744073709551616) + cc + 0) / 18446744073709551616)), (11, iW (((x * (qd N k) % 18446744073709551616) + cc + 0) % 18446744073709551616)), (10, iW (x * (qd N k) / 18446744073709551616)), (9, iW (qd N k)), (8, iN k), (17, iN k), (16, iN (qsz N)), (15, nv N y), (7, iW cc), (6, iW 0), (0, .slice (some ⟨g, f, none⟩) (qsz N) cp), (2, iW x)] ((g, .cells (cn .u64 (midL A (mtL (qsz N) V N x k) C)) 61) :: O)) (by kernel_rfl) (fun _ => by kernel_rfl) (⟨(by omega), rfl, ((cn_get _ _ _ (by rw [mt_len hA]; omega)).trans (congrArg some (vI ((midL_get hA (by rw [mtL_len]; omega)).trans ((mtL_get _ _ _ _ _ (by omega)).trans (if_neg (by omega))))))), (add64_ok (f := 66) (ts := #[61, 61, 61]) (x := (.tmp 38)) (y := (.tmp 39)) (z := (.const (iW 0))) (by decide) (by kernel_rfl) rfl rfl rfl Tryd.func66 (by kernel_rfl) (by kernel_rfl) (by kernel_rfl) (by kernel_rfl)), (vI (m1.trans hw)), fun ac9 wd9 FF9 MM9 => then_n ?_⟩))
    refine wp_seq (rg_seq FF9 MM9 [o_, o_, o_, o_, s_ 0 (.cells (cn .u64 (midL A (mtL (qsz N) V N x (k + 1)) C)) 61)] [14, 13, 12, 11, 10, 9, 8, 17, 16, 15, 7, 6, 0, 2] (fun Kt => k < (qsz N) ∧ g = g ∧ f + k < (cn .u64 (midL A (mtL (qsz N) V N x k) C)).size ∧ (((0, 0)).2 = 0 ∨ f + k < ((0, 0)).1) ∧ (cn .u64 (midL A (mtL (qsz N) V N x k) C)).setIfInBounds (f + k) (iW (qd (V + N * x) k)) = cn .u64 (midL A (mtL (qsz N) V N x (k + 1)) C) ∧ Kt [(14, iW (((qd V k) + (((x * (qd N k) % 18446744073709551616) + cc + 0) % 18446744073709551616) + 0) / 18446744073709551616)), (13, iW (qd (V + N * x) k)), (12, iW (((x * (qd N k) % 18446744073709551616) + cc + 0) / 18446744073709551616)), (11, iW (((x * (qd N k) % 18446744073709551616) + cc + 0) % 18446744073709551616)), (10, iW (x * (qd N k) / 18446744073709551616)), (9, iW (qd N k)), (8, iN k), (17, iN k), (16, iN (qsz N)), (15, nv N y), (7, iW cc), (6, iW 0), (0, .slice (some ⟨g, f, none⟩) (qsz N) cp), (2, iW x)] ((g, .cells (cn .u64 (midL A (mtL (qsz N) V N x (k + 1)) C)) 61) :: O)) (by kernel_rfl) (fun _ => by kernel_rfl) (⟨(by omega), rfl, (by rw [cn_size, mt_len hA]; omega), (.inl rfl), ((cn_set _ _ _ _).trans (congrArg _ ((midL_set hA (by rw [mtL_len]; omega)).trans (congrArg (midL A · C) (mtL_step _ _ _ _ _ (by omega)))))), fun ac10 wd10 FF10 MM10 => then_n ?_⟩))
    refine rg_seq FF10 MM10 [o_, o_, w_ 1, o_, u_ 1 (iW (mc V N x (k + 1))), o_] [14, 13, 12, 11, 10, 9, 8, 17, 16, 15, 7, 6, 0, 2] (fun Kt => (x * (qd N k) / 18446744073709551616) + (((x * (qd N k) % 18446744073709551616) + cc + 0) / 18446744073709551616) < 18446744073709551616 ∧ ((x * (qd N k) / 18446744073709551616) + (((x * (qd N k) % 18446744073709551616) + cc + 0) / 18446744073709551616)) + (((qd V k) + (((x * (qd N k) % 18446744073709551616) + cc + 0) % 18446744073709551616) + 0) / 18446744073709551616) < 18446744073709551616 ∧ iW (((x * (qd N k) / 18446744073709551616) + (((x * (qd N k) % 18446744073709551616) + cc + 0) / 18446744073709551616)) + (((qd V k) + (((x * (qd N k) % 18446744073709551616) + cc + 0) % 18446744073709551616) + 0) / 18446744073709551616)) = iW (mc V N x (k + 1)) ∧ Kt [(7, iW (mc V N x (k + 1))), (14, iW (((qd V k) + (((x * (qd N k) % 18446744073709551616) + cc + 0) % 18446744073709551616) + 0) / 18446744073709551616)), (13, iW (qd (V + N * x) k)), (12, iW (((x * (qd N k) % 18446744073709551616) + cc + 0) / 18446744073709551616)), (11, iW (((x * (qd N k) % 18446744073709551616) + cc + 0) % 18446744073709551616)), (10, iW (x * (qd N k) / 18446744073709551616)), (9, iW (qd N k)), (8, iN k), (17, iN k), (16, iN (qsz N)), (15, nv N y), (6, iW 0), (0, .slice (some ⟨g, f, none⟩) (qsz N) cp), (2, iW x)] ((g, .cells (cn .u64 (midL A (mtL (qsz N) V N x (k + 1)) C)) 61) :: O)) (by kernel_rfl) (fun _ => by kernel_rfl) (⟨m2, m3, (vI (m4.trans hy)), fun ac11 wd11 FF11 MM11 => ?_⟩)
    refine inb_n (then_n ?_)
    refine rg_seq FF11 MM11 [o_, o_] [7, 14, 13, 12, 11, 10, 9, 8, 17, 16, 15, 6, 0, 2] (fun Kt => k + 1 < 9223372036854775808 ∧ Kt [(17, iN (k + 1)), (7, iW (mc V N x (k + 1))), (14, iW (((qd V k) + (((x * (qd N k) % 18446744073709551616) + cc + 0) % 18446744073709551616) + 0) / 18446744073709551616)), (13, iW (qd (V + N * x) k)), (12, iW (((x * (qd N k) % 18446744073709551616) + cc + 0) / 18446744073709551616)), (11, iW (((x * (qd N k) % 18446744073709551616) + cc + 0) % 18446744073709551616)), (10, iW (x * (qd N k) / 18446744073709551616)), (9, iW (qd N k)), (8, iN k), (16, iN (qsz N)), (15, nv N y), (6, iW 0), (0, .slice (some ⟨g, f, none⟩) (qsz N) cp), (2, iW x)] ((g, .cells (cn .u64 (midL A (mtL (qsz N) V N x (k + 1)) C)) 61) :: O)) (by kernel_rfl) (fun _ => by kernel_rfl) (⟨(by omega), fun ac12 wd12 FF12 MM12 => ?_⟩)
    have hd := cnt_of (FF12.get 0 rfl)
    refine then_n ⟨⟨k + 1, mc V N x (k + 1), by omega, rfl, FF12.pick [0, 9, 10, 1, 11, 12, 13], MM12⟩, ?_⟩
    rw [hc, hd]; omega
  · skip
    refine then_n (.inr ⟨(FF5.ev 0 rfl).trans (dec_f hlt), ?_⟩)
    obtain rfl : k = qsz N := by omega
    refine then_n ?_
    refine wp_seq (rg_seq FF5 MM5 [o_, t_ (iW ((V + N * x) / 18446744073709551616 ^ qsz N))] [17, 16, 15, 7, 6, 0, 2] (fun Kt => iW cc = iW ((V + N * x) / 18446744073709551616 ^ qsz N) ∧ Kt [(6, iW ((V + N * x) / 18446744073709551616 ^ qsz N)), (17, iN (qsz N)), (16, iN (qsz N)), (15, nv N y), (7, iW cc), (0, .slice (some ⟨g, f, none⟩) (qsz N) cp), (2, iW x)] ((g, .cells (cn .u64 (midL A (mtL (qsz N) V N x (qsz N)) C)) 61) :: O)) (by kernel_rfl) (fun _ => by kernel_rfl) (⟨(vI (hcc.trans (mc_end x hV (qsz_ok N).1))), fun ac13 wd13 FF13 MM13 => then_n ?_⟩))
    refine wp_ret ?_
    repeat first | refine then_ret ?_ | refine inb_ret ?_
    exact (ret_fr FF13 0 Tryd.results70 rfl ⟨rfl, by have h9 := MM13.turn (Has.tl H) 0 rfl (fun _ hx => List.mem_cons_of_mem _ (hx)); rw [mtL_all] at h9; exact h9⟩)
theorem nat1_sep {w : World} {g N : Nat} {ob : Obj} {y : Value} (h : NatIn w (nv N y) N) (hg : w.heap[g]? = some ob) (hne : ∀ g', (nv N y).ownBlock = some g' → g' ≠ g) : ∃ O : Blks, Has w ((g, ob) :: O) ∧ Distinct ((g, ob) :: O) ∧ NatO O (nv N y) N := by
  obtain ⟨p, c, h1, h2, h2', h3, h4⟩ := h
  rcases h4 with h4 | ⟨b, cs, T, fr, rfl, h5, h6⟩
  · refine ⟨[], fun i x hx => ?_, ⟨fun y hy => (nomatch hy), trivial⟩, ⟨p, c, h1, h2, h2', h3, .inl h4⟩⟩
    cases i with
    | zero => simp at hx; subst hx; exact hg
    | succ i => simp at hx
  · have hb : b ≠ g := hne b (by rw [h1]; rfl)
    refine ⟨[(b, .cells cs T fr)], fun i x hx => ?_, ⟨fun y hy => by rw [List.mem_singleton] at hy; subst hy; exact hb, fun y hy => (nomatch hy), trivial⟩, ⟨_, c, h1, h2, h2', h3, .inr ⟨b, cs, T, fr, rfl, by simp, h6⟩⟩⟩
    cases i with
    | zero => simp at hx; subst hx; exact hg
    | succ i =>
      cases i with
      | zero => simp at hx; subst hx; exact h5
      | succ i => simp at hx
theorem addt_any (g f cp : Nat) (A C : List Nat) (V N x : Nat) (y : Value) (hA : A.length = f) (hx : x < 18446744073709551616) (hV : V < 18446744073709551616 ^ qsz N) (hs : qsz N < 1000000) (w0 : World) (hg : w0.heap[g]? = some (Obj.cells (cn .u64 (midL A (qleB (qsz N) V) C)) 61)) (hN : NatIn w0 (nv N y) N) (hne : ∀ g', (nv N y).ownBlock = some g' → g' ≠ g) :
    Calls Tryd.prog 70 #[.slice (some ⟨g, f, none⟩) (qsz N) cp, nv N y, iW x] w0 fun e w' => e = .returned (iW ((V + N * x) / 18446744073709551616 ^ qsz N)) ∧ Turn g (.cells (cn .u64 (midL A (qleB (qsz N) (V + N * x)) C)) 61) w0 w' := by
  obtain ⟨O, h1, h2, h3⟩ := nat1_sep hN hg hne
  exact addt_O g f cp A C V N x y O hA hx hV h3 hs w0 h1 h2
/-- A number that lies in the list is in none of its other blocks. -/
theorem natO_ne {O : Blks} {N g : Nat} {y : Value} (h : NatO O (nv N y) N) (hg : ∀ x ∈ O, x.1 ≠ g) : ∀ g', (nv N y).ownBlock = some g' → g' ≠ g := fun g' hg' => by
  obtain ⟨p, c, h1, h2, _, _, h4⟩ := h
  rw [h1] at hg'
  rcases h4 with h4 | ⟨b, cs, T, fr, rfl, h5, h6⟩
  · have := (h2 (qz0 h4)).1
    subst this
    cases hg'
  · obtain rfl : b = g' := by simpa [Value.ownBlock] using hg'
    exact hg _ h5
theorem MemS.headNe {S : Nat → Prop} {w0 w : World} {g : Nat} {ob : Obj} {L : Blks} {R : List Row} (M : MemS S w0 w ((g, ob) :: L) R) : ∀ x ∈ L, x.1 ≠ g := fun x hx => by
  obtain ⟨i, hi⟩ := List.mem_iff_getElem?.1 hx
  exact M.apart (i + 1) 0 x (g, ob) (by simpa using hi) rfl (by omega)
end Go.Proofs.YtlljedijldkcbaaDoor
namespace Go.Proofs.YtlljedijldkcbaaDoor
open Go.RowKit
theorem qleB_0 (n : Nat) : qleB n 0 = List.replicate n 0 := by
  refine ext_getD (by simp [qleB_len]) fun i hi => ?_
  rw [qleB_len] at hi
  rw [qleB_get hi, rep_get]; simp
theorem prod_fit (M N : Nat) : M * N < 18446744073709551616 ^ (qsz M + qsz N) := by have := pr_lt M N (qsz M); rwa [pr_all] at this
theorem qleV_prod (M N : Nat) : qleV (qleB (qsz M + qsz N) (M * N)) = M * N := by rw [qleV_leB, Nat.mod_eq_of_lt (prod_fit M N)]
theorem qsz_mul (M N : Nat) : qsz (M * N) ≤ qsz M + qsz N := qsz_le (prod_fit M N)
theorem MemS.sinkNat {S : Nat → Prop} {w0 w : World} {K O : Blks} {R : List Row} {b : Nat} {ob : Obj} {v : Value} {N : Nat} {l : List (Value × Nat)} (M : MemS S w0 w ((b, ob) :: (K ++ O)) R) (h : NatO [(b, ob)] v N) (hN : Nats O l) : ∃ O', MemS S w0 w (K ++ O') R ∧ Nats O' ((v, N) :: l) ∧ ∀ x ∈ O, x ∈ O' :=
  ⟨(b, ob) :: O, M.perm List.perm_middle.symm, .cons (h.mono fun x hx => by rw [List.mem_singleton] at hx; simp [hx]) (hN.mono fun _ h => List.mem_cons_of_mem _ h), fun _ h => List.mem_cons_of_mem _ h⟩
def oneV (b : Nat) : Value := .slice (some ⟨b, 0, none⟩) 1 1
theorem own_one {N b g : Nat} (h : (nv N (oneV b)).ownBlock = some g) : b = g := by simpa [nv, oneV, pOf, Value.ownBlock] using h
theorem nat_one (b : Nat) (T : TypeId) : NatO [(b, .cells (cn .u64 [1]) T)] (nv 1 (oneV b)) 1 :=
  ⟨some ⟨b, 0, none⟩, 1, rfl, fun h => (by cases h), fun _ => by simp, by decide, .inr ⟨b, cn .u64 [1], T, (0, 0), rfl, by simp, fun j hj => by
    have : j = 0 := by have : qsz 1 = 1 := by decide
                       omega
    subst this
    rfl⟩⟩
set_option maxRecDepth 100000 in
theorem times_O (O : Blks) (hD : Distinct O) (M N : Nat) (x y : Value) (hM : NatO O (nv M x) M) (hN : NatO O (nv N y) N) (hs : qsz M + qsz N < 1000000) (w0 : World) (H : Has w0 O) :
    Calls Tryd.prog 54 #[nv M x, nv N y] w0 fun e w' => ∃ v, e = .returned (nv (M * N) v) ∧ Below w0.heap.size w0 w' ∧ NatNew w0.heap.size w' (nv (M * N) v) (M * N) := by
  refine enter_fr Tryd.func54 rfl Tryd.ntmps54 (by simp) fun ac (FF : Fr 40 ac [(0, nv M x), (1, nv N y)]) => ?_
  have MM : MemS (fun k => k < w0.heap.size ∧ ∀ x ∈ O, x.1 ≠ k) w0 w0 O [] := MemS.startN H hD
  refine wp_seq (rg_seq FF MM [o_] [0, 1, 4] (fun Kt => Kt [(4, .slice none 0 0), (0, nv M x), (1, nv N y)] O) (by kernel_rfl) (fun _ => by kernel_rfl) (fun ac1 wd1 FF1 MM1 => then_n ?_))
  refine wp_seq (rg_seq FF1 MM1 [o_, o_, o_, o_, o_, n_ (.slice none ((qsz M) + (qsz N)) ((qsz M) + (qsz N))) (.cells (cn .u64 (List.replicate ((qsz M) + (qsz N)) 0)) 61), o_] [4, 0, 1, 5] (fun Kt => (qsz M) + (qsz N) < 9223372036854775808 ∧ RunN Tryd.prog [(12, iN ((qsz M) + (qsz N))), (11, iN (qsz N)), (10, nv N y), (9, iN (qsz M)), (8, nv M x), (4, .slice none 0 0), (0, nv M x), (1, nv N y)] O (opAt Tryd.f54 1 5) (mkOf (.slice none ((qsz M) + (qsz N)) ((qsz M) + (qsz N)))) (.cells (cn .u64 (List.replicate ((qsz M) + (qsz N)) 0)) 61) ∧ ∀ bo, Kt [(5, .slice (some ⟨bo, 0, none⟩) ((qsz M) + (qsz N)) ((qsz M) + (qsz N))), (4, .slice none 0 0), (0, nv M x), (1, nv N y)] ((bo, .cells (cn .u64 (List.replicate ((qsz M) + (qsz N)) 0)) 61) :: O)) (by kernel_rfl) (fun _ => by kernel_rfl) (⟨(by omega), (make64_ok (t := 35) (e := 61) (p := (.tmp 12)) (q := (.tmp 12)) (by kernel_rfl) rfl rfl Tryd.underlying35 (by kernel_rfl) (by omega)), fun bo => fun ac2 wd2 FF2 MM2 => then_n ?_⟩))
  have MMr : MemS (fun k => k < w0.heap.size ∧ ∀ x ∈ O, x.1 ≠ k) w0 wd2 ((bo, .cells (cn .u64 (qleB (qsz M + qsz N) (pr M N 0))) 61) :: O) [] := by rw [pr_zero, qleB_0]; exact MM2
  refine wp_seq ?_
  refine wp_seq (rg_seq FF2 MMr [o_, o_, o_] [5, 4, 0, 1, 14, 15, 16] (fun Kt => Kt [(16, iN 0), (15, iN (qsz M)), (14, nv M x), (5, .slice (some ⟨bo, 0, none⟩) ((qsz M) + (qsz N)) ((qsz M) + (qsz N))), (4, .slice none 0 0), (0, nv M x), (1, nv N y)] ((bo, .cells (cn .u64 (qleB (qsz M + qsz N) (pr M N 0))) 61) :: O)) (by kernel_rfl) (fun _ => by kernel_rfl) (fun ac3 wd3 FF3 MM3 => then_n ?_))
  refine wp_for (fun a' w' => ∃ i : Nat, i ≤ qsz M ∧ Fr 40 a' [(16, iN i), (15, iN (qsz M)), (14, nv M x), (5, .slice (some ⟨bo, 0, none⟩) ((qsz M) + (qsz N)) ((qsz M) + (qsz N))), (4, .slice none 0 0), (0, nv M x), (1, nv N y)] ∧ MemS (fun k => k < w0.heap.size ∧ ∀ x ∈ O, x.1 ≠ k) w0 w' ((bo, .cells (cn .u64 (qleB (qsz M + qsz N) (pr M N i))) 61) :: O) []) (fun a' _ => (qsz M - cnt 16 a').toNat) ⟨0, by omega, FF3.pick [0, 1, 2, 3, 4, 5, 6], MM3⟩ ?_
  rintro ac4 wd4 ⟨i, hi, FF4, MM4⟩
  have hc := cnt_of (FF4.get 0 rfl)
  refine rg_seq FF4 MM4 [o_] [16, 15, 14, 5, 4, 0, 1, 17] (fun Kt => Kt [(17, .bool (decide (i < (qsz M)))), (16, iN i), (15, iN (qsz M)), (14, nv M x), (5, .slice (some ⟨bo, 0, none⟩) ((qsz M) + (qsz N)) ((qsz M) + (qsz N))), (4, .slice none 0 0), (0, nv M x), (1, nv N y)] ((bo, .cells (cn .u64 (qleB (qsz M + qsz N) (pr M N i))) 61) :: O)) (by kernel_rfl) (fun _ => by kernel_rfl) (fun ac5 wd5 FF5 MM5 => ?_)
  by_cases hlt : i < (qsz M)
  · skip
    refine then_n (.inl ⟨(FF5.ev 0 rfl).trans (dec_t hlt), ?_⟩)
    refine wp_seq (rg_seq FF5 MM5 [o_, f_ (.pointer (some ⟨gOf (pOf x), i, none⟩)), f_ (iW (qd M i)), o_, o_] [16, 15, 14, 5, 4, 0, 1, 6, 7] (fun Kt => RunV Tryd.prog [(18, iN i), (17, .bool (decide (i < (qsz M)))), (16, iN i), (15, iN (qsz M)), (14, nv M x), (5, .slice (some ⟨bo, 0, none⟩) ((qsz M) + (qsz N)) ((qsz M) + (qsz N))), (4, .slice none 0 0), (0, nv M x), (1, nv N y)] ((bo, .cells (cn .u64 (qleB (qsz M + qsz N) (pr M N i))) 61) :: O) (opAt Tryd.f54 4 1) (.pointer (some ⟨gOf (pOf x), i, none⟩)) ∧ RunV Tryd.prog [(19, .pointer (some ⟨gOf (pOf x), i, none⟩)), (18, iN i), (17, .bool (decide (i < (qsz M)))), (16, iN i), (15, iN (qsz M)), (14, nv M x), (5, .slice (some ⟨bo, 0, none⟩) ((qsz M) + (qsz N)) ((qsz M) + (qsz N))), (4, .slice none 0 0), (0, nv M x), (1, nv N y)] ((bo, .cells (cn .u64 (qleB (qsz M + qsz N) (pr M N i))) 61) :: O) (opAt Tryd.f54 4 2) (iW (qd M i)) ∧ Kt [(7, iW (qd M i)), (6, iN i), (16, iN i), (15, iN (qsz M)), (14, nv M x), (5, .slice (some ⟨bo, 0, none⟩) ((qsz M) + (qsz N)) ((qsz M) + (qsz N))), (4, .slice none 0 0), (0, nv M x), (1, nv N y)] ((bo, .cells (cn .u64 (qleB (qsz M + qsz N) (pr M N i))) 61) :: O)) (by kernel_rfl) (fun _ => by kernel_rfl) (⟨(rowAddr_ok (x := (.tmp 14)) (y := (.tmp 16)) (by kernel_rfl) rfl rfl Tryd.underlying35 (by kernel_rfl) (natO_cells hM) (by omega)), (rowLoad_ok (x := (.tmp 19)) (i := i) (by kernel_rfl) rfl Tryd.underlying61 rfl (natO_cells hM) (fun _ hx => List.mem_cons_of_mem _ (hx)) (by omega)), fun ac6 wd6 FF6 MM6 => then_n ?_⟩))
    refine wp_region_list ?_
    refine rg_part 14 FF6 MM6 [o_, o_, o_, o_, o_, o_, o_, o_, o_, o_, o_, t_ (.slice (some ⟨bo, i, none⟩) (qsz N) (qsz M + qsz N - i)), o_, o_] [7, 6, 16, 15, 14, 5, 4, 0, 1, 21, 25, 32, 33, 34] (fun Kt => i + (qsz N) < 9223372036854775808 ∧ i + (qsz N) < 9223372036854775808 ∧ i ≤ (i + (qsz N)) ∧ i + (qsz N) ≤ ((qsz M) + (qsz N)) ∧ i < ((qsz M) + (qsz N)) ∧ Value.slice (some ⟨bo, 0 + i, none⟩) ((i + (qsz N)) - i) (((qsz M) + (qsz N)) - i) = .slice (some ⟨bo, i, none⟩) (qsz N) (qsz M + qsz N - i) ∧ Kt [(34, iW (qd M i)), (33, nv N y), (32, .slice (some ⟨bo, i, none⟩) (qsz N) (qsz M + qsz N - i)), (25, iN (i + (qsz N))), (21, .slice (some ⟨bo, 0, none⟩) ((qsz M) + (qsz N)) ((qsz M) + (qsz N))), (7, iW (qd M i)), (6, iN i), (16, iN i), (15, iN (qsz M)), (14, nv M x), (5, .slice (some ⟨bo, 0, none⟩) ((qsz M) + (qsz N)) ((qsz M) + (qsz N))), (4, .slice none 0 0), (0, nv M x), (1, nv N y)] ((bo, .cells (cn .u64 (qleB (qsz M + qsz N) (pr M N i))) 61) :: O)) (by kernel_rfl) (fun _ => by kernel_rfl) (⟨(by omega), (by omega), (by omega), (by omega), (by omega), (by rw [Nat.zero_add, Nat.add_sub_cancel_left]), fun ac7 wd7 FF7 MM7 => ?_⟩)
    refine st_callM [25, 21, 7, 6, 16, 15, 14, 5, 4, 0, 1, 35] FF7 (d := 35) en_addt rfl rfl (addt_any bo i _ (qleB i (pr M N i)) (List.replicate (qsz M + qsz N - i - qsz N) 0) (pr M N i / 18446744073709551616 ^ i) N (qd M i) y (qleB_len _ _) (qd_lt _ _) (pr_seg M N i) (by omega) _ (by rw [← split3 (by omega) (pr_lt M N i)]; exact MM7.get 0 rfl) (hN.at (Has.tl MM7.hasL)) (natO_ne hN MM7.headNe)) rfl (by kernel_rfl) (by decide) fun ac8 wd8 (FF8 : Fr 40 ac8 [(35, iW ((pr M N i / 18446744073709551616 ^ i + N * qd M i) / 18446744073709551616 ^ qsz N)), (25, iN (i + (qsz N))), (21, .slice (some ⟨bo, 0, none⟩) ((qsz M) + (qsz N)) ((qsz M) + (qsz N))), (7, iW (qd M i)), (6, iN i), (16, iN i), (15, iN (qsz M)), (14, nv M x), (5, .slice (some ⟨bo, 0, none⟩) ((qsz M) + (qsz N)) ((qsz M) + (qsz N))), (4, .slice none 0 0), (0, nv M x), (1, nv N y)]) hr9 => ?_
    have MM8t : MemS (fun k => k < w0.heap.size ∧ ∀ x ∈ O, x.1 ≠ k) w0 wd8 ((bo, .cells (cn .u64 (midL (qleB i (pr M N i)) (qleB (qsz N) (pr M N i / 18446744073709551616 ^ i + N * qd M i)) (List.replicate (qsz M + qsz N - i - qsz N) 0))) 61) :: O) [] := MM7.turned hr9
    refine rg_part 2 FF8 MM8t [w_ 1, s_ 0 (.cells (cn .u64 (qleB (qsz M + qsz N) (pr M N (i + 1)))) 61)] [7, 6, 16, 15, 14, 5, 4, 0, 1] (fun Kt => (i + (qsz N)) < ((qsz M) + (qsz N)) ∧ bo = bo ∧ i + (qsz N) < (cn .u64 (midL (qleB i (pr M N i)) (qleB (qsz N) (pr M N i / 18446744073709551616 ^ i + N * qd M i)) (List.replicate (qsz M + qsz N - i - qsz N) 0))).size ∧ (((0, 0)).2 = 0 ∨ i + (qsz N) < ((0, 0)).1) ∧ (cn .u64 (midL (qleB i (pr M N i)) (qleB (qsz N) (pr M N i / 18446744073709551616 ^ i + N * qd M i)) (List.replicate (qsz M + qsz N - i - qsz N) 0))).setIfInBounds (i + (qsz N)) (iW ((pr M N i / 18446744073709551616 ^ i + N * qd M i) / 18446744073709551616 ^ qsz N)) = cn .u64 (qleB (qsz M + qsz N) (pr M N (i + 1))) ∧ Kt [(7, iW (qd M i)), (6, iN i), (16, iN i), (15, iN (qsz M)), (14, nv M x), (5, .slice (some ⟨bo, 0, none⟩) ((qsz M) + (qsz N)) ((qsz M) + (qsz N))), (4, .slice none 0 0), (0, nv M x), (1, nv N y)] ((bo, .cells (cn .u64 (qleB (qsz M + qsz N) (pr M N (i + 1)))) 61) :: O)) (by kernel_rfl) (fun _ => by kernel_rfl) (⟨(by omega), rfl, (by rw [cn_size, midL_len, qleB_len, qleB_len, List.length_replicate]; omega), (.inl rfl), ((cn_set _ _ _ _).trans (congrArg _ (times_step (by omega)))), fun ac10 wd10 FF10 MM10 => ?_⟩)
    refine wpl_nil ?_
    refine inb_n (then_n ?_)
    refine rg_seq FF10 MM10 [o_, o_] [7, 6, 16, 15, 14, 5, 4, 0, 1] (fun Kt => i + 1 < 9223372036854775808 ∧ Kt [(16, iN (i + 1)), (7, iW (qd M i)), (6, iN i), (15, iN (qsz M)), (14, nv M x), (5, .slice (some ⟨bo, 0, none⟩) ((qsz M) + (qsz N)) ((qsz M) + (qsz N))), (4, .slice none 0 0), (0, nv M x), (1, nv N y)] ((bo, .cells (cn .u64 (qleB (qsz M + qsz N) (pr M N (i + 1)))) 61) :: O)) (by kernel_rfl) (fun _ => by kernel_rfl) (⟨(by omega), fun ac11 wd11 FF11 MM11 => ?_⟩)
    have hd := cnt_of (FF11.get 0 rfl)
    refine then_n ⟨⟨i + 1, by omega, FF11.pick [0, 3, 4, 5, 6, 7, 8], MM11⟩, ?_⟩
    rw [hc, hd]; omega
  · skip
    refine then_n (.inr ⟨(FF5.ev 0 rfl).trans (dec_f hlt), ?_⟩)
    obtain rfl : i = qsz M := by omega
    have MMl : MemS (fun k => k < w0.heap.size ∧ ∀ x ∈ O, x.1 ≠ k) w0 wd5 ((bo, .cells (cn .u64 (qleB (qsz M + qsz N) (M * N))) 61) :: O) [] := by rw [← pr_all]; exact MM5
    refine then_n ?_
    refine wp_seq (rg_seq FF5 MMl [o_, u_ 1 (trimV (some ⟨bo, 0, none⟩) (M * N) ((qsz M) + (qsz N))), o_] [16, 15, 14, 5, 4, 0, 1] (fun Kt => CallP Tryd.prog 44 [.slice (some ⟨bo, 0, none⟩) ((qsz M) + (qsz N)) ((qsz M) + (qsz N))] ((bo, .cells (cn .u64 (qleB (qsz M + qsz N) (M * N))) 61) :: O) (trimV (some ⟨bo, 0, none⟩) (M * N) ((qsz M) + (qsz N))) ∧ Kt [(4, trimV (some ⟨bo, 0, none⟩) (M * N) ((qsz M) + (qsz N))), (16, iN (qsz M)), (15, iN (qsz M)), (14, nv M x), (5, .slice (some ⟨bo, 0, none⟩) ((qsz M) + (qsz N)) ((qsz M) + (qsz N))), (0, nv M x), (1, nv N y)] ((bo, .cells (cn .u64 (qleB (qsz M + qsz N) (M * N))) 61) :: O)) (by kernel_rfl) (fun _ => by kernel_rfl) (⟨⟨en_trimd, fun w Hw => by have h0 := trimd_any (some ⟨bo, 0, none⟩) ((qsz M) + (qsz N)) (qleB (qsz M + qsz N) (M * N)) (qleB_lt _ _) (by rw [qleB_len]; exact Nat.le_refl _) (by rw [qleB_len]; omega) w (.inr ⟨bo, _, _, _, rfl, Hw 0 _ rfl, fun j hj => cn_get _ _ _ hj⟩); rw [show (qleB (qsz M + qsz N) (M * N)).length = (qsz M) + (qsz N) from (qleB_len _ _), qleV_prod] at h0; exact h0⟩, fun ac12 wd12 FF12 MM12 => then_n ?_⟩))
    refine wp_ret ?_
    repeat first | refine then_ret ?_ | refine inb_ret ?_
    exact (ret_fr FF12 0 Tryd.results54 rfl ⟨trimV (some ⟨bo, 0, none⟩) (M * N) (qsz M + qsz N), rfl, MM12.belowN H (fun _ hx => List.mem_cons_of_mem _ (hx)), by have h0 := trim_new0 (c := qsz M + qsz N) (X := qleB (qsz M + qsz N) (M * N)) (base := w0.heap.size) (qleB_lt _ _) (by rw [qleB_len]; exact Nat.le_refl _) (MM12.get 0 rfl) (MM12.newest (fun _ h => h)); rw [qleV_prod] at h0; exact h0⟩)
theorem times_any (M N : Nat) (x y : Value) (hs : qsz M + qsz N < 1000000) (w0 : World) (hM : NatIn w0 (nv M x) M) (hN : NatIn w0 (nv N y) N) : Calls Tryd.prog 54 #[nv M x, nv N y] w0 fun e w' => ∃ v, e = .returned (nv (M * N) v) ∧ Below w0.heap.size w0 w' ∧ NatNew w0.heap.size w' (nv (M * N) v) (M * N) := by
  obtain ⟨O, h1, h2, h3, h4⟩ := nat2_O hM hN
  exact times_O O h2 M N x y h3 h4 hs w0 h1
/-- The product of the first i. -/
def prI (ns : List Nat) (i : Nat) : Nat := (ns.take i).foldl (· * ·) 1
def prN (ns : List Nat) : Nat := ns.foldl (· * ·) 1
theorem prI_step (ns : List Nat) (i : Nat) (h : i < ns.length) : prI ns i * ns.getD i 0 = prI ns (i + 1) := by
  rw [prI, prI, List.take_add_one, List.foldl_append, List.getElem?_eq_getElem h]
  simp [List.getD_eq_getElem?_getD, List.getElem?_eq_getElem h]
theorem prI_all (ns : List Nat) : prI ns ns.length = prN ns := by rw [prI, List.take_length]; rfl
theorem prI_sz {ns : List Nat} (h : ∀ j, j < ns.length → qsz (ns.getD j 0) ≤ 1000) : ∀ i, i ≤ ns.length → qsz (prI ns i) ≤ 1 + 1000 * i
  | 0, _ => by rw [show prI ns 0 = 1 from rfl]; decide
  | i + 1, hi => by
    rw [← prI_step ns i (by omega)]
    have h1 := qsz_mul (prI ns i) (ns.getD i 0)
    have h2 := prI_sz h i (by omega)
    have h3 := h i (by omega)
    omega
end Go.Proofs.YtlljedijldkcbaaDoor
namespace Go.Proofs.YtlljedijldkcbaaDoor
open Go.RowKit
set_option maxRecDepth 100000 in
theorem nmul_O (O : Blks) (hD : Distinct O) (p : Option Addr) (cp : Nat) (ns : List Nat) (xs : List Value) (hA : NatsO O p ns xs) (h1 : ∀ j, j < ns.length → qsz (ns.getD j 0) ≤ 1000) (hl : ns.length ≤ 100) (w0 : World) (H : Has w0 O) :
    Calls Tryd.prog 34 #[.slice p ns.length cp] w0 fun e w' => ∃ v, e = .returned (.agg #[nv (prN ns) v]) ∧ Below w0.heap.size w0 w' ∧ NatNew w0.heap.size w' (nv (prN ns) v) (prN ns) := by
  refine enter_fr Tryd.func34 rfl Tryd.ntmps34 (by simp) fun ac (FF : Fr 20 ac [(0, .slice p ns.length cp)]) => ?_
  have MM : MemS (fun k => k < w0.heap.size ∧ ∀ x ∈ O, x.1 ≠ k) w0 w0 O [] := MemS.startN H hD
  refine wp_seq (rg_seq FF MM [o_] [0, 2] (fun Kt => ∀ br, Kt [(2, pT br), (0, .slice p ns.length cp)] ((br, oC #[.slice none 0 0] 37) :: O)) (by kernel_rfl) (fun _ => by kernel_rfl) (fun br => fun ac1 wd1 FF1 MM1 => then_n ?_))
  refine wp_seq (rg_seq FF1 MM1 [o_, o_] [2, 0, 3] (fun Kt => ∀ b1, Kt [(3, .slice (some ⟨b1, 0, none⟩) 1 1), (2, pT br), (0, .slice p ns.length cp)] ((b1, .cells (cn .u64 [1]) 61) :: (br, oC #[.slice none 0 0] 37) :: O)) (by kernel_rfl) (fun _ => by kernel_rfl) (fun b1 => fun ac2 wd2 FF2 MM2 => then_n ?_))
  have hb1 : w0.heap.size ≤ b1 := MM2.newest (fun _ hx => List.mem_cons_of_mem _ (hx))
  obtain ⟨O3, MM40, hN5, hs6⟩ := MemS.sinkNat (K := [(br, oC #[.slice none 0 0] 37)]) (O := O) (v := (nv 1 (oneV b1))) (N := 1) MM2 (nat_one b1 61) (Nats.nil O)
  have MM4 : MemS (fun k => k < w0.heap.size ∧ ∀ x ∈ O, x.1 ≠ k) w0 wd2 ((br, oC #[.slice none 0 0] 37) :: O3) [] := MM40
  have hA_7 := hA.mono hs6
  refine wp_seq ?_
  refine wp_seq (rg_seq FF2 MM4 [o_, o_, o_] [3, 2, 7, 8, 9] (fun Kt => Kt [(9, iN 0), (8, iN ns.length), (7, .slice p ns.length cp), (3, nv (prI ns 0) (oneV b1)), (2, pT br)] ((br, oC #[.slice none 0 0] 37) :: O3)) (by kernel_rfl) (fun _ => by kernel_rfl) (fun ac8 wd8 FF8 MM8 => then_n ?_))
  refine wp_for (fun a' w' => ∃ O1 : Blks, ∃ i : Nat, ∃ v : Value, i ≤ ns.length ∧ (∀ x ∈ O, x ∈ O1) ∧ Nats O1 [(nv (prI ns i) v, prI ns i)] ∧ (∀ g, (nv (prI ns i) v).ownBlock = some g → w0.heap.size ≤ g) ∧ Fr 20 a' [(9, iN i), (8, iN ns.length), (7, .slice p ns.length cp), (3, nv (prI ns i) v), (2, pT br)] ∧ MemS (fun k => k < w0.heap.size ∧ ∀ x ∈ O, x.1 ≠ k) w0 w' ((br, oC #[.slice none 0 0] 37) :: O1) []) (fun a' _ => (ns.length - cnt 9 a').toNat) ⟨O3, 0, (oneV b1), by omega, hs6, hN5, (fun g hg => own_one hg ▸ hb1), FF8.pick [0, 1, 2, 3, 4], MM8⟩ ?_
  rintro ac9 wd9 ⟨O1, i, v, hi, hsb, hN1, hfr, FF9, MM9⟩
  have hA1 := hA.mono hsb
  have hc := cnt_of (FF9.get 0 rfl)
  refine rg_seq FF9 MM9 [o_] [9, 8, 7, 3, 2, 10] (fun Kt => Kt [(10, .bool (decide (i < ns.length))), (9, iN i), (8, iN ns.length), (7, .slice p ns.length cp), (3, nv (prI ns i) v), (2, pT br)] ((br, oC #[.slice none 0 0] 37) :: O1)) (by kernel_rfl) (fun _ => by kernel_rfl) (fun ac10 wd10 FF10 MM10 => ?_)
  by_cases hlt : i < ns.length
  · skip
    refine then_n (.inl ⟨(FF10.ev 0 rfl).trans (dec_t hlt), ?_⟩)
    refine wp_seq (rg_seq FF10 MM10 [f_ (.pointer (some ⟨gOf p, i, none⟩)), f_ (aG #[nv (ns.getD i 0) (xs.getD i undef)]), o_, b_ 0] [9, 8, 7, 3, 2, 5] (fun Kt => RunV Tryd.prog [(10, .bool (decide (i < ns.length))), (9, iN i), (8, iN ns.length), (7, .slice p ns.length cp), (3, nv (prI ns i) v), (2, pT br)] ((br, oC #[.slice none 0 0] 37) :: O1) (opAt Tryd.f34 4 0) (.pointer (some ⟨gOf p, i, none⟩)) ∧ RunV Tryd.prog [(11, .pointer (some ⟨gOf p, i, none⟩)), (10, .bool (decide (i < ns.length))), (9, iN i), (8, iN ns.length), (7, .slice p ns.length cp), (3, nv (prI ns i) v), (2, pT br)] ((br, oC #[.slice none 0 0] 37) :: O1) (opAt Tryd.f34 4 1) (aG #[nv (ns.getD i 0) (xs.getD i undef)]) ∧ ∀ b1, b1 = b1 ∧ (#[.slice none 0 0] : Array Value).size = 1 ∧ (#[nv (ns.getD i 0) (xs.getD i undef)] : Array Value).size = 1 ∧ (#[nv (ns.getD i 0) (xs.getD i undef)] : Array Value).all (·.oneCell') = true ∧ (0, 0).2 = 0 ∧ Kt [(5, pT b1), (9, iN i), (8, iN ns.length), (7, .slice p ns.length cp), (3, nv (prI ns i) v), (2, pT br)] ((b1, oC #[nv (ns.getD i 0) (xs.getD i undef)] 37) :: (br, oC #[.slice none 0 0] 37) :: O1)) (by kernel_rfl) (fun _ => by kernel_rfl) (⟨(rowAddr_ok (x := (.tmp 7)) (y := (.tmp 9)) (by kernel_rfl) rfl rfl Tryd.underlying86 (by kernel_rfl) hA1.1 (by omega)), (rowLoadA_ok (x := (.tmp 11)) (i := i) (by kernel_rfl) rfl Tryd.underlying37 rfl (by kernel_rfl) hA1.1 (fun _ hx => List.mem_cons_of_mem _ (hx)) (by omega)), fun b1 => ⟨rfl, rfl, rfl, (by kernel_rfl), rfl, fun ac11 wd11 FF11 MM11 => then_n ?_⟩⟩))
    refine wp_region_list ?_
    refine rg_part 3 FF11 MM11 [o_, o_, l_ 0 (nv (ns.getD i 0) (xs.getD i undef))] [5, 9, 8, 7, 3, 2, 13, 15] (fun Kt => b1 = b1 ∧ (#[nv (ns.getD i 0) (xs.getD i undef)] : Array Value)[0]? = some (nv (ns.getD i 0) (xs.getD i undef)) ∧ Kt [(15, nv (ns.getD i 0) (xs.getD i undef)), (13, nv (prI ns i) v), (5, pT b1), (9, iN i), (8, iN ns.length), (7, .slice p ns.length cp), (3, nv (prI ns i) v), (2, pT br)] ((b1, oC #[nv (ns.getD i 0) (xs.getD i undef)] 37) :: (br, oC #[.slice none 0 0] 37) :: O1)) (by kernel_rfl) (fun _ => by kernel_rfl) (⟨rfl, rfl, fun ac12 wd12 FF12 MM12 => ?_⟩)
    refine st_callE [5, 9, 8, 7, 3, 2, 16] FF12 (d := 16) (mk := fun v => nv ((prI ns i) * (ns.getD i 0)) v) en_times rfl rfl (times_any (prI ns i) (ns.getD i 0) v (xs.getD i undef) (by have := prI_sz h1 i (by omega); have := h1 i (by omega); omega) _ ((hN1.get 0 rfl).at (Has.tl (Has.tl MM12.hasL))) ((hA1.2 i (by omega)).at (Has.tl (Has.tl MM12.hasL)))) rfl (by kernel_rfl) (by decide) fun ac14 wd14 lv13 (FF14 : Fr 20 ac14 [(16, nv ((prI ns i) * (ns.getD i 0)) lv13), (5, pT b1), (9, iN i), (8, iN ns.length), (7, .slice p ns.length cp), (3, nv (prI ns i) v), (2, pT br)]) hr15 => ?_
    rw [prI_step ns i (by omega)] at FF14 hr15
    have hfr2 : ∀ g, (nv (prI ns (i + 1)) lv13).ownBlock = some g → w0.heap.size ≤ g := fun g hg => Nat.le_trans MM12.size (hr15.2.2 g hg)
    obtain ⟨O16, MM170, hN18, hs19⟩ := MemS.addNats (K := [(b1, oC #[nv (ns.getD i 0) (xs.getD i undef)] 37), (br, oC #[.slice none 0 0] 37)]) (O := O1) MM12 hr15.1 hr15.2 hN1
    have MM17 : MemS (fun k => k < w0.heap.size ∧ ∀ x ∈ O, x.1 ≠ k) w0 wd14 ((b1, oC #[nv (ns.getD i 0) (xs.getD i undef)] 37) :: (br, oC #[.slice none 0 0] 37) :: O16) [] := MM170
    have hA_20 := hA1.mono hs19
    have hz21 : ∀ x ∈ O, x ∈ O16 := fun x hx => hs19 x (hsb x hx)
    have hN9 : Nats O16 [(nv (prI ns (i + 1)) lv13, prI ns (i + 1))] := .cons (hN18.get 0 rfl) (.nil _)
    refine rg_part 1 FF14 MM17 [o_] [5, 9, 8, 7, 3, 2] (fun Kt => Kt [(3, nv (prI ns (i + 1)) lv13), (5, pT b1), (9, iN i), (8, iN ns.length), (7, .slice p ns.length cp), (2, pT br)] ((b1, oC #[nv (ns.getD i 0) (xs.getD i undef)] 37) :: (br, oC #[.slice none 0 0] 37) :: O16)) (by kernel_rfl) (fun _ => by kernel_rfl) (fun ac22 wd22 FF22 MM22 => ?_)
    refine wpl_nil ?_
    refine inb_n (then_n ?_)
    refine rg_seq FF22 MM22 [o_, o_] [3, 5, 9, 8, 7, 2] (fun Kt => i + 1 < 9223372036854775808 ∧ Kt [(9, iN (i + 1)), (3, nv (prI ns (i + 1)) lv13), (5, pT b1), (8, iN ns.length), (7, .slice p ns.length cp), (2, pT br)] ((b1, oC #[nv (ns.getD i 0) (xs.getD i undef)] 37) :: (br, oC #[.slice none 0 0] 37) :: O16)) (by kernel_rfl) (fun _ => by kernel_rfl) (⟨(by omega), fun ac23 wd23 FF23 MM23 => ?_⟩)
    have hd := cnt_of (FF23.get 0 rfl)
    refine then_n ⟨⟨O16, i + 1, lv13, by omega, hz21, hN9, hfr2, FF23.pick [0, 3, 4, 1, 5], (MM23.dropAt 0)⟩, ?_⟩
    rw [hc, hd]; omega
  · skip
    refine then_n (.inr ⟨(FF10.ev 0 rfl).trans (dec_f hlt), ?_⟩)
    obtain rfl : i = ns.length := by omega
    refine then_n ?_
    refine wp_seq (rg_seq FF10 MM10 [o_, o_, b_ 0] [9, 8, 7, 3, 2] (fun Kt => br = br ∧ (#[.slice none 0 0] : Array Value).size = 1 ∧ (#[nv (prI ns ns.length) v] : Array Value).size = 1 ∧ (#[nv (prI ns ns.length) v] : Array Value).all (·.oneCell') = true ∧ (0, 0).2 = 0 ∧ Kt [(9, iN ns.length), (8, iN ns.length), (7, .slice p ns.length cp), (3, nv (prI ns ns.length) v), (2, pT br)] ((br, oC #[nv (prI ns ns.length) v] 37) :: O1)) (by kernel_rfl) (fun _ => by kernel_rfl) (⟨rfl, rfl, rfl, (by kernel_rfl), rfl, fun ac24 wd24 FF24 MM24 => then_n ?_⟩))
    refine wp_ret ?_
    repeat first | refine then_ret ?_ | refine inb_ret ?_
    exact (retc FF24 MM24 (k := 1) (i := 0) (j := 4) Tryd.results34 rfl rfl Tryd.underlying37 rfl (by kernel_rfl) rfl (by have h9 : NatNew w0.heap.size _ (nv (prI ns ns.length) v) (prI ns ns.length) := ⟨(hN1.get 0 rfl).at (Has.tl MM24.hasL), hfr⟩; rw [prI_all] at h9 ⊢; exact ⟨v, rfl, MM24.belowN H (fun _ hx => List.mem_cons_of_mem _ (hsb _ hx)), h9⟩))
theorem nmul_any (p : Option Addr) (cp : Nat) (ns : List Nat) (xs : List Value) (h1 : ∀ j, j < ns.length → qsz (ns.getD j 0) ≤ 1000) (hl : ns.length ≤ 100) (w0 : World) (hA : NatsIn w0 p ns xs) : Calls Tryd.prog 34 #[.slice p ns.length cp] w0 fun e w' => ∃ v, e = .returned (.agg #[nv (prN ns) v]) ∧ Below w0.heap.size w0 w' ∧ NatNew w0.heap.size w' (nv (prN ns) v) (prN ns) := by
  obtain ⟨O, g1, g2, g3⟩ := natsIn_O hA
  exact nmul_O O g2 p cp ns xs g3 h1 hl w0 g1
end Go.Proofs.YtlljedijldkcbaaDoor
namespace Go.Proofs.YtlljedijldkcbaaDoor
open Go.RowKit
theorem bsz_pos {M : Nat} (h : M ≠ 0) : 0 < bsz M := by
  rcases Nat.eq_zero_or_pos (bsz M) with h0 | h0
  · have := (bsz_ok M).1; rw [h0] at this; simp at this; omega
  · exact h0
theorem bz0 {M : Nat} (h : bsz M = 0) : M = 0 := by have := (bsz_ok M).1; rw [h] at this; simpa using this
theorem q_pow2 (k : Nat) : 18446744073709551616 ^ k = 2 ^ (64 * k) := by rw [Nat.pow_mul]
theorem one_lt_q (k : Nat) (h : 1 ≤ k) : 1 < 18446744073709551616 ^ k := Nat.lt_of_lt_of_le (show 1 < 18446744073709551616 ^ 1 by decide) (qpw_le h)
theorem pow_lt2 (M k : Nat) : M ^ k ≤ 2 ^ (bsz M * k) := by rw [Nat.pow_mul]; exact Nat.pow_le_pow_left (Nat.le_of_lt (bsz_ok M).1) k
/-- A power that is not too long. -/
def PowOk (M n : Nat) : Prop := bsz M = 0 ∨ n ≤ 65536 / bsz M
theorem pow_szK {M n k K : Nat} (hK : 65536 < 64 * K) (h : PowOk M n) (hk : k ≤ n) : qsz (M ^ k) ≤ K := by
  refine qsz_le ?_
  rcases h with h | h
  · have hM := bz0 h
    subst hM
    have : 0 ^ k ≤ 1 := by cases k <;> simp
    exact Nat.lt_of_le_of_lt this (one_lt_q K (by omega))
  · refine Nat.lt_of_le_of_lt (pow_lt2 M k) ?_
    rw [q_pow2]
    refine Nat.pow_lt_pow_right (by decide) ?_
    have h1 : bsz M * k ≤ bsz M * (65536 / bsz M) := Nat.mul_le_mul_left _ (Nat.le_trans hk h)
    have h2 := Nat.mul_div_le 65536 (bsz M)
    omega
theorem pow_sz {M n k : Nat} (h : PowOk M n) (hk : k ≤ n) : qsz (M ^ k) ≤ 1025 := pow_szK (by decide) h hk
theorem half_le2 (n j : Nat) : n / 2 ^ j ≤ n := Nat.div_le_self _ _
theorem pow_bit0 {M n j : Nat} (h : ¬ n / 2 ^ j % 2 = 1) : M ^ (n / 2 ^ (j + 1)) * M ^ (n / 2 ^ (j + 1)) = M ^ (n / 2 ^ j) := by
  have e : n / 2 ^ j = n / 2 ^ (j + 1) + n / 2 ^ (j + 1) := by rw [Nat.pow_succ, ← Nat.div_div_eq_div_mul]; omega
  rw [e]
  exact (Nat.pow_add M _ _).symm
theorem pow_bit1 {M n j : Nat} (h : n / 2 ^ j % 2 = 1) : M ^ (n / 2 ^ (j + 1)) * M ^ (n / 2 ^ (j + 1)) * M = M ^ (n / 2 ^ j) := by
  have e : n / 2 ^ j = n / 2 ^ (j + 1) + n / 2 ^ (j + 1) + 1 := by rw [Nat.pow_succ, ← Nat.div_div_eq_div_mul]; omega
  rw [e]
  exact ((Nat.pow_succ M _).trans (congrArg (· * M) (Nat.pow_add M _ _))).symm
theorem pow_top (M n : Nat) : M ^ (n / 2 ^ bsz n) = 1 := by rw [Nat.div_eq_of_lt (bsz_ok n).1, Nat.pow_zero]
theorem pow_two_sz {M n j : Nat} (h : PowOk M n) : qsz (M ^ (n / 2 ^ (j + 1)) * M ^ (n / 2 ^ (j + 1))) ≤ 2050 := by
  have h1 := qsz_mul (M ^ (n / 2 ^ (j + 1))) (M ^ (n / 2 ^ (j + 1)))
  have h2 := pow_sz h (half_le2 n (j + 1))
  omega
theorem natNew_nil (base : Nat) (w : World) : NatNew base w (nv 0 (.slice none 0 0)) 0 := ⟨⟨none, 0, rfl, fun _ => ⟨rfl, rfl⟩, fun h => (h rfl).elim, Nat.le_refl _, .inl rfl⟩, fun g hg => by cases hg⟩
theorem bsz_qsz {M : Nat} (h : qsz M < 10000) : bsz M < 1000000 := by
  have h1 := bsz_le (N := M) (n := 64 * qsz M) (by have := (qsz_ok M).1; rwa [show 18446744073709551616 = 2 ^ 64 by rfl, ← Nat.pow_mul] at this)
  omega
set_option maxRecDepth 100000 in
theorem npow_ok_O (O : Blks) (hD : Distinct O) (M : Nat) (x : Value) (hM : NatO O (nv M x) M) (hs : qsz M < 1000000) (hs0 : qsz M < 10000) (n : Nat) (hP : PowOk M n) (hn2 : n < 9223372036854775808) (w0 : World) (H : Has w0 O) :
    Calls Tryd.prog 60 #[.agg #[nv M x], iN n] w0 fun e w' => ∃ v, e = .returned (.tuple #[.agg #[nv (M ^ n) v], iN 0]) ∧ Below w0.heap.size w0 w' ∧ NatNew w0.heap.size w' (nv (M ^ n) v) (M ^ n) := by
  refine enter_fr Tryd.func60 rfl Tryd.ntmps60 (by simp) fun ac (FF : Fr 46 ac [(0, aG #[nv M x]), (1, iN n)]) => ?_
  have MM : MemS (fun k => k < w0.heap.size ∧ ∀ x ∈ O, x.1 ≠ k) w0 w0 O [] := MemS.startN H hD
  have hbM := bsz_qsz hs0
  refine wp_seq (rg_seq FF MM [o_, o_, o_] [1, 2, 4, 5] (fun Kt => ∀ ba, ∀ br, Kt [(5, iN 0), (4, pT br), (2, pT ba), (1, iN n)] ((br, oC #[.slice none 0 0] 37) :: (ba, oC #[nv M x] 37) :: O)) (by kernel_rfl) (fun _ => by kernel_rfl) (fun ba => fun br => fun ac1 wd1 FF1 MM1 => then_n ?_))
  refine wp_seq ?_
  refine wp_seq (rg_seq FF1 MM1 [o_, w_ 3] [5, 4, 2, 1, 10] (fun Kt => ¬ (n < 0) ∧ Kt [(10, .bool false), (5, iN 0), (4, pT br), (2, pT ba), (1, iN n)] ((br, oC #[.slice none 0 0] 37) :: (ba, oC #[nv M x] 37) :: O)) (by kernel_rfl) (fun _ => by kernel_rfl) (⟨(by omega), fun ac2 wd2 FF2 MM2 => then_n ?_⟩))
  refine wp_cond_false (FF2.ev 0 rfl) ?_
  refine wp_skip ?_
  refine then_n ?_
  refine wp_seq ?_
  refine wp_seq (rg_seq FF2 MM2 [b_ 1, u_ 1 (iN (bsz M)), o_] [5, 4, 2, 1, 6] (fun Kt => ba = ba ∧ (#[nv M x] : Array Value).size = 1 ∧ CallP Tryd.prog 35 [aG #[nv M x]] ((br, oC #[.slice none 0 0] 37) :: (ba, oC #[nv M x] 37) :: O) (iN (bsz M)) ∧ Kt [(6, iN (bsz M)), (5, iN 0), (4, pT br), (2, pT ba), (1, iN n)] ((br, oC #[.slice none 0 0] 37) :: (ba, oC #[nv M x] 37) :: O)) (by kernel_rfl) (fun _ => by kernel_rfl) (⟨rfl, rfl, ⟨en_nbits, fun w Hw => nbits_any M x hs w (hM.at (Has.tl (Has.tl Hw)))⟩, fun ac3 wd3 FF3 MM3 => then_n ?_⟩))
  by_cases h4 : bsz M > 0
  · skip
    refine wp_seq (rg_seq FF3 MM3 [o_, w_ 2, o_, o_, o_, o_, w_ 3, o_] [5, 4, 2, 1, 21] (fun Kt => (bsz M) > 0 ∧ (bsz M) ≠ 0 ∧ 65536 / (bsz M) < 9223372036854775808 ∧ ¬ (n > (65536 / (bsz M))) ∧ Kt [(21, .bool false), (5, iN 0), (4, pT br), (2, pT ba), (1, iN n)] ((br, oC #[.slice none 0 0] 37) :: (ba, oC #[nv M x] 37) :: O)) (by kernel_rfl) (fun _ => by kernel_rfl) (⟨h4, (by have := hbM; omega), (Nat.lt_of_le_of_lt (Nat.div_le_self _ _) (by decide)), (Nat.not_lt.2 (hP.resolve_left (by omega))), fun ac4 wd4 FF4 MM4 => then_n ?_⟩))
    refine wp_cond_false (FF4.ev 0 rfl) ?_
    refine wp_skip ?_
    refine then_n ?_
    refine wp_seq (rg_seq FF4 MM4 [o_, o_] [5, 4, 2, 1, 7] (fun Kt => ∀ b1, Kt [(7, .slice (some ⟨b1, 0, none⟩) 1 1), (5, iN 0), (4, pT br), (2, pT ba), (1, iN n)] ((b1, .cells (cn .u64 [1]) 61) :: (br, oC #[.slice none 0 0] 37) :: (ba, oC #[nv M x] 37) :: O)) (by kernel_rfl) (fun _ => by kernel_rfl) (fun b1 => fun ac5 wd5 FF5 MM5 => then_n ?_))
    have hb1 : w0.heap.size ≤ b1 := MM5.newest (fun _ hx => List.mem_cons_of_mem _ (List.mem_cons_of_mem _ (hx)))
    obtain ⟨O6, MM70, hN8, hs9⟩ := MemS.sinkNat (K := [(br, oC #[.slice none 0 0] 37), (ba, oC #[nv M x] 37)]) (O := O) (v := (nv 1 (oneV b1))) (N := 1) MM5 (nat_one b1 61) (Nats.nil O)
    have MM7 : MemS (fun k => k < w0.heap.size ∧ ∀ x ∈ O, x.1 ≠ k) w0 wd5 ((br, oC #[.slice none 0 0] 37) :: (ba, oC #[nv M x] 37) :: O6) [] := MM70
    have hM_10 := hM.mono hs9
    have hN0 : Nats O6 [(nv (M ^ (n / 2 ^ bsz n)) (oneV b1), M ^ (n / 2 ^ bsz n))] := by rw [pow_top]; exact hN8
    have hf0 : ∀ g, (nv (M ^ (n / 2 ^ bsz n)) (oneV b1)).ownBlock = some g → w0.heap.size ≤ g := fun g hg => own_one hg ▸ hb1
    have FFp : Fr 46 ac5 [(7, nv (M ^ (n / 2 ^ bsz n)) (oneV b1)), (5, iN 0), (4, pT br), (2, pT ba), (1, iN n)] := by rw [pow_top]; exact FF5
    refine wp_seq ?_
    have hbn := bsz64 (x := n) (by omega)
    refine wp_seq (rg_seq FFp MM7 [o_, w_ 1, t_ (iN (bsz n)), u_ 4 (.int .i64 (((bsz n : Nat) : Int) - 1 : Int)), o_] [7, 5, 4, 2, 1, 8] (fun Kt => n < 18446744073709551616 ∧ CallP Tryd.prog 76 [iW n] [] (iN (bsz n)) ∧ -(9223372036854775808 : Int) ≤ ((bsz n : Nat) : Int) - ((1 : Nat) : Int) ∧ ((bsz n : Nat) : Int) - ((1 : Nat) : Int) < (9223372036854775808 : Nat) ∧ Value.int .i64 (((bsz n : Nat) : Int) - ((1 : Nat) : Int) : Int) = .int .i64 (((bsz n : Nat) : Int) - 1 : Int) ∧ Kt [(8, .int .i64 (((bsz n : Nat) : Int) - 1 : Int)), (7, nv (M ^ (n / 2 ^ bsz n)) (oneV b1)), (5, iN 0), (4, pT br), (2, pT ba), (1, iN n)] ((br, oC #[.slice none 0 0] 37) :: (ba, oC #[nv M x] 37) :: O6)) (by kernel_rfl) (fun _ => by kernel_rfl) (⟨(by omega), (callP_of en_blen (blen_any n (by omega)) _), (by have := bsz64 (show n < 18446744073709551616 from (by omega)); omega), (by have := bsz64 (show n < 18446744073709551616 from (by omega)); omega), (vZ (by omega)), fun ac11 wd11 FF11 MM11 => then_n ?_⟩))
    refine wp_for2 (fun a' w' => ∃ O1 : Blks, ∃ j : Nat, ∃ v : Value, j ≤ 64 ∧ (∀ x ∈ O, x ∈ O1) ∧ Nats O1 [(nv (M ^ (n / 2 ^ j)) v, M ^ (n / 2 ^ j))] ∧ (∀ g, (nv (M ^ (n / 2 ^ j)) v).ownBlock = some g → w0.heap.size ≤ g) ∧ Fr 46 a' [(8, .int .i64 (((j : Nat) : Int) - 1 : Int)), (7, nv (M ^ (n / 2 ^ j)) v), (5, iN 0), (4, pT br), (2, pT ba), (1, iN n)] ∧ MemS (fun k => k < w0.heap.size ∧ ∀ x ∈ O, x.1 ≠ k) w0 w' ((br, oC #[.slice none 0 0] 37) :: (ba, oC #[nv M x] 37) :: O1) []) (fun a' _ => (cnt 8 a' + 1).toNat) ⟨O6, bsz n, (oneV b1), by omega, hs9, hN0, hf0, FF11.pick [0, 1, 2, 3, 4, 5], MM11⟩ ?_
    rintro ac12 wd12 ⟨O1, j, v, hj, hsb, hN1, hfr, FF12, MM12⟩
    have hM1 := hM.mono hsb
    have hc := cnt_of (FF12.get 0 rfl)
    refine rg_seq FF12 MM12 [o_, w_ 4] [8, 7, 5, 4, 2, 1, 29] (fun Kt => Kt [(29, .bool (decide ((((j : Nat) : Int) - 1) ≥ ((0 : Nat) : Int)))), (8, .int .i64 (((j : Nat) : Int) - 1 : Int)), (7, nv (M ^ (n / 2 ^ j)) v), (5, iN 0), (4, pT br), (2, pT ba), (1, iN n)] ((br, oC #[.slice none 0 0] 37) :: (ba, oC #[nv M x] 37) :: O1)) (by kernel_rfl) (fun _ => by kernel_rfl) (fun ac13 wd13 FF13 MM13 => ?_)
    by_cases hlt : (((j : Nat) : Int) - 1) ≥ ((0 : Nat) : Int)
    · skip
      refine then_n (.inl ⟨(FF13.ev 0 rfl).trans (dec_t hlt), ?_⟩)
      obtain ⟨j, rfl⟩ : ∃ z, j = z + 1 := ⟨j - 1, by omega⟩
      refine wp_seq (wp_region_list ?_)
      refine rg_part 2 FF13 MM13 [o_, o_] [8, 7, 5, 4, 2, 1, 32, 33] (fun Kt => Kt [(33, nv (M ^ (n / 2 ^ (j + 1))) v), (32, nv (M ^ (n / 2 ^ (j + 1))) v), (8, .int .i64 ((((j + 1) : Nat) : Int) - 1 : Int)), (7, nv (M ^ (n / 2 ^ (j + 1))) v), (5, iN 0), (4, pT br), (2, pT ba), (1, iN n)] ((br, oC #[.slice none 0 0] 37) :: (ba, oC #[nv M x] 37) :: O1)) (by kernel_rfl) (fun _ => by kernel_rfl) (fun ac14 wd14 FF14 MM14 => ?_)
      refine st_callE [8, 7, 5, 4, 2, 1, 34] FF14 (d := 34) (mk := fun v => nv ((M ^ (n / 2 ^ (j + 1))) * (M ^ (n / 2 ^ (j + 1)))) v) en_times rfl rfl (times_any (M ^ (n / 2 ^ (j + 1))) (M ^ (n / 2 ^ (j + 1))) v v (by have := pow_sz hP (half_le2 n (j + 1)); omega) _ ((hN1.get 0 rfl).at (Has.tl (Has.tl MM14.hasL))) ((hN1.get 0 rfl).at (Has.tl (Has.tl MM14.hasL)))) rfl (by kernel_rfl) (by decide) fun ac16 wd16 lv15 (FF16 : Fr 46 ac16 [(34, nv ((M ^ (n / 2 ^ (j + 1))) * (M ^ (n / 2 ^ (j + 1)))) lv15), (8, .int .i64 ((((j + 1) : Nat) : Int) - 1 : Int)), (7, nv (M ^ (n / 2 ^ (j + 1))) v), (5, iN 0), (4, pT br), (2, pT ba), (1, iN n)]) hr17 => ?_
      have hfr18 : ∀ g, (nv ((M ^ (n / 2 ^ (j + 1))) * (M ^ (n / 2 ^ (j + 1)))) lv15).ownBlock = some g → w0.heap.size ≤ g := fun g hg => Nat.le_trans MM14.size (hr17.2.2 g hg)
      obtain ⟨O19, MM200, hN21, hs22⟩ := MemS.addNats (K := [(br, oC #[.slice none 0 0] 37), (ba, oC #[nv M x] 37)]) (O := O1) MM14 hr17.1 hr17.2 hN1
      have MM20 : MemS (fun k => k < w0.heap.size ∧ ∀ x ∈ O, x.1 ≠ k) w0 wd16 ((br, oC #[.slice none 0 0] 37) :: (ba, oC #[nv M x] 37) :: O19) [] := MM200
      have hM_23 := hM1.mono hs22
      have hz24 : ∀ x ∈ O, x ∈ O19 := fun x hx => hs22 x (hsb x hx)
      refine rg_part 1 FF16 MM20 [o_] [8, 7, 5, 4, 2, 1] (fun Kt => Kt [(7, nv ((M ^ (n / 2 ^ (j + 1))) * (M ^ (n / 2 ^ (j + 1)))) lv15), (8, .int .i64 ((((j + 1) : Nat) : Int) - 1 : Int)), (5, iN 0), (4, pT br), (2, pT ba), (1, iN n)] ((br, oC #[.slice none 0 0] 37) :: (ba, oC #[nv M x] 37) :: O19)) (by kernel_rfl) (fun _ => by kernel_rfl) (fun ac25 wd25 FF25 MM25 => ?_)
      refine wpl_nil (then_n ?_)
      refine wp_seq (rg_seq FF25 MM25 [o_, t_ (iN j), o_, t_ (iN ((n / (2 ^ j)) % 2)), o_] [7, 8, 5, 4, 2, 1, 39] (fun Kt => Value.int .i64 ((((j + 1) : Nat) : Int) - 1 : Int) = iN j ∧ j ≤ 64 ∧ (n / (2 ^ j)) < 9223372036854775808 ∧ 1 < 9223372036854775808 ∧ iN ((n / (2 ^ j)) &&& 1) = iN ((n / (2 ^ j)) % 2) ∧ Kt [(39, .bool (decide (((n / (2 ^ j)) % 2) = 1))), (7, nv ((M ^ (n / 2 ^ (j + 1))) * (M ^ (n / 2 ^ (j + 1)))) lv15), (8, .int .i64 ((((j + 1) : Nat) : Int) - 1 : Int)), (5, iN 0), (4, pT br), (2, pT ba), (1, iN n)] ((br, oC #[.slice none 0 0] 37) :: (ba, oC #[nv M x] 37) :: O19)) (by kernel_rfl) (fun _ => by kernel_rfl) (⟨(vZ (by omega)), (by omega), (Nat.lt_of_le_of_lt (Nat.div_le_self _ _) hn2), (by decide), (vI (and_low 1 _)), fun ac26 wd26 FF26 MM26 => then_n ?_⟩))
      by_cases hs39 : ((n / (2 ^ j)) % 2) = 1
      · refine wp_cond_true ((FF26.ev 0 rfl).trans (dec_t hs39)) ?_
        refine wp_region_list ?_
        refine rg_part 3 FF26 MM26 [o_, o_, l_ 1 (nv M x)] [7, 8, 5, 4, 2, 1, 40, 42] (fun Kt => ba = ba ∧ (#[nv M x] : Array Value)[0]? = some (nv M x) ∧ Kt [(42, nv M x), (40, nv ((M ^ (n / 2 ^ (j + 1))) * (M ^ (n / 2 ^ (j + 1)))) lv15), (7, nv ((M ^ (n / 2 ^ (j + 1))) * (M ^ (n / 2 ^ (j + 1)))) lv15), (8, .int .i64 ((((j + 1) : Nat) : Int) - 1 : Int)), (5, iN 0), (4, pT br), (2, pT ba), (1, iN n)] ((br, oC #[.slice none 0 0] 37) :: (ba, oC #[nv M x] 37) :: O19)) (by kernel_rfl) (fun _ => by kernel_rfl) (⟨rfl, rfl, fun ac27 wd27 FF27 MM27 => ?_⟩)
        refine st_callE [7, 8, 5, 4, 2, 1, 43] FF27 (d := 43) (mk := fun v => nv ((M ^ (n / 2 ^ (j + 1))) * (M ^ (n / 2 ^ (j + 1))) * M) v) en_times rfl rfl (times_any ((M ^ (n / 2 ^ (j + 1))) * (M ^ (n / 2 ^ (j + 1)))) M lv15 x (by have := pow_two_sz (j := j) hP; omega) _ ((hN21.get 0 rfl).at (Has.tl (Has.tl MM27.hasL))) (hM_23.at (Has.tl (Has.tl MM27.hasL)))) rfl (by kernel_rfl) (by decide) fun ac29 wd29 lv28 (FF29 : Fr 46 ac29 [(43, nv ((M ^ (n / 2 ^ (j + 1))) * (M ^ (n / 2 ^ (j + 1))) * M) lv28), (7, nv ((M ^ (n / 2 ^ (j + 1))) * (M ^ (n / 2 ^ (j + 1)))) lv15), (8, .int .i64 ((((j + 1) : Nat) : Int) - 1 : Int)), (5, iN 0), (4, pT br), (2, pT ba), (1, iN n)]) hr30 => ?_
        have hfr31 : ∀ g, (nv ((M ^ (n / 2 ^ (j + 1))) * (M ^ (n / 2 ^ (j + 1))) * M) lv28).ownBlock = some g → w0.heap.size ≤ g := fun g hg => Nat.le_trans MM27.size (hr30.2.2 g hg)
        obtain ⟨O32, MM330, hN34, hs35⟩ := MemS.addNats (K := [(br, oC #[.slice none 0 0] 37), (ba, oC #[nv M x] 37)]) (O := O19) MM27 hr30.1 hr30.2 hN21
        have MM33 : MemS (fun k => k < w0.heap.size ∧ ∀ x ∈ O, x.1 ≠ k) w0 wd29 ((br, oC #[.slice none 0 0] 37) :: (ba, oC #[nv M x] 37) :: O32) [] := MM330
        have hM_36 := hM_23.mono hs35
        have hz37 : ∀ x ∈ O, x ∈ O32 := fun x hx => hs35 x (hz24 x hx)
        refine rg_part 1 FF29 MM33 [o_] [7, 8, 5, 4, 2, 1] (fun Kt => Kt [(7, nv ((M ^ (n / 2 ^ (j + 1))) * (M ^ (n / 2 ^ (j + 1))) * M) lv28), (8, .int .i64 ((((j + 1) : Nat) : Int) - 1 : Int)), (5, iN 0), (4, pT br), (2, pT ba), (1, iN n)] ((br, oC #[.slice none 0 0] 37) :: (ba, oC #[nv M x] 37) :: O32)) (by kernel_rfl) (fun _ => by kernel_rfl) (fun ac38 wd38 FF38 MM38 => ?_)
        refine wpl_nil ?_
        refine inb_n (then_n ?_)
        refine rg_seq FF38 MM38 [o_, u_ 4 (.int .i64 (((j : Nat) : Int) - 1 : Int)), o_] [7, 8, 5, 4, 2, 1] (fun Kt => -(9223372036854775808 : Int) ≤ ((((j + 1) : Nat) : Int) - 1) - ((1 : Nat) : Int) ∧ ((((j + 1) : Nat) : Int) - 1) - ((1 : Nat) : Int) < (9223372036854775808 : Nat) ∧ Value.int .i64 (((((j + 1) : Nat) : Int) - 1) - ((1 : Nat) : Int) : Int) = .int .i64 (((j : Nat) : Int) - 1 : Int) ∧ Kt [(8, .int .i64 (((j : Nat) : Int) - 1 : Int)), (7, nv ((M ^ (n / 2 ^ (j + 1))) * (M ^ (n / 2 ^ (j + 1))) * M) lv28), (5, iN 0), (4, pT br), (2, pT ba), (1, iN n)] ((br, oC #[.slice none 0 0] 37) :: (ba, oC #[nv M x] 37) :: O32)) (by kernel_rfl) (fun _ => by kernel_rfl) (⟨(by omega), (by omega), (vZ (by omega)), fun ac39 wd39 FF39 MM39 => ?_⟩)
        have hd := cnt_of (FF39.get 0 rfl)
        rw [pow_bit1 hs39] at FF39
        have hN9 : Nats O32 [(nv (M ^ (n / 2 ^ j)) lv28, M ^ (n / 2 ^ j))] := by rw [← pow_bit1 hs39]; exact .cons (hN34.get 0 rfl) (.nil _)
        rw [pow_bit1 hs39] at hfr31
        refine then_n ⟨⟨O32, j, lv28, by omega, hz37, hN9, hfr31, FF39.pick [0, 1, 2, 3, 4, 5], MM39⟩, ?_⟩
        rw [hc, hd]; omega
      · refine wp_cond_false ((FF26.ev 0 rfl).trans (dec_f hs39)) ?_
        refine wp_skip ?_
        refine inb_n (then_n ?_)
        refine rg_seq FF26 MM26 [o_, u_ 4 (.int .i64 (((j : Nat) : Int) - 1 : Int)), o_] [7, 8, 5, 4, 2, 1] (fun Kt => -(9223372036854775808 : Int) ≤ ((((j + 1) : Nat) : Int) - 1) - ((1 : Nat) : Int) ∧ ((((j + 1) : Nat) : Int) - 1) - ((1 : Nat) : Int) < (9223372036854775808 : Nat) ∧ Value.int .i64 (((((j + 1) : Nat) : Int) - 1) - ((1 : Nat) : Int) : Int) = .int .i64 (((j : Nat) : Int) - 1 : Int) ∧ Kt [(8, .int .i64 (((j : Nat) : Int) - 1 : Int)), (7, nv ((M ^ (n / 2 ^ (j + 1))) * (M ^ (n / 2 ^ (j + 1)))) lv15), (5, iN 0), (4, pT br), (2, pT ba), (1, iN n)] ((br, oC #[.slice none 0 0] 37) :: (ba, oC #[nv M x] 37) :: O19)) (by kernel_rfl) (fun _ => by kernel_rfl) (⟨(by omega), (by omega), (vZ (by omega)), fun ac40 wd40 FF40 MM40 => ?_⟩)
        have hd := cnt_of (FF40.get 0 rfl)
        rw [pow_bit0 hs39] at FF40
        have hN9 : Nats O19 [(nv (M ^ (n / 2 ^ j)) lv15, M ^ (n / 2 ^ j))] := by rw [← pow_bit0 hs39]; exact .cons (hN21.get 0 rfl) (.nil _)
        rw [pow_bit0 hs39] at hfr18
        refine then_n ⟨⟨O19, j, lv15, by omega, hz24, hN9, hfr18, FF40.pick [0, 1, 2, 3, 4, 5], MM40⟩, ?_⟩
        rw [hc, hd]; omega
    · skip
      refine then_n (.inr ⟨(FF13.ev 0 rfl).trans (dec_f hlt), ?_⟩)
      obtain rfl : j = 0 := by omega
      refine then_n ?_
      refine wp_seq (rg_seq FF13 MM13 [o_, o_, b_ 0, o_] [8, 7, 5, 4, 2, 1] (fun Kt => br = br ∧ (#[.slice none 0 0] : Array Value).size = 1 ∧ (#[nv (M ^ (n / 2 ^ 0)) v] : Array Value).size = 1 ∧ (#[nv (M ^ (n / 2 ^ 0)) v] : Array Value).all (·.oneCell') = true ∧ (0, 0).2 = 0 ∧ Kt [(5, iN 0), (8, .int .i64 (((0 : Nat) : Int) - 1 : Int)), (7, nv (M ^ (n / 2 ^ 0)) v), (4, pT br), (2, pT ba), (1, iN n)] ((br, oC #[nv (M ^ (n / 2 ^ 0)) v] 37) :: (ba, oC #[nv M x] 37) :: O1)) (by kernel_rfl) (fun _ => by kernel_rfl) (⟨rfl, rfl, rfl, (by kernel_rfl), rfl, fun ac41 wd41 FF41 MM41 => then_n ?_⟩))
      refine wp_ret ?_
      repeat first | refine then_ret ?_ | refine inb_ret ?_
      exact (ret_ct FF41 MM41 (k := 1) (i := 0) (j := 3) (m := 0) Tryd.results60 rfl rfl rfl Tryd.underlying37 rfl (by kernel_rfl) rfl (by have h9 : NatNew w0.heap.size _ (nv (M ^ (n / 2 ^ 0)) v) (M ^ (n / 2 ^ 0)) := ⟨(hN1.get 0 rfl).at (Has.tl (Has.tl MM41.hasL)), hfr⟩; rw [Nat.pow_zero, Nat.div_one] at h9 ⊢; exact ⟨v, rfl, MM41.belowN H (fun _ hx => List.mem_cons_of_mem _ (List.mem_cons_of_mem _ (hsb _ hx))), h9⟩))
  · skip
    refine wp_seq (rg_seq FF3 MM3 [o_, w_ 3, o_, o_, o_, o_, o_, o_] [5, 4, 2, 1, 21] (fun Kt => ¬ ((bsz M) > 0) ∧ Kt [(21, .bool false), (5, iN 0), (4, pT br), (2, pT ba), (1, iN n)] ((br, oC #[.slice none 0 0] 37) :: (ba, oC #[nv M x] 37) :: O)) (by kernel_rfl) (fun _ => by kernel_rfl) (⟨h4, fun ac42 wd42 FF42 MM42 => then_n ?_⟩))
    refine wp_cond_false (FF42.ev 0 rfl) ?_
    refine wp_skip ?_
    refine then_n ?_
    refine wp_seq (rg_seq FF42 MM42 [o_, o_] [5, 4, 2, 1, 7] (fun Kt => ∀ b1, Kt [(7, .slice (some ⟨b1, 0, none⟩) 1 1), (5, iN 0), (4, pT br), (2, pT ba), (1, iN n)] ((b1, .cells (cn .u64 [1]) 61) :: (br, oC #[.slice none 0 0] 37) :: (ba, oC #[nv M x] 37) :: O)) (by kernel_rfl) (fun _ => by kernel_rfl) (fun b1 => fun ac43 wd43 FF43 MM43 => then_n ?_))
    have hb1 : w0.heap.size ≤ b1 := MM43.newest (fun _ hx => List.mem_cons_of_mem _ (List.mem_cons_of_mem _ (hx)))
    obtain ⟨O44, MM450, hN46, hs47⟩ := MemS.sinkNat (K := [(br, oC #[.slice none 0 0] 37), (ba, oC #[nv M x] 37)]) (O := O) (v := (nv 1 (oneV b1))) (N := 1) MM43 (nat_one b1 61) (Nats.nil O)
    have MM45 : MemS (fun k => k < w0.heap.size ∧ ∀ x ∈ O, x.1 ≠ k) w0 wd43 ((br, oC #[.slice none 0 0] 37) :: (ba, oC #[nv M x] 37) :: O44) [] := MM450
    have hM_48 := hM.mono hs47
    have hN0 : Nats O44 [(nv (M ^ (n / 2 ^ bsz n)) (oneV b1), M ^ (n / 2 ^ bsz n))] := by rw [pow_top]; exact hN46
    have hf0 : ∀ g, (nv (M ^ (n / 2 ^ bsz n)) (oneV b1)).ownBlock = some g → w0.heap.size ≤ g := fun g hg => own_one hg ▸ hb1
    have FFp : Fr 46 ac43 [(7, nv (M ^ (n / 2 ^ bsz n)) (oneV b1)), (5, iN 0), (4, pT br), (2, pT ba), (1, iN n)] := by rw [pow_top]; exact FF43
    refine wp_seq ?_
    have hbn := bsz64 (x := n) (by omega)
    refine wp_seq (rg_seq FFp MM45 [o_, w_ 1, t_ (iN (bsz n)), u_ 4 (.int .i64 (((bsz n : Nat) : Int) - 1 : Int)), o_] [7, 5, 4, 2, 1, 8] (fun Kt => n < 18446744073709551616 ∧ CallP Tryd.prog 76 [iW n] [] (iN (bsz n)) ∧ -(9223372036854775808 : Int) ≤ ((bsz n : Nat) : Int) - ((1 : Nat) : Int) ∧ ((bsz n : Nat) : Int) - ((1 : Nat) : Int) < (9223372036854775808 : Nat) ∧ Value.int .i64 (((bsz n : Nat) : Int) - ((1 : Nat) : Int) : Int) = .int .i64 (((bsz n : Nat) : Int) - 1 : Int) ∧ Kt [(8, .int .i64 (((bsz n : Nat) : Int) - 1 : Int)), (7, nv (M ^ (n / 2 ^ bsz n)) (oneV b1)), (5, iN 0), (4, pT br), (2, pT ba), (1, iN n)] ((br, oC #[.slice none 0 0] 37) :: (ba, oC #[nv M x] 37) :: O44)) (by kernel_rfl) (fun _ => by kernel_rfl) (⟨(by omega), (callP_of en_blen (blen_any n (by omega)) _), (by have := bsz64 (show n < 18446744073709551616 from (by omega)); omega), (by have := bsz64 (show n < 18446744073709551616 from (by omega)); omega), (vZ (by omega)), fun ac49 wd49 FF49 MM49 => then_n ?_⟩))
    refine wp_for2 (fun a' w' => ∃ O1 : Blks, ∃ j : Nat, ∃ v : Value, j ≤ 64 ∧ (∀ x ∈ O, x ∈ O1) ∧ Nats O1 [(nv (M ^ (n / 2 ^ j)) v, M ^ (n / 2 ^ j))] ∧ (∀ g, (nv (M ^ (n / 2 ^ j)) v).ownBlock = some g → w0.heap.size ≤ g) ∧ Fr 46 a' [(8, .int .i64 (((j : Nat) : Int) - 1 : Int)), (7, nv (M ^ (n / 2 ^ j)) v), (5, iN 0), (4, pT br), (2, pT ba), (1, iN n)] ∧ MemS (fun k => k < w0.heap.size ∧ ∀ x ∈ O, x.1 ≠ k) w0 w' ((br, oC #[.slice none 0 0] 37) :: (ba, oC #[nv M x] 37) :: O1) []) (fun a' _ => (cnt 8 a' + 1).toNat) ⟨O44, bsz n, (oneV b1), by omega, hs47, hN0, hf0, FF49.pick [0, 1, 2, 3, 4, 5], MM49⟩ ?_
    rintro ac50 wd50 ⟨O1, j, v, hj, hsb, hN1, hfr, FF50, MM50⟩
    have hM1 := hM.mono hsb
    have hc := cnt_of (FF50.get 0 rfl)
    refine rg_seq FF50 MM50 [o_, w_ 4] [8, 7, 5, 4, 2, 1, 29] (fun Kt => Kt [(29, .bool (decide ((((j : Nat) : Int) - 1) ≥ ((0 : Nat) : Int)))), (8, .int .i64 (((j : Nat) : Int) - 1 : Int)), (7, nv (M ^ (n / 2 ^ j)) v), (5, iN 0), (4, pT br), (2, pT ba), (1, iN n)] ((br, oC #[.slice none 0 0] 37) :: (ba, oC #[nv M x] 37) :: O1)) (by kernel_rfl) (fun _ => by kernel_rfl) (fun ac51 wd51 FF51 MM51 => ?_)
    by_cases hlt : (((j : Nat) : Int) - 1) ≥ ((0 : Nat) : Int)
    · skip
      refine then_n (.inl ⟨(FF51.ev 0 rfl).trans (dec_t hlt), ?_⟩)
      obtain ⟨j, rfl⟩ : ∃ z, j = z + 1 := ⟨j - 1, by omega⟩
      refine wp_seq (wp_region_list ?_)
      refine rg_part 2 FF51 MM51 [o_, o_] [8, 7, 5, 4, 2, 1, 32, 33] (fun Kt => Kt [(33, nv (M ^ (n / 2 ^ (j + 1))) v), (32, nv (M ^ (n / 2 ^ (j + 1))) v), (8, .int .i64 ((((j + 1) : Nat) : Int) - 1 : Int)), (7, nv (M ^ (n / 2 ^ (j + 1))) v), (5, iN 0), (4, pT br), (2, pT ba), (1, iN n)] ((br, oC #[.slice none 0 0] 37) :: (ba, oC #[nv M x] 37) :: O1)) (by kernel_rfl) (fun _ => by kernel_rfl) (fun ac52 wd52 FF52 MM52 => ?_)
      refine st_callE [8, 7, 5, 4, 2, 1, 34] FF52 (d := 34) (mk := fun v => nv ((M ^ (n / 2 ^ (j + 1))) * (M ^ (n / 2 ^ (j + 1)))) v) en_times rfl rfl (times_any (M ^ (n / 2 ^ (j + 1))) (M ^ (n / 2 ^ (j + 1))) v v (by have := pow_sz hP (half_le2 n (j + 1)); omega) _ ((hN1.get 0 rfl).at (Has.tl (Has.tl MM52.hasL))) ((hN1.get 0 rfl).at (Has.tl (Has.tl MM52.hasL)))) rfl (by kernel_rfl) (by decide) fun ac54 wd54 lv53 (FF54 : Fr 46 ac54 [(34, nv ((M ^ (n / 2 ^ (j + 1))) * (M ^ (n / 2 ^ (j + 1)))) lv53), (8, .int .i64 ((((j + 1) : Nat) : Int) - 1 : Int)), (7, nv (M ^ (n / 2 ^ (j + 1))) v), (5, iN 0), (4, pT br), (2, pT ba), (1, iN n)]) hr55 => ?_
      have hfr56 : ∀ g, (nv ((M ^ (n / 2 ^ (j + 1))) * (M ^ (n / 2 ^ (j + 1)))) lv53).ownBlock = some g → w0.heap.size ≤ g := fun g hg => Nat.le_trans MM52.size (hr55.2.2 g hg)
      obtain ⟨O57, MM580, hN59, hs60⟩ := MemS.addNats (K := [(br, oC #[.slice none 0 0] 37), (ba, oC #[nv M x] 37)]) (O := O1) MM52 hr55.1 hr55.2 hN1
      have MM58 : MemS (fun k => k < w0.heap.size ∧ ∀ x ∈ O, x.1 ≠ k) w0 wd54 ((br, oC #[.slice none 0 0] 37) :: (ba, oC #[nv M x] 37) :: O57) [] := MM580
      have hM_61 := hM1.mono hs60
      have hz62 : ∀ x ∈ O, x ∈ O57 := fun x hx => hs60 x (hsb x hx)
      refine rg_part 1 FF54 MM58 [o_] [8, 7, 5, 4, 2, 1] (fun Kt => Kt [(7, nv ((M ^ (n / 2 ^ (j + 1))) * (M ^ (n / 2 ^ (j + 1)))) lv53), (8, .int .i64 ((((j + 1) : Nat) : Int) - 1 : Int)), (5, iN 0), (4, pT br), (2, pT ba), (1, iN n)] ((br, oC #[.slice none 0 0] 37) :: (ba, oC #[nv M x] 37) :: O57)) (by kernel_rfl) (fun _ => by kernel_rfl) (fun ac63 wd63 FF63 MM63 => ?_)
      refine wpl_nil (then_n ?_)
      refine wp_seq (rg_seq FF63 MM63 [o_, t_ (iN j), o_, t_ (iN ((n / (2 ^ j)) % 2)), o_] [7, 8, 5, 4, 2, 1, 39] (fun Kt => Value.int .i64 ((((j + 1) : Nat) : Int) - 1 : Int) = iN j ∧ j ≤ 64 ∧ (n / (2 ^ j)) < 9223372036854775808 ∧ 1 < 9223372036854775808 ∧ iN ((n / (2 ^ j)) &&& 1) = iN ((n / (2 ^ j)) % 2) ∧ Kt [(39, .bool (decide (((n / (2 ^ j)) % 2) = 1))), (7, nv ((M ^ (n / 2 ^ (j + 1))) * (M ^ (n / 2 ^ (j + 1)))) lv53), (8, .int .i64 ((((j + 1) : Nat) : Int) - 1 : Int)), (5, iN 0), (4, pT br), (2, pT ba), (1, iN n)] ((br, oC #[.slice none 0 0] 37) :: (ba, oC #[nv M x] 37) :: O57)) (by kernel_rfl) (fun _ => by kernel_rfl) (⟨(vZ (by omega)), (by omega), (Nat.lt_of_le_of_lt (Nat.div_le_self _ _) hn2), (by decide), (vI (and_low 1 _)), fun ac64 wd64 FF64 MM64 => then_n ?_⟩))
      by_cases hs39 : ((n / (2 ^ j)) % 2) = 1
      · refine wp_cond_true ((FF64.ev 0 rfl).trans (dec_t hs39)) ?_
        refine wp_region_list ?_
        refine rg_part 3 FF64 MM64 [o_, o_, l_ 1 (nv M x)] [7, 8, 5, 4, 2, 1, 40, 42] (fun Kt => ba = ba ∧ (#[nv M x] : Array Value)[0]? = some (nv M x) ∧ Kt [(42, nv M x), (40, nv ((M ^ (n / 2 ^ (j + 1))) * (M ^ (n / 2 ^ (j + 1)))) lv53), (7, nv ((M ^ (n / 2 ^ (j + 1))) * (M ^ (n / 2 ^ (j + 1)))) lv53), (8, .int .i64 ((((j + 1) : Nat) : Int) - 1 : Int)), (5, iN 0), (4, pT br), (2, pT ba), (1, iN n)] ((br, oC #[.slice none 0 0] 37) :: (ba, oC #[nv M x] 37) :: O57)) (by kernel_rfl) (fun _ => by kernel_rfl) (⟨rfl, rfl, fun ac65 wd65 FF65 MM65 => ?_⟩)
        refine st_callE [7, 8, 5, 4, 2, 1, 43] FF65 (d := 43) (mk := fun v => nv ((M ^ (n / 2 ^ (j + 1))) * (M ^ (n / 2 ^ (j + 1))) * M) v) en_times rfl rfl (times_any ((M ^ (n / 2 ^ (j + 1))) * (M ^ (n / 2 ^ (j + 1)))) M lv53 x (by have := pow_two_sz (j := j) hP; omega) _ ((hN59.get 0 rfl).at (Has.tl (Has.tl MM65.hasL))) (hM_61.at (Has.tl (Has.tl MM65.hasL)))) rfl (by kernel_rfl) (by decide) fun ac67 wd67 lv66 (FF67 : Fr 46 ac67 [(43, nv ((M ^ (n / 2 ^ (j + 1))) * (M ^ (n / 2 ^ (j + 1))) * M) lv66), (7, nv ((M ^ (n / 2 ^ (j + 1))) * (M ^ (n / 2 ^ (j + 1)))) lv53), (8, .int .i64 ((((j + 1) : Nat) : Int) - 1 : Int)), (5, iN 0), (4, pT br), (2, pT ba), (1, iN n)]) hr68 => ?_
        have hfr69 : ∀ g, (nv ((M ^ (n / 2 ^ (j + 1))) * (M ^ (n / 2 ^ (j + 1))) * M) lv66).ownBlock = some g → w0.heap.size ≤ g := fun g hg => Nat.le_trans MM65.size (hr68.2.2 g hg)
        obtain ⟨O70, MM710, hN72, hs73⟩ := MemS.addNats (K := [(br, oC #[.slice none 0 0] 37), (ba, oC #[nv M x] 37)]) (O := O57) MM65 hr68.1 hr68.2 hN59
        have MM71 : MemS (fun k => k < w0.heap.size ∧ ∀ x ∈ O, x.1 ≠ k) w0 wd67 ((br, oC #[.slice none 0 0] 37) :: (ba, oC #[nv M x] 37) :: O70) [] := MM710
        have hM_74 := hM_61.mono hs73
        have hz75 : ∀ x ∈ O, x ∈ O70 := fun x hx => hs73 x (hz62 x hx)
        refine rg_part 1 FF67 MM71 [o_] [7, 8, 5, 4, 2, 1] (fun Kt => Kt [(7, nv ((M ^ (n / 2 ^ (j + 1))) * (M ^ (n / 2 ^ (j + 1))) * M) lv66), (8, .int .i64 ((((j + 1) : Nat) : Int) - 1 : Int)), (5, iN 0), (4, pT br), (2, pT ba), (1, iN n)] ((br, oC #[.slice none 0 0] 37) :: (ba, oC #[nv M x] 37) :: O70)) (by kernel_rfl) (fun _ => by kernel_rfl) (fun ac76 wd76 FF76 MM76 => ?_)
        refine wpl_nil ?_
        refine inb_n (then_n ?_)
        refine rg_seq FF76 MM76 [o_, u_ 4 (.int .i64 (((j : Nat) : Int) - 1 : Int)), o_] [7, 8, 5, 4, 2, 1] (fun Kt => -(9223372036854775808 : Int) ≤ ((((j + 1) : Nat) : Int) - 1) - ((1 : Nat) : Int) ∧ ((((j + 1) : Nat) : Int) - 1) - ((1 : Nat) : Int) < (9223372036854775808 : Nat) ∧ Value.int .i64 (((((j + 1) : Nat) : Int) - 1) - ((1 : Nat) : Int) : Int) = .int .i64 (((j : Nat) : Int) - 1 : Int) ∧ Kt [(8, .int .i64 (((j : Nat) : Int) - 1 : Int)), (7, nv ((M ^ (n / 2 ^ (j + 1))) * (M ^ (n / 2 ^ (j + 1))) * M) lv66), (5, iN 0), (4, pT br), (2, pT ba), (1, iN n)] ((br, oC #[.slice none 0 0] 37) :: (ba, oC #[nv M x] 37) :: O70)) (by kernel_rfl) (fun _ => by kernel_rfl) (⟨(by omega), (by omega), (vZ (by omega)), fun ac77 wd77 FF77 MM77 => ?_⟩)
        have hd := cnt_of (FF77.get 0 rfl)
        rw [pow_bit1 hs39] at FF77
        have hN9 : Nats O70 [(nv (M ^ (n / 2 ^ j)) lv66, M ^ (n / 2 ^ j))] := by rw [← pow_bit1 hs39]; exact .cons (hN72.get 0 rfl) (.nil _)
        rw [pow_bit1 hs39] at hfr69
        refine then_n ⟨⟨O70, j, lv66, by omega, hz75, hN9, hfr69, FF77.pick [0, 1, 2, 3, 4, 5], MM77⟩, ?_⟩
        rw [hc, hd]; omega
      · refine wp_cond_false ((FF64.ev 0 rfl).trans (dec_f hs39)) ?_
        refine wp_skip ?_
        refine inb_n (then_n ?_)
        refine rg_seq FF64 MM64 [o_, u_ 4 (.int .i64 (((j : Nat) : Int) - 1 : Int)), o_] [7, 8, 5, 4, 2, 1] (fun Kt => -(9223372036854775808 : Int) ≤ ((((j + 1) : Nat) : Int) - 1) - ((1 : Nat) : Int) ∧ ((((j + 1) : Nat) : Int) - 1) - ((1 : Nat) : Int) < (9223372036854775808 : Nat) ∧ Value.int .i64 (((((j + 1) : Nat) : Int) - 1) - ((1 : Nat) : Int) : Int) = .int .i64 (((j : Nat) : Int) - 1 : Int) ∧ Kt [(8, .int .i64 (((j : Nat) : Int) - 1 : Int)), (7, nv ((M ^ (n / 2 ^ (j + 1))) * (M ^ (n / 2 ^ (j + 1)))) lv53), (5, iN 0), (4, pT br), (2, pT ba), (1, iN n)] ((br, oC #[.slice none 0 0] 37) :: (ba, oC #[nv M x] 37) :: O57)) (by kernel_rfl) (fun _ => by kernel_rfl) (⟨(by omega), (by omega), (vZ (by omega)), fun ac78 wd78 FF78 MM78 => ?_⟩)
        have hd := cnt_of (FF78.get 0 rfl)
        rw [pow_bit0 hs39] at FF78
        have hN9 : Nats O57 [(nv (M ^ (n / 2 ^ j)) lv53, M ^ (n / 2 ^ j))] := by rw [← pow_bit0 hs39]; exact .cons (hN59.get 0 rfl) (.nil _)
        rw [pow_bit0 hs39] at hfr56
        refine then_n ⟨⟨O57, j, lv53, by omega, hz62, hN9, hfr56, FF78.pick [0, 1, 2, 3, 4, 5], MM78⟩, ?_⟩
        rw [hc, hd]; omega
    · skip
      refine then_n (.inr ⟨(FF51.ev 0 rfl).trans (dec_f hlt), ?_⟩)
      obtain rfl : j = 0 := by omega
      refine then_n ?_
      refine wp_seq (rg_seq FF51 MM51 [o_, o_, b_ 0, o_] [8, 7, 5, 4, 2, 1] (fun Kt => br = br ∧ (#[.slice none 0 0] : Array Value).size = 1 ∧ (#[nv (M ^ (n / 2 ^ 0)) v] : Array Value).size = 1 ∧ (#[nv (M ^ (n / 2 ^ 0)) v] : Array Value).all (·.oneCell') = true ∧ (0, 0).2 = 0 ∧ Kt [(5, iN 0), (8, .int .i64 (((0 : Nat) : Int) - 1 : Int)), (7, nv (M ^ (n / 2 ^ 0)) v), (4, pT br), (2, pT ba), (1, iN n)] ((br, oC #[nv (M ^ (n / 2 ^ 0)) v] 37) :: (ba, oC #[nv M x] 37) :: O1)) (by kernel_rfl) (fun _ => by kernel_rfl) (⟨rfl, rfl, rfl, (by kernel_rfl), rfl, fun ac79 wd79 FF79 MM79 => then_n ?_⟩))
      refine wp_ret ?_
      repeat first | refine then_ret ?_ | refine inb_ret ?_
      exact (ret_ct FF79 MM79 (k := 1) (i := 0) (j := 3) (m := 0) Tryd.results60 rfl rfl rfl Tryd.underlying37 rfl (by kernel_rfl) rfl (by have h9 : NatNew w0.heap.size _ (nv (M ^ (n / 2 ^ 0)) v) (M ^ (n / 2 ^ 0)) := ⟨(hN1.get 0 rfl).at (Has.tl (Has.tl MM79.hasL)), hfr⟩; rw [Nat.pow_zero, Nat.div_one] at h9 ⊢; exact ⟨v, rfl, MM79.belowN H (fun _ hx => List.mem_cons_of_mem _ (List.mem_cons_of_mem _ (hsb _ hx))), h9⟩))
theorem npow_ok (M : Nat) (x : Value) (hs : qsz M < 10000) (n : Nat) (hP : PowOk M n) (hn2 : n < 9223372036854775808) (w0 : World) (hM : NatIn w0 (nv M x) M) : Calls Tryd.prog 60 #[.agg #[nv M x], iN n] w0 fun e w' => ∃ v, e = .returned (.tuple #[.agg #[nv (M ^ n) v], iN 0]) ∧ Below w0.heap.size w0 w' ∧ NatNew w0.heap.size w' (nv (M ^ n) v) (M ^ n) := by
  obtain ⟨O, h1, h2, h3⟩ := nat1_O hM
  exact npow_ok_O O h2 M x h3 (by omega) hs n hP hn2 w0 h1
end Go.Proofs.YtlljedijldkcbaaDoor
namespace Go.Proofs.YtlljedijldkcbaaDoor
open Go.RowKit
/-- A row of a number's words, in memory of its own. -/
def CloneOf (base : Nat) (w : World) (M : Nat) (v : Value) : Prop := (M = 0 ∧ pOf v = none ∧ cOf v = 0) ∨ (M ≠ 0 ∧ ∃ (g : Nat) (rest : Array Value), pOf v = some ⟨g, 0, none⟩ ∧ base ≤ g ∧ w.heap[g]? = some (.cells (cn .u64 (qminB M) ++ rest) 61) ∧ (cn .u64 (qminB M) ++ rest).size = cOf v ∧ cOf v ≤ maxLen)
theorem CloneOf.mono {base base' : Nat} {w : World} {M : Nat} {v : Value} (h : CloneOf base w M v) (hb : base' ≤ base) : CloneOf base' w M v := by
  rcases h with h | ⟨h0, g, rest, h1, h2, h3⟩
  · exact .inl h
  · exact .inr ⟨h0, g, rest, h1, Nat.le_trans hb h2, h3⟩
theorem natO_some {O : Blks} {N : Nat} {x : Value} (h : NatO O (nv N x) N) (h0 : N ≠ 0) : ∃ ad, pOf x = some ad := by
  have := natO_none h
  rw [decide_eq_false h0] at this
  cases hp : pOf x with
  | none => rw [hp] at this; cases this
  | some ad => exact ⟨ad, rfl⟩
theorem cells_qmin {w : World} {p : Option Addr} {M : Nat} (h : CellsIn w p (qsz M) (fun j => iW (qd M j))) : CellsIn w p (qsz M) (fun j => iW ((qminB M).getD j 0)) := by
  rcases h with h | ⟨b, cs, T, fr, h1, h2, h3⟩
  · exact .inl h
  · exact .inr ⟨b, cs, T, fr, h1, h2, fun j hj => by rw [h3 j hj]; show some (iW (qd M j)) = some (iW ((qminB M).getD j 0)); rw [qminB_get]; rfl⟩
set_option maxRecDepth 100000 in
theorem clone_zero (O : Blks) (hD : Distinct O) (M : Nat) (x : Value) (hM : NatO O (nv M x) M) (h0 : M = 0) (w0 : World) (H : Has w0 O) :
    Calls Tryd.prog 51 #[nv M x] w0 fun e w' => ∃ v, e = .returned (nv M v) ∧ Below w0.heap.size w0 w' ∧ CloneOf w0.heap.size w' M v := by
  refine enter_fr Tryd.func51 rfl Tryd.ntmps51 (by simp) fun ac (FF : Fr 8 ac [(0, nv M x)]) => ?_
  have MM : MemS (fun k => k < w0.heap.size ∧ ∀ x ∈ O, x.1 ≠ k) w0 w0 O [] := MemS.startN H hD
  refine wp_seq (rg_seq FF MM [o_] [0, 2] (fun Kt => Kt [(2, .slice none 0 0), (0, nv M x)] O) (by kernel_rfl) (fun _ => by kernel_rfl) (fun ac1 wd1 FF1 MM1 => then_n ?_))
  refine wp_seq ?_
  refine wp_seq (rg_seq FF1 MM1 [o_, f_ (.bool true)] [2, 0, 4] (fun Kt => RunV Tryd.prog [(3, nv M x), (2, .slice none 0 0), (0, nv M x)] O (opAt Tryd.f51 1 1) (.bool true) ∧ Kt [(4, .bool true), (2, .slice none 0 0), (0, nv M x)] O) (by kernel_rfl) (fun _ => by kernel_rfl) (⟨(rowNil_ok (x := .tmp 3) (t' := 35) (n := qsz M) (p := pOf x) (c := cOf x) (by kernel_rfl) rfl Tryd.underlying35 (by rw [natO_none hM]; exact decide_eq_true h0)), fun ac2 wd2 FF2 MM2 => then_n ?_⟩))
  refine wp_cond_true (FF2.ev 0 rfl) ?_
  refine wp_seq (rg_seq FF2 MM2 [o_] [2, 0] (fun Kt => Kt [(2, .slice none 0 0), (0, nv M x)] O) (by kernel_rfl) (fun _ => by kernel_rfl) (fun ac3 wd3 FF3 MM3 => then_n ?_))
  refine wp_ret ?_
  repeat first | refine then_ret ?_ | refine inb_ret ?_
  exact (ret_fr FF3 0 Tryd.results51 rfl ⟨.slice none 0 0, congrArg Ending.returned (by rw [h0]; rfl), MM3.belowN H (fun _ hx => hx), .inl ⟨h0, rfl, rfl⟩⟩)
set_option maxRecDepth 100000 in
theorem clone_some (O : Blks) (hD : Distinct O) (M : Nat) (x : Value) (hM : NatO O (nv M x) M) (hs : qsz M < 1000000) (h0 : M ≠ 0) (w0 : World) (H : Has w0 O) :
    Calls Tryd.prog 51 #[nv M x] w0 fun e w' => ∃ v, e = .returned (nv M v) ∧ Below w0.heap.size w0 w' ∧ CloneOf w0.heap.size w' M v := by
  refine enter_fr Tryd.func51 rfl Tryd.ntmps51 (by simp) fun ac (FF : Fr 8 ac [(0, nv M x)]) => ?_
  have MM : MemS (fun k => k < w0.heap.size ∧ ∀ x ∈ O, x.1 ≠ k) w0 w0 O [] := MemS.startN H hD
  obtain ⟨ad, had⟩ := natO_some hM h0
  refine wp_seq (rg_seq FF MM [o_] [0, 2] (fun Kt => Kt [(2, .slice none 0 0), (0, nv M x)] O) (by kernel_rfl) (fun _ => by kernel_rfl) (fun ac1 wd1 FF1 MM1 => then_n ?_))
  refine wp_seq ?_
  refine wp_seq (rg_seq FF1 MM1 [o_, f_ (.bool false)] [2, 0, 4] (fun Kt => RunV Tryd.prog [(3, nv M x), (2, .slice none 0 0), (0, nv M x)] O (opAt Tryd.f51 1 1) (.bool false) ∧ Kt [(4, .bool false), (2, .slice none 0 0), (0, nv M x)] O) (by kernel_rfl) (fun _ => by kernel_rfl) (⟨(rowNil_ok (x := .tmp 3) (t' := 35) (n := qsz M) (p := pOf x) (c := cOf x) (by kernel_rfl) rfl Tryd.underlying35 (by rw [natO_none hM]; exact decide_eq_false h0)), fun ac2 wd2 FF2 MM2 => then_n ?_⟩))
  refine wp_cond_false (FF2.ev 0 rfl) ?_
  refine wp_skip ?_
  refine then_n ?_
  refine wp_seq (wp_region_list ?_)
  refine rg_part 2 FF2 MM2 [o_, o_] [2, 0, 5, 6] (fun Kt => ∀ be, Kt [(6, nv M x), (5, .slice (some ⟨be, 0, none⟩) 0 0), (2, .slice none 0 0), (0, nv M x)] ((be, oC #[] 61) :: O)) (by kernel_rfl) (fun _ => by kernel_rfl) (fun be => fun ac3 wd3 FF3 MM3 => ?_)
  have hnew := MM3.newest (fun _ hx => hx)
  have MMw := MM3.rowOf (m := 0) (k := 1) hnew (Nat.zero_le _) rfl
  rw [show nv M x = .slice (some ad) (qsz M) (cOf x) by rw [nv, had]] at FF3
  refine st_app [2, 0, 7] FF3 MMw (d := 7) (s := 5) (x := 6) (Y := (wc (qminB M))) (z := iW 0) (bb := 8) rfl rfl rfl (by rw [wc_len, qminB_len]) (lies_O (by have h7 := (natO_cells hM).at MMw.hasL; rw [qminB_len]; exact cells_qmin h7) had) (wc_one _) (qsz_pos h0) Tryd.underlying35 (by kernel_rfl) rfl (by decide) (by simp only [maxLen]; omega) (by omega) rfl rfl (by decide) fun ac5 wd5 rv4 (FF5 : Fr 8 ac5 [(7, rv4), (2, .slice none 0 0), (0, .slice (some ad) (qsz M) (cOf x))]) (MM5 : MemS (fun k => k < w0.heap.size ∧ ∀ x ∈ O, x.1 ≠ k) w0 wd5 O [(rv4, 61, 1, (0 + qsz M), ([] ++ (wc (qminB M))))]) => ?_
  refine rg_part 1 FF5 MM5 [o_] [2, 0] (fun Kt => Kt [(2, rv4), (0, .slice (some ad) (qsz M) (cOf x))] O) (by kernel_rfl) (fun _ => by kernel_rfl) (fun ac6 wd6 FF6 MM6 => ?_)
  refine wpl_nil (then_n ?_)
  refine wp_ret ?_
  repeat first | refine then_ret ?_ | refine inb_ret ?_
  exact (ret_fr FF6 0 Tryd.results51 rfl (by have MMv := MM6; rw [Nat.zero_add, List.nil_append] at MMv; obtain ⟨p9, c9, rfl, _⟩ := MMv.rowLen; obtain ⟨g, rfl⟩ := MMv.rowSome (qsz_pos h0); obtain ⟨rest, MMz, hg, _, hmx, hsz, _⟩ := MMv.freezeW; exact ⟨.slice (some ⟨g, 0, none⟩) 0 c9, rfl, MMz.belowN H (fun _ hx => List.mem_cons_of_mem _ (hx)), .inr ⟨h0, g, rest, rfl, hg, MMz.get 0 rfl, hsz, hmx⟩⟩))
theorem clone_any (M : Nat) (x : Value) (hs : qsz M < 1000000) (w0 : World) (hM : NatIn w0 (nv M x) M) : Calls Tryd.prog 51 #[nv M x] w0 fun e w' => ∃ v, e = .returned (nv M v) ∧ Below w0.heap.size w0 w' ∧ CloneOf w0.heap.size w' M v := by
  obtain ⟨O, h1, h2, h3⟩ := nat1_O hM
  by_cases h0 : M = 0
  · exact clone_zero O h2 M x h3 h0 w0 h1
  · exact clone_some O h2 M x h3 hs h0 w0 h1
end Go.Proofs.YtlljedijldkcbaaDoor
namespace Go.Proofs.YtlljedijldkcbaaDoor
open Go.RowKit
theorem MemS.addFresh {S : Nat → Prop} {w0 w w' : World} {L : Blks} {R : List Row} {g : Nat} {ob : Obj} (M : MemS S w0 w L R) (M' : MemS S w0 w' L R) (hb : w'.heap[g]? = some ob) (hg : w.heap.size ≤ g) : MemS S w0 w' ((g, ob) :: L) R :=
  M'.addBlk hb (fun x hx => by have := lt_of_block (Has.mem M.hasL hx); omega) (fun hs => by have := M.old g hs; have := M.size; omega) (fun r hr g' hg' => by have := (ownsRow_lt (M.rows r hr) hg').2; omega)
end Go.Proofs.YtlljedijldkcbaaDoor
namespace Go.Proofs.YtlljedijldkcbaaDoor
def gleB (n N : Nat) : List Nat := (List.range n).map fun j => N / 10000000000000000000 ^ j % 10000000000000000000
theorem gleB_len (n N : Nat) : (gleB n N).length = n := by simp [gleB]
theorem gleB_get {n N i : Nat} (h : i < n) : (gleB n N).getD i 0 = N / 10000000000000000000 ^ i % 10000000000000000000 := by simp [gleB, h]
/-- How many bytes a number has. -/
def gszT (N : Nat) : Nat → Nat
  | 0 => 0
  | k + 1 => if N < 10000000000000000000 ^ k then gszT N k else k + 1
def gsz (N : Nat) : Nat := gszT N N
theorem gszT_ok (N : Nat) : ∀ k, N < 10000000000000000000 ^ k → N < 10000000000000000000 ^ gszT N k ∧ (gszT N k = 0 ∨ 10000000000000000000 ^ (gszT N k - 1) ≤ N)
  | 0, h => ⟨h, .inl rfl⟩
  | k + 1, h => by
    unfold gszT
    split
    · rename_i h1; exact gszT_ok N k h1
    · rename_i h1; exact ⟨h, .inr (Nat.le_of_not_lt h1)⟩
theorem gsz_ok (N : Nat) : N < 10000000000000000000 ^ gsz N ∧ (gsz N = 0 ∨ 10000000000000000000 ^ (gsz N - 1) ≤ N) := gszT_ok N N (Nat.lt_pow_self (by decide))
theorem gpw_le {m n : Nat} (h : m ≤ n) : 10000000000000000000 ^ m ≤ 10000000000000000000 ^ n := Nat.pow_le_pow_right (by decide) h
theorem gpw_pos (n : Nat) : 0 < 10000000000000000000 ^ n := Nat.pow_pos (by decide)
theorem gsz_le {N n : Nat} (h : N < 10000000000000000000 ^ n) : gsz N ≤ n := by
  rcases (gsz_ok N).2 with b | b
  · omega
  · rcases Nat.lt_or_ge n (gsz N) with c | c
    · have := gpw_le (show n ≤ gsz N - 1 by omega); omega
    · exact c
theorem glt_sz {N n : Nat} (h : gsz N ≤ n) : N < 10000000000000000000 ^ n := Nat.lt_of_lt_of_le (gsz_ok N).1 (gpw_le h)
theorem gleB_succ (n N : Nat) : gleB (n + 1) N = gleB n N ++ [N / 10000000000000000000 ^ n % 10000000000000000000] := by simp [gleB, List.range_succ]
end Go.Proofs.YtlljedijldkcbaaDoor
namespace Go.Proofs.YtlljedijldkcbaaDoor
open Go.RowKit
/-- A number's words, the upper ones divided by a group. -/
def pdL (n N j : Nat) : List Nat := (List.range n).map fun k => if j ≤ k then qd (N / 10000000000000000000) k else qd N k
theorem pdL_len (n N j : Nat) : (pdL n N j).length = n := by simp [pdL]
theorem pdL_get (n N j : Nat) {k : Nat} (h : k < n) : (pdL n N j).getD k 0 = if j ≤ k then qd (N / 10000000000000000000) k else qd N k := by simp [pdL, h]
theorem pdL_top (n N : Nat) : pdL n N n = qleB n N := by
  refine ext_getD (by rw [pdL_len, qleB_len]) fun k hk => ?_
  rw [pdL_len] at hk
  rw [pdL_get n N n hk, qleB_get hk, if_neg (by omega)]; rfl
theorem pdL_zero (n N : Nat) : pdL n N 0 = qleB n (N / 10000000000000000000) := by
  refine ext_getD (by rw [pdL_len, qleB_len]) fun k hk => ?_
  rw [pdL_len] at hk
  rw [pdL_get n N 0 hk, qleB_get hk, if_pos (by omega)]; rfl
theorem pdL_step (n N j : Nat) (h : j < n) : (pdL n N (j + 1)).set j (qd (N / 10000000000000000000) j) = pdL n N j := by
  refine ext_getD (by simp [pdL]) fun k hk => ?_
  simp only [List.length_set, pdL_len] at hk
  rw [getD_set, pdL_get n N (j + 1) hk, pdL_get n N j hk, pdL_len]
  by_cases e : j = k
  · subst e; rw [if_pos ⟨rfl, h⟩, if_pos (by omega)]
  · rw [if_neg (fun h => e h.1)]
    by_cases h1 : j ≤ k
    · rw [if_pos (by omega), if_pos h1]
    · rw [if_neg (by omega), if_neg h1]
theorem part_num (N j : Nat) : N / 18446744073709551616 ^ j = N / 18446744073709551616 ^ (j + 1) * 18446744073709551616 + qd N j := by
  unfold qd
  rw [Nat.pow_succ, ← Nat.div_div_eq_div_mul]; omega
theorem part_rest (N j : Nat) : (N / 18446744073709551616 ^ (j + 1) % 10000000000000000000 * 18446744073709551616 + qd N j) % 10000000000000000000 = N / 18446744073709551616 ^ j % 10000000000000000000 := by
  rw [part_num N j]
  generalize N / 18446744073709551616 ^ (j + 1) = t
  have := qd_lt N j
  omega
theorem part_word (N j : Nat) : (N / 18446744073709551616 ^ (j + 1) % 10000000000000000000 * 18446744073709551616 + qd N j) / 10000000000000000000 = qd (N / 10000000000000000000) j := by
  have e : qd (N / 10000000000000000000) j = N / 18446744073709551616 ^ j / 10000000000000000000 % 18446744073709551616 := by unfold qd; rw [Nat.div_div_eq_div_mul, Nat.div_div_eq_div_mul, Nat.mul_comm]
  rw [e, part_num N j]
  generalize N / 18446744073709551616 ^ (j + 1) = t
  have := qd_lt N j
  omega
theorem part_top (N n : Nat) (h : qsz N ≤ n) : N / 18446744073709551616 ^ n % 10000000000000000000 = 0 := by rw [Nat.div_eq_of_lt (qlt_sz h)]
theorem reb {n K : Nat} (h : qsz K ≤ n) (rest : Array Value) : ∃ rest2 : Array Value, cn .u64 (qleB n K) ++ rest = cn .u64 (qminB K) ++ rest2 := by
  refine ⟨cn .u64 (List.replicate (n - qsz K) 0) ++ rest, ?_⟩
  rw [← pad_min h, ← Array.append_assoc]
  congr 1
  apply Array.ext'
  simp [cn]
theorem decK_app (a b h r : Nat) (hr : r < 10 ^ b) : decK (a + b) (h * 10 ^ b + r) = decK a h ++ decK b r := by
  refine ext_getD (by simp [decK_len]) fun i hi => ?_
  rw [decK_len] at hi
  rw [decK_get _ _ hi]
  rcases Nat.lt_or_ge i a with c | c
  · rw [getD_app_l _ _ _ (by rw [decK_len]; exact c), decK_get _ _ c, show a + b - 1 - i = b + (a - 1 - i) by omega, Nat.pow_add, ← Nat.div_div_eq_div_mul, Nat.add_comm (h * 10 ^ b), Nat.add_mul_div_right _ _ (Nat.pow_pos (by decide)), Nat.div_eq_of_lt hr, Nat.zero_add]
  · rw [getD_app_r _ _ _ (by rw [decK_len]; exact c), decK_len, decK_get _ _ (by omega), show b - 1 - (i - a) = a + b - 1 - i by omega]
    have e : h * 10 ^ b = 10 ^ (a + b - 1 - i) * (10 * (10 ^ (b - (a + b - 1 - i) - 1) * h)) := by
      rw [show 10 ^ b = 10 ^ (a + b - 1 - i) * (10 * 10 ^ (b - (a + b - 1 - i) - 1)) by rw [← Nat.pow_succ', ← Nat.pow_add]; congr 1; omega]
      simp only [Nat.mul_comm, Nat.mul_left_comm]
    rw [e, Nat.mul_add_div (Nat.pow_pos (by decide)), Nat.mul_add_mod]
theorem dsz_app {h r b : Nat} (hh : h ≠ 0) (hr : r < 10 ^ b) : dsz (h * 10 ^ b + r) = dsz h + b := by
  obtain ⟨h1, h2⟩ := dsz_ok h
  have h2 := h2.resolve_left (Nat.ne_of_gt (dsz_pos hh))
  have hp := dsz_pos hh
  refine (dsz_of ?_ (.inr ?_)).symm
  · rw [Nat.pow_add]
    have : (h + 1) * 10 ^ b ≤ 10 ^ dsz h * 10 ^ b := Nat.mul_le_mul_right _ h1
    rw [Nat.add_mul, Nat.one_mul] at this
    omega
  · rw [show dsz h + b - 1 = dsz h - 1 + b by omega, Nat.pow_add]
    have := Nat.mul_le_mul_right (10 ^ b) h2
    omega
theorem decN_app {h r : Nat} (hh : h ≠ 0) (hr : r < 10000000000000000000) : decN (h * 10000000000000000000 + r) = decN h ++ decK 19 r := by
  have hr : r < 10 ^ 19 := hr
  have e : h * 10000000000000000000 + r = h * 10 ^ 19 + r := rfl
  have hne : h * 10 ^ 19 + r ≠ 0 := by
    have : 0 < h * 10 ^ 19 := Nat.mul_pos (Nat.pos_of_ne_zero hh) (by decide)
    omega
  rw [e, decN_K hne, dsz_app hh hr, decK_app _ _ _ _ hr, decN_K hh]
theorem decN_pad {r : Nat} (hr : r < 10000000000000000000) : List.replicate (19 - (decN r).length) 48 ++ decN r = decK 19 r ∧ (decN r).length ≤ 19 := by
  have hr : r < 10 ^ 19 := hr
  by_cases h : r = 0
  · subst h; exact ⟨by decide +kernel, by decide +kernel⟩
  · have hl := dsz_le hr
    rw [decN_len h]
    refine ⟨?_, hl⟩
    have := decK_app (19 - dsz r) (dsz r) 0 r (dsz_ok r).1
    rw [show 19 - dsz r + dsz r = 19 by omega, Nat.zero_mul, Nat.zero_add] at this
    rw [this, decN_K h]
    congr 1
    refine ext_getD (by simp [decK_len]) fun i hi => ?_
    simp only [List.length_replicate] at hi
    rw [decK_get _ _ hi, List.getD_eq_getElem?_getD, List.getElem?_replicate, if_pos hi]
    simp
theorem dec_group {M j : Nat} (h : M / 10000000000000000000 ^ (j + 1) ≠ 0) : decN (M / 10000000000000000000 ^ (j + 1)) ++ List.replicate (19 - (decN (M / 10000000000000000000 ^ j % 10000000000000000000)).length) 48 ++ decN (M / 10000000000000000000 ^ j % 10000000000000000000) = decN (M / 10000000000000000000 ^ j) := by
  have e : M / 10000000000000000000 ^ j = M / 10000000000000000000 ^ (j + 1) * 10000000000000000000 + M / 10000000000000000000 ^ j % 10000000000000000000 := by rw [Nat.pow_succ, ← Nat.div_div_eq_div_mul]; omega
  have hr : M / 10000000000000000000 ^ j % 10000000000000000000 < 10000000000000000000 := Nat.mod_lt _ (by decide)
  conv => rhs; rw [e]
  rw [decN_app h hr, List.append_assoc, (decN_pad hr).1]
theorem dsz_bd (M : Nat) : dsz M ≤ 20 * qsz M := dsz_le (Nat.lt_of_lt_of_le (qsz_ok M).1 (by rw [Nat.pow_mul]; exact Nat.pow_le_pow_left (by decide) _))
theorem decN_bd (M : Nat) : (decN M).length ≤ 1 + 20 * qsz M := by
  by_cases h : M = 0
  · subst h; decide
  · rw [decN_len h]; have := dsz_bd M; omega
theorem gsz_pos {N : Nat} (h : N ≠ 0) : 0 < gsz N := by
  rcases Nat.eq_zero_or_pos (gsz N) with h0 | h0
  · have := (gsz_ok N).1; rw [h0] at this; simp at this; omega
  · exact h0
theorem g_more {M i : Nat} (h : M / 10000000000000000000 ^ i ≠ 0) : i < gsz M := Nat.lt_of_not_le fun c => h (Nat.div_eq_of_lt (glt_sz c))
theorem g_less {M i : Nat} (h : i < gsz M) : M / 10000000000000000000 ^ i ≠ 0 := by
  have h1 := (gsz_ok M).2.resolve_left (by omega)
  have h2 : 10000000000000000000 ^ i ≤ M := Nat.le_trans (gpw_le (by omega)) h1
  exact Nat.ne_of_gt (Nat.div_pos h2 (gpw_pos i))
theorem g_next (M i : Nat) : M / 10000000000000000000 ^ i / 10000000000000000000 = M / 10000000000000000000 ^ (i + 1) := by rw [Nat.div_div_eq_div_mul, ← Nat.pow_succ]
theorem gsz_bd (M : Nat) : gsz M ≤ 2 * qsz M := gsz_le (Nat.lt_of_lt_of_le (qsz_ok M).1 (by rw [Nat.pow_mul]; exact Nat.pow_le_pow_left (by decide) _))
end Go.Proofs.YtlljedijldkcbaaDoor
namespace Go.Proofs.YtlljedijldkcbaaDoor
open Go.RowKit
theorem one_has {w : World} {g : Nat} {ob : Obj} (h : w.heap[g]? = some ob) : Has w [(g, ob)] := fun i x hx => by
  cases i with
  | zero => simp at hx; subst hx; exact h
  | succ i => simp at hx
set_option maxRecDepth 100000 in
theorem parted_any (g cap K : Nat) (rest : Array Value) (hsz : (cn .u64 (qminB K) ++ rest).size = cap) (hs : qsz K < 1000000) (w0 : World) (hg : w0.heap[g]? = some (Obj.cells (cn .u64 (qminB K) ++ rest) 61)) :
    Calls Tryd.prog 71 #[.slice (some ⟨g, 0, none⟩) (qsz K) cap] w0 fun e w' => e = .returned (iW (K % 10000000000000000000)) ∧ Turn g (.cells (cn .u64 (qleB (qsz K) (K / 10000000000000000000)) ++ rest) 61) w0 w' := by
  refine enter_fr Tryd.func71 rfl Tryd.ntmps71 (by simp) fun ac (FF : Fr 25 ac [(0, .slice (some ⟨g, 0, none⟩) (qsz K) cap)]) => ?_
  have MM0 : MemS (fun k => k < w0.heap.size ∧ ∀ x ∈ (g, Obj.cells (cn .u64 (qminB K) ++ rest) 61) :: ([] : Blks), x.1 ≠ k) w0 w0 ((g, .cells (cn .u64 (qminB K) ++ rest) 61) :: ([] : Blks)) [] := MemS.startN (one_has hg) ⟨fun y hy => (nomatch hy), trivial⟩
  have MM : MemS (fun k => k < w0.heap.size ∧ ∀ x ∈ (g, Obj.cells (cn .u64 (qminB K) ++ rest) 61) :: ([] : Blks), x.1 ≠ k) w0 w0 ((g, .cells ((cn .u64 (pdL (qsz K) K (qsz K))) ++ rest) 61) :: ([] : Blks)) [] := by rw [pdL_top]; exact MM0
  have hsz2 : ∀ i, (cn .u64 (pdL (qsz K) K i) ++ rest).size = cap := fun i => by rw [Array.size_append, cn_size, pdL_len]; rw [Array.size_append, cn_size, qminB_len] at hsz; exact hsz
  have hcap : qsz K ≤ cap := by rw [← hsz, Array.size_append, cn_size, qminB_len]; omega
  refine wp_seq (rg_seq FF MM [o_] [0, 2] (fun Kt => Kt [(2, iW 0), (0, .slice (some ⟨g, 0, none⟩) (qsz K) cap)] ((g, .cells ((cn .u64 (pdL (qsz K) K (qsz K))) ++ rest) 61) :: ([] : Blks))) (by kernel_rfl) (fun _ => by kernel_rfl) (fun ac1 wd1 FF1 MM1 => then_n ?_))
  refine wp_seq (rg_seq FF1 MM1 [t_ (iW (K / 18446744073709551616 ^ (qsz K) % 10000000000000000000))] [2, 0, 3] (fun Kt => iW 0 = iW (K / 18446744073709551616 ^ (qsz K) % 10000000000000000000) ∧ Kt [(3, iW (K / 18446744073709551616 ^ (qsz K) % 10000000000000000000)), (2, iW 0), (0, .slice (some ⟨g, 0, none⟩) (qsz K) cap)] ((g, .cells ((cn .u64 (pdL (qsz K) K (qsz K))) ++ rest) 61) :: ([] : Blks))) (by kernel_rfl) (fun _ => by kernel_rfl) (⟨(vI (part_top K _ (Nat.le_refl _)).symm), fun ac2 wd2 FF2 MM2 => then_n ?_⟩))
  refine wp_seq ?_
  refine wp_seq (rg_seq FF2 MM2 [o_, o_, u_ 4 (.int .i64 (((qsz K : Nat) : Int) - 1 : Int)), o_] [3, 2, 0, 4] (fun Kt => -(9223372036854775808 : Int) ≤ ((qsz K : Nat) : Int) - ((1 : Nat) : Int) ∧ ((qsz K : Nat) : Int) - ((1 : Nat) : Int) < (9223372036854775808 : Nat) ∧ Value.int .i64 (((qsz K : Nat) : Int) - ((1 : Nat) : Int) : Int) = .int .i64 (((qsz K : Nat) : Int) - 1 : Int) ∧ Kt [(4, .int .i64 (((qsz K : Nat) : Int) - 1 : Int)), (3, iW (K / 18446744073709551616 ^ (qsz K) % 10000000000000000000)), (2, iW 0), (0, .slice (some ⟨g, 0, none⟩) (qsz K) cap)] ((g, .cells ((cn .u64 (pdL (qsz K) K (qsz K))) ++ rest) 61) :: ([] : Blks))) (by kernel_rfl) (fun _ => by kernel_rfl) (⟨(by omega), (by omega), (vZ (by omega)), fun ac3 wd3 FF3 MM3 => then_n ?_⟩))
  refine wp_for2 (fun a' w' => ∃ j : Nat, j ≤ qsz K ∧ Fr 25 a' [(4, .int .i64 (((j : Nat) : Int) - 1 : Int)), (3, iW (K / 18446744073709551616 ^ j % 10000000000000000000)), (2, iW 0), (0, .slice (some ⟨g, 0, none⟩) (qsz K) cap)] ∧ MemS (fun k => k < w0.heap.size ∧ ∀ x ∈ (g, Obj.cells (cn .u64 (qminB K) ++ rest) 61) :: ([] : Blks), x.1 ≠ k) w0 w' ((g, .cells ((cn .u64 (pdL (qsz K) K j)) ++ rest) 61) :: ([] : Blks)) []) (fun a' _ => (cnt 4 a' + 1).toNat) ⟨qsz K, Nat.le_refl _, FF3.pick [0, 1, 2, 3], MM3⟩ ?_
  rintro ac4 wd4 ⟨j, hj, FF4, MM4⟩
  have hc := cnt_of (FF4.get 0 rfl)
  refine rg_seq FF4 MM4 [o_, w_ 4] [4, 3, 2, 0, 9] (fun Kt => Kt [(9, .bool (decide ((((j : Nat) : Int) - 1) ≥ ((0 : Nat) : Int)))), (4, .int .i64 (((j : Nat) : Int) - 1 : Int)), (3, iW (K / 18446744073709551616 ^ j % 10000000000000000000)), (2, iW 0), (0, .slice (some ⟨g, 0, none⟩) (qsz K) cap)] ((g, .cells ((cn .u64 (pdL (qsz K) K j)) ++ rest) 61) :: ([] : Blks))) (by kernel_rfl) (fun _ => by kernel_rfl) (fun ac5 wd5 FF5 MM5 => ?_)
  by_cases hlt : (((j : Nat) : Int) - 1) ≥ ((0 : Nat) : Int)
  · skip
    refine then_n (.inl ⟨(FF5.ev 0 rfl).trans (dec_t hlt), ?_⟩)
    obtain ⟨j, rfl⟩ : ∃ z, j = z + 1 := ⟨j - 1, by omega⟩
    refine rg_seq FF5 MM5 [o_, t_ (iN j), o_, o_, t_ (iN j), w_ 1, l_ 0 (iW (qd K j)), t_ (.tuple #[iW (((K / 18446744073709551616 ^ (j + 1) % 10000000000000000000) * 18446744073709551616 + (qd K j)) / 10000000000000000000), iW (((K / 18446744073709551616 ^ (j + 1) % 10000000000000000000) * 18446744073709551616 + (qd K j)) % 10000000000000000000)]), o_, t_ (iW (qd (K / 10000000000000000000) j)), t_ (iW (K / 18446744073709551616 ^ j % 10000000000000000000)), w_ 1, s_ 0 (.cells ((cn .u64 (pdL (qsz K) K j)) ++ rest) 61), o_] [4, 3, 2, 0] (fun Kt => Value.int .i64 ((((j + 1) : Nat) : Int) - 1 : Int) = iN j ∧ Value.int .i64 ((((j + 1) : Nat) : Int) - 1 : Int) = iN j ∧ j < (qsz K) ∧ g = g ∧ ((cn .u64 (pdL (qsz K) K (j + 1))) ++ rest)[j]? = some (iW (qd K j)) ∧ CallP Tryd.prog 79 [iW (K / 18446744073709551616 ^ (j + 1) % 10000000000000000000), iW (qd K j), iW 10000000000000000000] [] (.tuple #[iW (((K / 18446744073709551616 ^ (j + 1) % 10000000000000000000) * 18446744073709551616 + (qd K j)) / 10000000000000000000), iW (((K / 18446744073709551616 ^ (j + 1) % 10000000000000000000) * 18446744073709551616 + (qd K j)) % 10000000000000000000)]) ∧ iW (((K / 18446744073709551616 ^ (j + 1) % 10000000000000000000) * 18446744073709551616 + (qd K j)) / 10000000000000000000) = iW (qd (K / 10000000000000000000) j) ∧ iW (((K / 18446744073709551616 ^ (j + 1) % 10000000000000000000) * 18446744073709551616 + (qd K j)) % 10000000000000000000) = iW (K / 18446744073709551616 ^ j % 10000000000000000000) ∧ j < (qsz K) ∧ g = g ∧ j < ((cn .u64 (pdL (qsz K) K (j + 1))) ++ rest).size ∧ (((0, 0)).2 = 0 ∨ j < ((0, 0)).1) ∧ ((cn .u64 (pdL (qsz K) K (j + 1))) ++ rest).setIfInBounds j (iW (qd (K / 10000000000000000000) j)) = (cn .u64 (pdL (qsz K) K j)) ++ rest ∧ Kt [(3, iW (K / 18446744073709551616 ^ j % 10000000000000000000)), (4, .int .i64 ((((j + 1) : Nat) : Int) - 1 : Int)), (2, iW 0), (0, .slice (some ⟨g, 0, none⟩) (qsz K) cap)] ((g, .cells ((cn .u64 (pdL (qsz K) K j)) ++ rest) 61) :: ([] : Blks))) (by kernel_rfl) (fun _ => by kernel_rfl) (⟨(vZ (by omega)), (vZ (by omega)), (by omega), rfl, ((cat_l (by rw [cn_size, pdL_len]; omega)).trans ((cn_get _ _ _ (by rw [pdL_len]; omega)).trans (congrArg some (vI ((pdL_get _ _ _ (by omega)).trans (if_neg (by omega))))))), (callP_of en_div64 (div64_any (K / 18446744073709551616 ^ (j + 1) % 10000000000000000000) (qd K j) (Nat.mod_lt _ (by decide)) (qd_lt K j)) _), (vI (part_word K j)), (vI (part_rest K j)), (by omega), rfl, (by rw [hsz2]; omega), (.inl rfl), ((cat_set_l (by rw [cn_size, pdL_len]; omega)).trans (congrArg (· ++ _) ((cn_set _ _ _ _).trans (congrArg _ (pdL_step _ _ _ (by omega)))))), fun ac6 wd6 FF6 MM6 => ?_⟩)
    refine inb_n (then_n ?_)
    refine rg_seq FF6 MM6 [o_, u_ 4 (.int .i64 (((j : Nat) : Int) - 1 : Int)), o_] [3, 4, 2, 0] (fun Kt => -(9223372036854775808 : Int) ≤ ((((j + 1) : Nat) : Int) - 1) - ((1 : Nat) : Int) ∧ ((((j + 1) : Nat) : Int) - 1) - ((1 : Nat) : Int) < (9223372036854775808 : Nat) ∧ Value.int .i64 (((((j + 1) : Nat) : Int) - 1) - ((1 : Nat) : Int) : Int) = .int .i64 (((j : Nat) : Int) - 1 : Int) ∧ Kt [(4, .int .i64 (((j : Nat) : Int) - 1 : Int)), (3, iW (K / 18446744073709551616 ^ j % 10000000000000000000)), (2, iW 0), (0, .slice (some ⟨g, 0, none⟩) (qsz K) cap)] ((g, .cells ((cn .u64 (pdL (qsz K) K j)) ++ rest) 61) :: ([] : Blks))) (by kernel_rfl) (fun _ => by kernel_rfl) (⟨(by omega), (by omega), (vZ (by omega)), fun ac7 wd7 FF7 MM7 => ?_⟩)
    have hd := cnt_of (FF7.get 0 rfl)
    refine then_n ⟨⟨j, by omega, FF7.pick [0, 1, 2, 3], MM7⟩, ?_⟩
    rw [hc, hd]; omega
  · skip
    refine then_n (.inr ⟨(FF5.ev 0 rfl).trans (dec_f hlt), ?_⟩)
    obtain rfl : j = 0 := by omega
    refine then_n ?_
    refine wp_seq (rg_seq FF5 MM5 [o_, t_ (iW (K % 10000000000000000000))] [4, 3, 2, 0] (fun Kt => iW (K / 18446744073709551616 ^ 0 % 10000000000000000000) = iW (K % 10000000000000000000) ∧ Kt [(2, iW (K % 10000000000000000000)), (4, .int .i64 (((0 : Nat) : Int) - 1 : Int)), (3, iW (K / 18446744073709551616 ^ 0 % 10000000000000000000)), (0, .slice (some ⟨g, 0, none⟩) (qsz K) cap)] ((g, .cells ((cn .u64 (pdL (qsz K) K 0)) ++ rest) 61) :: ([] : Blks))) (by kernel_rfl) (fun _ => by kernel_rfl) (⟨(vI (by rw [Nat.pow_zero, Nat.div_one])), fun ac8 wd8 FF8 MM8 => then_n ?_⟩))
    refine wp_ret ?_
    repeat first | refine then_ret ?_ | refine inb_ret ?_
    exact (ret_fr FF8 0 Tryd.results71 rfl ⟨rfl, by have h9 := MM8.turn (O := []) (fun i x hx => by simp at hx) 0 rfl (fun x hx => (nomatch hx)); rw [pdL_zero] at h9; exact h9⟩)
end Go.Proofs.YtlljedijldkcbaaDoor
namespace Go.Proofs.YtlljedijldkcbaaDoor
open Go.RowKit
section
variable {P : Program} {l : Slots} {L : Blks} {o : Oper} {x y : Operand}
theorem ptrNil_ok {t t' e : TypeId} (ho : o.op = .binOp .eql t x y t') (hx : evO l x = some (.pointer none)) (hy : evO l y = some (.pointer none)) (hu : P.underlying t = some (.pointer e)) : RunV P l L o (.bool true) := fun ρ w A _ => by
  have h : ∀ d : Nat, (Op.equalIn (d + 1) t (.pointer none) (.pointer none)).run P w = .ok true w := fun d => by simp [Op.equalIn, run_underlying hu]
  have h2 := h 9999
  have h3 := A x _ hx
  have h4 := A y _ hy
  simp [execOp, ho, h3, h4, eqGuard, binOp, Op.equal, Op.maxDepth, h2]
theorem ptrSome_ok {t t' e : TypeId} {ad : Addr} (ho : o.op = .binOp .eql t x y t') (hx : evO l x = some (.pointer (some ad))) (hy : evO l y = some (.pointer none)) (hu : P.underlying t = some (.pointer e)) : RunV P l L o (.bool false) := fun ρ w A _ => by
  have h : ∀ d : Nat, (Op.equalIn (d + 1) t (.pointer (some ad)) (.pointer none)).run P w = .ok false w := fun d => by simp [Op.equalIn, run_underlying hu]
  have h2 := h 9999
  have h3 := A x _ hx
  have h4 := A y _ hy
  simp [execOp, ho, h3, h4, eqGuard, binOp, Op.equal, Op.maxDepth, h2]
theorem ptrSame_ok {t t' e : TypeId} {ad : Addr} (ho : o.op = .binOp .neq t x y t') (hx : evO l x = some (.pointer (some ad))) (hy : evO l y = some (.pointer (some ad))) (hu : P.underlying t = some (.pointer e)) (he : (P.info? e).isSome = true) : RunV P l L o (.bool false) := fun ρ w A _ => by
  obtain ⟨j, hj⟩ := Option.isSome_iff_exists.1 he
  have h2 := Lib.run_neq_ptr_same (P := P) w ad hu hj
  have h3 := A x _ hx
  have h4 := A y _ hy
  simp [execOp, ho, h3, h4, eqGuard, h2]
theorem toUnsafe_ok {src dst t : TypeId} {b i : Nat} {cs : Array Value} {T : TypeId} {fr : Nat × Nat} (ho : o.op = .convert src dst x) (hx : evO l x = some (.pointer (some ⟨b, 0, none⟩))) (hs : P.underlying src = some (.pointer t)) (hd : P.underlying dst = some .unsafePointer)
    (ht : (match P.info? t with | some j => !(Nat.beq j.size 0) | none => false) = true) (hL : L[i]? = some (b, .cells cs T fr)) (hc : 0 < cs.size) : RunV P l L o (.pointer (some ⟨b, 0, none⟩)) := fun ρ w A H => by
  have hb := H i _ hL
  cases hj : P.info? t with
  | none => rw [hj] at ht; cases ht
  | some j =>
    rw [hj] at ht
    have hne : j.size ≠ 0 := fun e => by simp [e] at ht
    have hr := Lib.run_to_unsafe (P := P) w ⟨b, 0, none⟩ hs hd hj hne (e := T) (cells := cs.size) (by simp [World.shape?, hb]) hc
    simp [execOp, ho, A x _ hx, hr]
theorem fromUnsafe_ok {src dst u : TypeId} {b i : Nat} {cs : Array Value} {T : TypeId} {fr : Nat × Nat} (ho : o.op = .convert src dst x) (hx : evO l x = some (.pointer (some ⟨b, 0, none⟩))) (hs : P.underlying src = some .unsafePointer) (hd : P.underlying dst = some (.pointer u))
    (hu : (P.info? u).isSome = true) (hL : L[i]? = some (b, .cells cs T fr)) (hl : liesAt P P.depth T (cs.size / P.cellsOf T) 0 u 1 = true) : RunV P l L o (.pointer (some ⟨b, 0, none⟩)) := fun ρ w A H => by
  have hb := H i _ hL
  obtain ⟨j, hj⟩ := Option.isSome_iff_exists.1 hu
  have hr := Lib.run_from_unsafe (P := P) w ⟨b, 0, none⟩ hs hd hj (e := T) (cells := cs.size) (by simp [World.shape?, hb]) hl
  simp [execOp, ho, A x _ hx, hr]
theorem noEsc_ok {f : FuncId} {fn : Func} {ts : Array TypeId} {v : Value} (ho : o.op = .call ⟨.value (.func f), #[x], ts⟩) (hx : evO l x = some v) (hf : P.funcs[f]? = some fn) (hname : (fn.name == "runtime.NumGoroutine") = false) (hb : fn.body.isNone = true) (hn : Extern.findNext fn = none)
    (he : Extern.find fn = some Extern.AbiNoEscape.same) : RunV P l L o v := fun ρ w A _ => by
  have h1 := A x _ hx
  have h3 : ρ (.func f) = .func (.func f) #[] #[] := A (.func f) _ rfl
  have h4 : (callFunc f #[v]).run P w = .ok (.value v) w := by rw [run_callFunc_extern hf hname hb hn he, Lib.run_noEscape]; rfl
  simp [execOp, ho, resolve, h1, h3, Deferred.ofValue, invoke, h4]
theorem sdNil_ok {t : TypeId} {n c : Nat} (ho : o.op = .call ⟨.builtin .unsafeSliceData, #[x], #[t]⟩) (hx : evO l x = some (.slice none n c)) : RunV P l L o (.pointer none) := fun ρ w A _ => by
  have h1 := A x _ hx
  have h2 := Lib.run_unsafeSliceData_nil (P := P) w #[t] o.type n c
  simp [execOp, ho, resolve, invoke, builtin, h1, h2]
theorem sdRow_ok {t : TypeId} {ad : Addr} {n c : Nat} (ho : o.op = .call ⟨.builtin .unsafeSliceData, #[x], #[t]⟩) (hx : evO l x = some (.slice (some ad) n c)) (hc : c ≠ 0) : RunV P l L o (.pointer (some ad)) := fun ρ w A _ => by
  have h1 := A x _ hx
  have h2 := Lib.run_unsafeSliceData_row (P := P) w #[t] o.type ad n c hc
  simp [execOp, ho, resolve, invoke, builtin, h1, h2]
theorem usNil_ok {t u : TypeId} {p : Option Addr} (ho : o.op = .call ⟨.builtin .unsafeString, #[x, y], #[t, u]⟩) (hx : evO l x = some (.pointer p)) (hy : evO l y = some (.int .i64 (0 : Nat))) : RunV P l L o (.string (bs [])) := fun ρ w A _ => by
  have h1 := A x _ hx
  have h1' := A y _ hy
  have h2 := Lib.run_unsafeString_none (P := P) w t u o.type p
  have e : ((0 : Nat) : Int) = 0 := rfl
  rw [e] at h1'
  simp only [execOp, ho, resolve, invoke, builtin, h1, h1', h2, Sem.run_bind, Sem.run_pure, Result.andThen_ok, List.map_toArray, List.map_cons, List.map_nil]
  rfl
/-- A string over a row's head: the bytes are copied, the row is frozen so far. -/
theorem usRow_ok {t u e : TypeId} {g i : Nat} {cs : Array Value} {X : List Nat} (ho : o.op = .call ⟨.builtin .unsafeString, #[x, y], #[t, u]⟩) (hx : evO l x = some (.pointer (some ⟨g, 0, none⟩))) (hy : evO l y = some (.int .i64 (X.length : Nat)))
    (ht : P.underlying t = some (.pointer e)) (hc : P.cellsOf e = 1) (hL : L[i]? = some (g, .cells cs e)) (h0 : 0 < X.length) (hX : ∀ i, X.getD i 0 < 256) (hn : X.length ≤ cs.size) (h63 : X.length ≤ 9223372036854775807) (hcs : ∀ j, j < X.length → cs[j]? = some (.int .u8 (X.getD j 0 : Nat))) :
    RunU P l L o (.string (bs X)) [(i, .cells cs e (0, X.length))] := fun ρ w A H => by
  have h1 := A x _ hx
  have h1' := A y _ hy
  have hb := H i _ hL
  have hbl : (bs X).data.toList.length = X.length := by rw [Array.length_toList]; exact bs_size X
  have hr := Lib.run_unsafeString_row (P := P) w t u o.type e ht hc g cs.size (by simp [World.shape?, hb]) (bs X).data.toList (by intro h; rw [h] at hbl; simp at hbl; omega) (by rw [hbl]; exact hn) (by rw [hbl]; exact h63) (fun j z hz => by
    have hj : j < X.length := by rw [← hbl]; exact (List.getElem?_eq_some_iff.1 hz).1
    have e1 : (⟨g, 0, none⟩ : Addr).add j = ⟨g, j, none⟩ := by unfold Addr.add; split <;> simp_all
    rw [e1, Lib.cell_of_heap hb, hcs j hj]
    have e2 := byte_bs hX j
    simp only [nl] at e2
    have e3 : z.toNat = X.getD j 0 := by
      rw [← e2]
      simp [hz]
    rw [e3])
  rw [hbl] at hr
  refine ⟨w.freeze ⟨g, 0, none⟩ X.length, ?_, ?_⟩
  · simp only [execOp, ho, resolve, invoke, builtin, h1, h1', hr, Sem.run_bind, Sem.run_pure, Result.andThen_ok, List.map_toArray, List.map_cons, List.map_nil]
  · have hne : X.length ≠ 0 := by omega
    unfold World.freeze
    rw [if_neg hne]
    refine ⟨rfl, rfl, rfl, by simp, fun k hk hu => ?_, fun o h => (nomatch h), fun _ => rfl, fun u hu z hz => ?_⟩
    · simp only [Array.getElem?_modify]
      rw [if_neg]
      intro e
      exact hu _ (List.mem_singleton.2 rfl) _ hL e
    · obtain rfl := List.mem_singleton.1 hu
      simp only at hz
      obtain rfl := Option.some.inj (hL.symm.trans hz)
      simp [Array.getElem?_modify, hb]
end
end Go.Proofs.YtlljedijldkcbaaDoor
namespace Go.Proofs.YtlljedijldkcbaaDoor
open Go.RowKit
theorem en_copychk : Enters Tryd.prog 80 := fun args w => by simp [go_sem]
theorem en_bwrite : Enters Tryd.prog 72 := fun args w => by simp [go_sem]
theorem en_bstring : Enters Tryd.prog 75 := fun args w => by simp [go_sem]
set_option maxRecDepth 100000 in
theorem copychk_fresh (rv : Value) (b j : Nat) (L : Blks) (hj : L[j]? = some (b, .cells #[.pointer none, rv] 106)) (w0 : World) (H : Has w0 L) :
    Calls Tryd.prog 80 #[pT b] w0 fun e w' => e = .returned (.tuple #[]) ∧ Post w0 w' L ⟨fun _ => .tuple #[], none, [(j, .cells #[pT b, rv] 106)]⟩ 0 := by
  have MM := MemS.start1 (H j _ hj)
  refine enter_fr Tryd.func80 rfl Tryd.ntmps80 (by simp) fun ac (FF : Fr 20 ac [(0, pT b)]) => ?_
  refine wp_seq (rg_seq FF MM [o_, o_, o_, l_ 0 (.pointer none), f_ (.bool true)] [0, 6] (fun Kt => b = b ∧ (#[.pointer none, rv] : Array Value)[0]? = some (.pointer none) ∧ RunV Tryd.prog [(5, .pointer none), (4, pT b), (3, pT b), (2, pT b), (0, pT b)] [(b, oC #[.pointer none, rv] 106)] (opAt Tryd.f80 0 4) (.bool true) ∧ Kt [(6, .bool true), (0, pT b)] [(b, oC #[.pointer none, rv] 106)]) (by kernel_rfl) (fun _ => by kernel_rfl) (⟨rfl, rfl, (ptrNil_ok (t := 104) (t' := 104) (x := .tmp 5) (y := (.const (.pointer none))) (by kernel_rfl) rfl rfl Tryd.underlying104), fun ac1 wd1 FF1 MM1 => then_n ?_⟩))
  refine wp_cond_true (FF1.ev 0 rfl) ?_
  refine rg_seq FF1 MM1 [o_, o_, f_ (pT b), f_ (pT b), f_ (pT b), o_, o_, s_ 0 (oC #[pT b, rv] 106)] [0] (fun Kt => RunV Tryd.prog [(8, pT b), (7, pT b), (6, .bool true), (0, pT b)] [(b, oC #[.pointer none, rv] 106)] (opAt Tryd.f80 1 2) (pT b) ∧ RunV Tryd.prog [(9, pT b), (8, pT b), (7, pT b), (6, .bool true), (0, pT b)] [(b, oC #[.pointer none, rv] 106)] (opAt Tryd.f80 1 3) (pT b) ∧ RunV Tryd.prog [(10, pT b), (9, pT b), (8, pT b), (7, pT b), (6, .bool true), (0, pT b)] [(b, oC #[.pointer none, rv] 106)] (opAt Tryd.f80 1 4) (pT b) ∧ b = b ∧ 0 < (#[.pointer none, rv] : Array Value).size ∧ (((0, 0)).2 = 0 ∨ 0 < ((0, 0)).1) ∧ (#[.pointer none, rv] : Array Value).setIfInBounds 0 (pT b) = #[pT b, rv] ∧ Kt [(0, pT b)] [(b, oC #[pT b, rv] 106)]) (by kernel_rfl) (fun _ => by kernel_rfl) (⟨(toUnsafe_ok (x := .tmp 8) (i := 0) (by kernel_rfl) rfl Tryd.underlying104 Tryd.underlying122 (by kernel_rfl) rfl (Nat.zero_lt_succ 1)), (noEsc_ok (f := 88) (ts := #[122]) (x := .tmp 9) (by kernel_rfl) rfl Tryd.func88 (by kernel_rfl) (by kernel_rfl) (by kernel_rfl) (by kernel_rfl)), (fromUnsafe_ok (x := .tmp 10) (i := 0) (by kernel_rfl) rfl Tryd.underlying122 Tryd.underlying104 (by kernel_rfl) rfl (by kernel_rfl)), rfl, (by simp), (.inl rfl), rfl, fun ac2 wd2 FF2 MM2 => ?_⟩)
  exact (end_none FF2 Tryd.results80 ⟨rfl, MM2.post1 0 rfl hj⟩)
set_option maxRecDepth 100000 in
theorem copychk_used (rv : Value) (b j : Nat) (L : Blks) (hj : L[j]? = some (b, .cells #[pT b, rv] 106)) (w0 : World) (H : Has w0 L) :
    Calls Tryd.prog 80 #[pT b] w0 fun e w' => e = .returned (.tuple #[]) ∧ Post w0 w' L ⟨fun _ => .tuple #[], none, [(j, .cells #[pT b, rv] 106)]⟩ 0 := by
  have MM := MemS.start1 (H j _ hj)
  refine enter_fr Tryd.func80 rfl Tryd.ntmps80 (by simp) fun ac (FF : Fr 20 ac [(0, pT b)]) => ?_
  refine wp_seq (rg_seq FF MM [o_, o_, o_, l_ 0 (pT b), f_ (.bool false)] [0, 6] (fun Kt => b = b ∧ (#[pT b, rv] : Array Value)[0]? = some (pT b) ∧ RunV Tryd.prog [(5, pT b), (4, pT b), (3, pT b), (2, pT b), (0, pT b)] [(b, oC #[pT b, rv] 106)] (opAt Tryd.f80 0 4) (.bool false) ∧ Kt [(6, .bool false), (0, pT b)] [(b, oC #[pT b, rv] 106)]) (by kernel_rfl) (fun _ => by kernel_rfl) (⟨rfl, rfl, (ptrSome_ok (t := 104) (t' := 104) (x := .tmp 5) (y := (.const (.pointer none))) (by kernel_rfl) rfl rfl Tryd.underlying104), fun ac1 wd1 FF1 MM1 => then_n ?_⟩))
  refine wp_cond_false (FF1.ev 0 rfl) ?_
  refine wp_seq (rg_seq FF1 MM1 [o_, o_, o_, l_ 0 (pT b), o_, f_ (.bool false)] [0, 19] (fun Kt => b = b ∧ (#[pT b, rv] : Array Value)[0]? = some (pT b) ∧ RunV Tryd.prog [(18, pT b), (17, pT b), (16, pT b), (15, pT b), (14, pT b), (6, .bool false), (0, pT b)] [(b, oC #[pT b, rv] 106)] (opAt Tryd.f80 2 5) (.bool false) ∧ Kt [(19, .bool false), (0, pT b)] [(b, oC #[pT b, rv] 106)]) (by kernel_rfl) (fun _ => by kernel_rfl) (⟨rfl, rfl, (ptrSame_ok (t := 104) (t' := 104) (x := .tmp 17) (y := .tmp 18) (by kernel_rfl) rfl rfl Tryd.underlying104 (by kernel_rfl)), fun ac2 wd2 FF2 MM2 => then_n ?_⟩))
  refine wp_cond_false (FF2.ev 0 rfl) ?_
  refine wp_skip ?_
  exact (end_none FF2 Tryd.results80 ⟨rfl, MM2.post1 0 rfl hj⟩)
theorem copychk_any (p rv : Value) (b j : Nat) (hp : p = .pointer none ∨ p = pT b) (L : Blks) (hj : L[j]? = some (b, .cells #[p, rv] 106)) (w0 : World) (H : Has w0 L) :
    Calls Tryd.prog 80 #[pT b] w0 fun e w' => e = .returned (.tuple #[]) ∧ Post w0 w' L ⟨fun _ => .tuple #[], none, [(j, .cells #[pT b, rv] 106)]⟩ 0 := by
  rcases hp with rfl | rfl
  · exact copychk_fresh rv b j L hj w0 H
  · exact copychk_used rv b j L hj w0 H
set_option maxRecDepth 100000 in
theorem bwrite_any {S : Nat → Prop} {w0 : World} {L : Blks} {R : List Row} {p : Value} {q : Option Addr} {b n c : Nat} {X : List Value} {Y : List Nat} (hp : p = .pointer none ∨ p = pT b) (hY : ∀ i, Y.getD i 0 < 256) (hb : n + Y.length ≤ 140737488355328) (w : World)
    (M : MemS S w0 w ((b, .cells #[p, .slice q n c] 106) :: L) ((.slice q n c, 5, 1, n, X) :: R)) :
    Calls Tryd.prog 72 #[pT b, sB Y] w fun e w' => e = .returned (.tuple #[iN Y.length, .nilIface]) ∧
      ∃ q' c', MemS S w0 w' ((b, .cells #[pT b, .slice q' (n + Y.length) c'] 106) :: L) ((.slice q' (n + Y.length) c', 5, 1, n + Y.length, X ++ bcells Y) :: R) := by
  refine enter_fr Tryd.func72 rfl Tryd.ntmps72 (by simp) fun ac (FF : Fr 19 ac [(0, pT b), (1, sB Y)]) => ?_
  refine wp_seq (rg_seq FF M [o_, o_] [0, 1, 4, 5] (fun Kt => Kt [(5, .nilIface), (4, iN 0), (0, pT b), (1, sB Y)] ((b, oC #[p, .slice q n c] 106) :: L)) (by kernel_rfl) (fun _ => by kernel_rfl) (fun ac1 wd1 FF1 MM1 => then_n ?_))
  refine wp_seq (rg_seq FF1 MM1 [o_, c_ (.tuple #[]) [(0, oC #[pT b, .slice q n c] 106)]] [5, 4, 0, 1] (fun Kt => CallU Tryd.prog 80 [pT b] ((b, oC #[p, .slice q n c] 106) :: L) (.tuple #[]) [(0, oC #[pT b, .slice q n c] 106)] ∧ Kt [(5, .nilIface), (4, iN 0), (0, pT b), (1, sB Y)] ((b, oC #[pT b, .slice q n c] 106) :: L)) (by kernel_rfl) (fun _ => by kernel_rfl) (⟨⟨en_copychk, fun w H => copychk_any _ _ _ 0 hp _ rfl w H⟩, fun ac2 wd2 FF2 MM2 => then_n ?_⟩))
  refine wp_seq (wp_region_list ?_)
  refine rg_part 6 FF2 MM2 [o_, o_, o_, o_, l_ 0 (.slice q n c), o_] [5, 4, 0, 1, 8, 12, 13] (fun Kt => b = b ∧ (#[pT b, .slice q n c] : Array Value)[1]? = some (.slice q n c) ∧ Kt [(13, sB Y), (12, .slice q n c), (8, pT b), (5, .nilIface), (4, iN 0), (0, pT b), (1, sB Y)] ((b, oC #[pT b, .slice q n c] 106) :: L)) (by kernel_rfl) (fun _ => by kernel_rfl) (⟨rfl, rfl, fun ac3 wd3 FF3 MM3 => ?_⟩)
  refine st_appStr [8, 5, 4, 0, 1, 14] FF3 MM3 (d := 14) (s := 12) (Y := Y) rfl rfl rfl hY Tryd.underlying67 Tryd.underlying9 (by kernel_rfl) hb rfl rfl (by decide) fun ac6 wd6 rq4 rc5 (FF6 : Fr 19 ac6 [(14, .slice rq4 (n + Y.length) rc5), (8, pT b), (5, .nilIface), (4, iN 0), (0, pT b), (1, sB Y)]) (MM6 : MemS S w0 wd6 ((b, oC #[pT b, .slice q n c] 106) :: L) ((.slice rq4 (n + Y.length) rc5, 5, 1, (n + Y.length), (X ++ bcells Y)) :: R)) => ?_
  refine rg_part 3 FF6 MM6 [o_, o_, s_ 0 (oC #[pT b, .slice rq4 (n + Y.length) rc5] 106)] [5, 4, 0, 1] (fun Kt => b = b ∧ 1 < (#[pT b, .slice q n c] : Array Value).size ∧ (((0, 0)).2 = 0 ∨ 1 < ((0, 0)).1) ∧ (#[pT b, .slice q n c] : Array Value).setIfInBounds 1 (.slice rq4 (n + Y.length) rc5) = #[pT b, .slice rq4 (n + Y.length) rc5] ∧ Kt [(5, .nilIface), (4, iN 0), (0, pT b), (1, sB Y)] ((b, oC #[pT b, .slice rq4 (n + Y.length) rc5] 106) :: L)) (by kernel_rfl) (fun _ => by kernel_rfl) (⟨rfl, (by simp), (.inl rfl), rfl, fun ac7 wd7 FF7 MM7 => ?_⟩)
  refine wpl_nil (then_n ?_)
  refine wp_seq (rg_seq FF7 MM7 [o_, t_ (iN Y.length), o_, o_] [5, 4, 0, 1] (fun Kt => iN ((bs Y).size) = iN Y.length ∧ Kt [(5, .nilIface), (4, iN Y.length), (0, pT b), (1, sB Y)] ((b, oC #[pT b, .slice rq4 (n + Y.length) rc5] 106) :: L)) (by kernel_rfl) (fun _ => by kernel_rfl) (⟨(vI (bs_size _)), fun ac8 wd8 FF8 MM8 => then_n ?_⟩))
  refine wp_ret ?_
  repeat first | refine then_ret ?_ | refine inb_ret ?_
  exact (ret_tup2 FF8 1 0 Tryd.results72 rfl rfl ⟨rfl, ⟨_, _, MM8⟩⟩)
set_option maxRecDepth 100000 in
theorem bstring_nil {S : Nat → Prop} {w0 : World} {L : Blks} {R : List Row} {p : Value} {b : Nat} (w : World) (M : MemS S w0 w ((b, .cells #[p, .slice none 0 0] 106) :: L) R) :
    Calls Tryd.prog 75 #[pT b] w fun e w' => e = .returned (sB []) ∧ MemS S w0 w' ((b, .cells #[p, .slice none 0 0] 106) :: L) R := by
  refine enter_fr Tryd.func75 rfl Tryd.ntmps75 (by simp) fun ac (FF : Fr 14 ac [(0, pT b)]) => ?_
  refine wp_seq (rg_seq FF M [o_] [0, 2] (fun Kt => Kt [(2, sB []), (0, pT b)] ((b, oC #[p, .slice none 0 0] 106) :: L)) (by kernel_rfl) (fun _ => by kernel_rfl) (fun ac1 wd1 FF1 MM1 => then_n ?_))
  refine wp_seq (rg_draw FF1 MM1 [.inl (pT b), .inl (pT b), .inl (.pointer (some ⟨b, 1, none⟩)), .inl (.slice none 0 0), .inl (.pointer none), .inl (pT b), .inl (pT b), .inl (.pointer (some ⟨b, 1, none⟩)), .inl (.slice none 0 0), .inl (iN 0), .inl (sB []), .inl (sB [])] [] [o_, o_, o_, l_ 0 (.slice none 0 0), f_ (.pointer none), o_, o_, o_, l_ 0 (.slice none 0 0), o_, f_ (sB []), o_] [] [2] (fun nb => [b = b, (#[p, .slice none 0 0] : Array Value)[1]? = some (.slice none 0 0), RunV Tryd.prog [(6, .slice none 0 0), (0, pT b)] ((b, oC #[p, .slice none 0 0] 106) :: L) (opAt Tryd.f75 1 4) (.pointer none), b = b, (#[p, .slice none 0 0] : Array Value)[1]? = some (.slice none 0 0), RunV Tryd.prog [(7, .pointer none), (12, iN 0), (0, pT b)] ((b, oC #[p, .slice none 0 0] 106) :: L) (opAt Tryd.f75 1 10) (sB [])]) (fun nb Kt => Kt [(2, sB [])] ((b, oC #[p, .slice none 0 0] 106) :: L)) (by kernel_rfl) (by kernel_rfl) (by kernel_rfl) (fun _ => by kernel_rfl) (fun _ _ => by kernel_rfl) trivial (fun nb => ⟨rfl, rfl, (sdNil_ok (t := 67) (x := .tmp 6) (by kernel_rfl) rfl), rfl, rfl, (usNil_ok (t := 119) (u := 3) (x := .tmp 7) (y := .tmp 12) (by kernel_rfl) rfl rfl), trivial⟩) (fun nb => fun ac2 wd2 FF2 MM2 => then_n ?_))
  refine wp_ret ?_
  repeat first | refine then_ret ?_ | refine inb_ret ?_
  exact (ret_fr FF2 0 Tryd.results75 rfl ⟨rfl, MM2⟩)
set_option maxRecDepth 100000 in
theorem bstring_row {S : Nat → Prop} {w0 : World} {L : Blks} {R : List Row} {p : Value} {b : Nat} {g c : Nat} {cur : Array Value} {X : List Nat} (h0 : 0 < X.length) (hX : ∀ i, X.getD i 0 < 256) (hn : X.length ≤ cur.size) (h63 : X.length ≤ 9223372036854775807) (hc : c ≠ 0) (hcs : ∀ j, j < X.length → cur[j]? = some (iB (X.getD j 0))) (w : World) (M : MemS S w0 w ((g, .cells cur 5) :: (b, .cells #[p, .slice (some ⟨g, 0, none⟩) X.length c] 106) :: L) R) :
    Calls Tryd.prog 75 #[pT b] w fun e w' => e = .returned (sB X) ∧ MemS S w0 w' ((b, .cells #[p, .slice (some ⟨g, 0, none⟩) X.length c] 106) :: L) R := by
  refine enter_fr Tryd.func75 rfl Tryd.ntmps75 (by simp) fun ac (FF : Fr 14 ac [(0, pT b)]) => ?_
  refine wp_seq (rg_seq FF M [o_] [0, 2] (fun Kt => Kt [(2, sB []), (0, pT b)] ((g, .cells cur 5) :: (b, oC #[p, .slice (some ⟨g, 0, none⟩) X.length c] 106) :: L)) (by kernel_rfl) (fun _ => by kernel_rfl) (fun ac1 wd1 FF1 MM1 => then_n ?_))
  refine wp_seq (rg_draw FF1 MM1 [.inl (pT b), .inl (pT b), .inl (.pointer (some ⟨b, 1, none⟩)), .inl (.slice (some ⟨g, 0, none⟩) X.length c), .inl (pT g), .inl (pT b), .inl (pT b), .inl (.pointer (some ⟨b, 1, none⟩)), .inl (.slice (some ⟨g, 0, none⟩) X.length c), .inl (iN X.length)] [] [o_, o_, o_, l_ 1 (.slice (some ⟨g, 0, none⟩) X.length c), f_ (pT g), o_, o_, o_, l_ 1 (.slice (some ⟨g, 0, none⟩) X.length c), o_] [r_ (sB X) [(0, .cells cur 5 (0, X.length))], o_] [2] (fun nb => [b = b, (#[p, .slice (some ⟨g, 0, none⟩) X.length c] : Array Value)[1]? = some (.slice (some ⟨g, 0, none⟩) X.length c), RunV Tryd.prog [(6, .slice (some ⟨g, 0, none⟩) X.length c), (2, sB []), (0, pT b)] ((g, .cells cur 5) :: (b, oC #[p, .slice (some ⟨g, 0, none⟩) X.length c] 106) :: L) (opAt Tryd.f75 1 4) (pT g), b = b, (#[p, .slice (some ⟨g, 0, none⟩) X.length c] : Array Value)[1]? = some (.slice (some ⟨g, 0, none⟩) X.length c)]) (fun nb Kt => RunU Tryd.prog [(12, iN X.length), (11, .slice (some ⟨g, 0, none⟩) X.length c), (10, .pointer (some ⟨b, 1, none⟩)), (9, pT b), (8, pT b), (7, pT g), (6, .slice (some ⟨g, 0, none⟩) X.length c), (5, .pointer (some ⟨b, 1, none⟩)), (4, pT b), (3, pT b), (2, sB []), (0, pT b)] ((g, .cells cur 5) :: (b, oC #[p, .slice (some ⟨g, 0, none⟩) X.length c] 106) :: L) (opAt Tryd.f75 1 10) (sB X) [(0, .cells cur 5 (0, X.length))] ∧ Kt [(2, sB X)] ((g, .cells cur 5 (0, X.length)) :: (b, oC #[p, .slice (some ⟨g, 0, none⟩) X.length c] 106) :: L)) (by kernel_rfl) (by kernel_rfl) (by kernel_rfl) (fun _ => by kernel_rfl) (fun _ _ => by kernel_rfl) trivial (fun nb => ⟨rfl, rfl, (sdRow_ok (t := 67) (x := .tmp 6) (by kernel_rfl) rfl hc), rfl, rfl, trivial⟩) (fun nb => ⟨(usRow_ok (t := 119) (u := 3) (e := 5) (i := 0) (x := .tmp 7) (y := .tmp 12) (by kernel_rfl) rfl rfl Tryd.underlying119 (by kernel_rfl) rfl h0 hX hn h63 hcs), fun ac2 wd2 FF2 MM2 => then_n ?_⟩))
  refine wp_ret ?_
  repeat first | refine then_ret ?_ | refine inb_ret ?_
  exact (ret_fr FF2 0 Tryd.results75 rfl ⟨rfl, MM2.dropAt 0⟩)
theorem bstring_any {S : Nat → Prop} {w0 : World} {L : Blks} {R : List Row} {p : Value} {q : Option Addr} {b n c : Nat} {X : List Nat} (hX : ∀ i, X.getD i 0 < 256) (hq : 0 < n ∨ q = none) (w : World)
    (M : MemS S w0 w ((b, .cells #[p, .slice q n c] 106) :: L) ((.slice q n c, 5, 1, n, bcells X) :: R)) :
    Calls Tryd.prog 75 #[pT b] w fun e w' => e = .returned (sB X) ∧ MemS S w0 w' ((b, .cells #[p, .slice q n c] 106) :: L) R := by
  have hown : w.ownsRow w0.heap.size 5 1 (.slice q n c) n (bcells X) := M.rows _ (List.mem_cons_self ..)
  have hl : X.length = n := by have := hown.1; simpa [bcells] using this
  subst hl
  rcases hown.2 with ⟨h1, h2⟩ | ⟨g, cap, cur, h1, _⟩
  · simp only [Value.slice.injEq] at h1
    obtain ⟨rfl, _, rfl⟩ := h1
    obtain rfl : X = [] := List.eq_nil_of_length_eq_zero h2
    exact bstring_nil w M.dropRow
  · simp only [Value.slice.injEq] at h1
    obtain ⟨rfl, _, rfl⟩ := h1
    have h0 : 0 < X.length := hq.resolve_right (by simp)
    obtain ⟨cur, M', _, h4, h5, h6, h7, _⟩ := M.freeze
    rw [Nat.mul_one] at h6 h7
    refine bstring_row h0 hX (by omega) (by simp only [maxLen] at h5; omega) (by omega) (fun j hj => ?_) w M'
    have e1 := congrArg (fun l => l[j]?) h7
    simp only [List.getElem?_take, if_pos hj] at e1
    rw [show cur[j]? = cur.toList[j]? by simp, e1]
    simp [bcells, hj]
end Go.Proofs.YtlljedijldkcbaaDoor
namespace Go.Proofs.YtlljedijldkcbaaDoor
open Go.RowKit
/-- How long a slot's row is. -/
def lenS (t : Nat) (a : Act) : Nat := match a.tmps[t]? with | some (.slice _ n _) => n | _ => 0
theorem lenS_row {S : Nat → Prop} {w0 w : World} {L : Blks} {R : List Row} {a : Act} {t m k : Nat} {e : TypeId} {v : Value} {X : List Value} (h : a.tmps[t]? = some v) (M : MemS S w0 w L ((v, e, k, m, X) :: R)) : lenS t a = m := by
  obtain ⟨p, c, rfl, _⟩ := M.rowLen
  unfold lenS; rw [h]
theorem qleV_quot (K : Nat) : qleV (qleB (qsz K) (K / 10000000000000000000)) = K / 10000000000000000000 := by rw [qleV_leB, Nat.mod_eq_of_lt (Nat.lt_of_le_of_lt (Nat.div_le_self _ _) (qsz_ok K).1)]
theorem g_top {M : Nat} (h : M ≠ 0) : M / 10000000000000000000 ^ (gsz M - 1) < 10000000000000000000 := by
  have hp := gsz_pos h
  refine Nat.div_lt_of_lt_mul ?_
  rw [← Nat.pow_succ, show (gsz M - 1).succ = gsz M by omega]
  exact (gsz_ok M).1
set_option maxRecDepth 100000 in
theorem digs_main (g cap M : Nat) (rest0 : Array Value) (O : Blks) (hT : TabO O) (h0 : M ≠ 0) (hsz : (cn .u64 (qminB M) ++ rest0).size = cap) (hs : qsz M < 1000000) (w0 : World) (H : Has w0 ((g, Obj.cells (cn .u64 (qminB M) ++ rest0) 61) :: O)) (hD : Distinct ((g, Obj.cells (cn .u64 (qminB M) ++ rest0) 61) :: O)) :
    Calls Tryd.prog 58 #[.slice (some ⟨g, 0, none⟩) (qsz M) cap] w0 fun e w' => e = .returned (sB (decN M)) ∧ ∃ ob, Turn g ob w0 w' := by
  refine enter_fr Tryd.func58 rfl Tryd.ntmps58 (by simp) fun ac (FF0 : Fr 49 ac [(0, .slice (some ⟨g, 0, none⟩) (qsz M) cap)]) => ?_
  have e0 : M / 10000000000000000000 ^ 0 = M := by rw [Nat.pow_zero, Nat.div_one]
  have FF : Fr 49 ac [(0, trimV (some ⟨g, 0, none⟩) (M / 10000000000000000000 ^ 0) cap)] := by rw [e0, trimV_pos _ _ h0]; exact FF0
  have MM0 : MemS (fun k => k < w0.heap.size ∧ ∀ x ∈ (g, Obj.cells (cn .u64 (qminB M) ++ rest0) 61) :: O, x.1 ≠ k) w0 w0 ((g, .cells (cn .u64 (qminB M) ++ rest0) 61) :: O) [] := MemS.startN H hD
  have MM : MemS (fun k => k < w0.heap.size ∧ ∀ x ∈ (g, Obj.cells (cn .u64 (qminB M) ++ rest0) 61) :: O, x.1 ≠ k) w0 w0 ((g, .cells ((cn .u64 (qminB (M / 10000000000000000000 ^ 0))) ++ rest0) 61) :: O) [] := by rw [e0]; exact MM0
  have hz0 : (cn .u64 (qminB (M / 10000000000000000000 ^ 0)) ++ rest0).size = cap := by rw [e0]; exact hsz
  have hgb := gsz_bd M
  refine wp_seq (rg_seq FF MM [o_] [0, 2] (fun Kt => Kt [(2, sB []), (0, trimV (some ⟨g, 0, none⟩) (M / 10000000000000000000 ^ 0) cap)] ((g, .cells ((cn .u64 (qminB (M / 10000000000000000000 ^ 0))) ++ rest0) 61) :: O)) (by kernel_rfl) (fun _ => by kernel_rfl) (fun ac1 wd1 FF1 MM1 => then_n ?_))
  refine wp_seq (rg_seq FF1 MM1 [o_] [2, 0, 3] (fun Kt => Kt [(3, .slice none 0 0), (2, sB []), (0, trimV (some ⟨g, 0, none⟩) (M / 10000000000000000000 ^ 0) cap)] ((g, .cells ((cn .u64 (qminB (M / 10000000000000000000 ^ 0))) ++ rest0) 61) :: O)) (by kernel_rfl) (fun _ => by kernel_rfl) (fun ac2 wd2 FF2 MM2 => then_n ?_))
  have MMn : MemS (fun k => k < w0.heap.size ∧ ∀ x ∈ (g, Obj.cells (cn .u64 (qminB M) ++ rest0) 61) :: O, x.1 ≠ k) w0 wd2 ((g, .cells ((cn .u64 (qminB (M / 10000000000000000000 ^ 0))) ++ rest0) 61) :: O) [(.slice none 0 0, 61, 1, 0, (wc (gleB 0 M)))] := MM2.rowNil 61 1
  refine wp_seq ?_
  refine wp_for2w (fun a' w' => ∃ i : Nat, ∃ rv : Value, ∃ rs : Array Value, i ≤ gsz M ∧ (cn .u64 (qminB (M / 10000000000000000000 ^ i)) ++ rs).size = cap ∧ Fr 49 a' [(3, rv), (2, sB []), (0, trimV (some ⟨g, 0, none⟩) (M / 10000000000000000000 ^ i) cap)] ∧ MemS (fun k => k < w0.heap.size ∧ ∀ x ∈ (g, Obj.cells (cn .u64 (qminB M) ++ rest0) 61) :: O, x.1 ≠ k) w0 w' ((g, .cells ((cn .u64 (qminB (M / 10000000000000000000 ^ i))) ++ rs) 61) :: O) [(rv, 61, 1, i, (wc (gleB i M)))]) (fun a' _ => gsz M - lenS 3 a') ⟨0, (.slice none 0 0), rest0, Nat.zero_le _, hz0, FF2.pick [0, 1, 2], MMn⟩ ?_
  rintro ac3 wd3 ⟨i, rv, rs, hi, hzr, FF3, MM3⟩
  have hc := lenS_row (FF3.get 0 rfl) MM3
  by_cases h1 : qsz (M / 10000000000000000000 ^ i) > 0
  · skip
    refine rg_seq FF3 MM3 [o_, o_, w_ 2] [3, 2, 0, 10] (fun Kt => (qsz (M / 10000000000000000000 ^ i)) > 0 ∧ Kt [(10, .bool true), (3, rv), (2, sB []), (0, trimV (some ⟨g, 0, none⟩) (M / 10000000000000000000 ^ i) cap)] ((g, .cells ((cn .u64 (qminB (M / 10000000000000000000 ^ i))) ++ rs) 61) :: O)) (by kernel_rfl) (fun _ => by kernel_rfl) (⟨h1, fun ac4 wd4 FF4 MM4 => ?_⟩)
    refine then_n (.inl ⟨FF4.ev 0 rfl, ?_⟩)
    have hKne : M / 10000000000000000000 ^ i ≠ 0 := fun e => by rw [e] at h1; exact absurd h1 (by decide)
    have hig := g_more hKne
    have hKs : qsz (M / 10000000000000000000 ^ i) ≤ qsz M := qsz_mono (Nat.div_le_self _ _)
    rw [trimV_pos _ _ hKne] at FF4
    have hcapK : qsz (M / 10000000000000000000 ^ i) ≤ cap := by rw [← hzr, Array.size_append, cn_size, qminB_len]; omega
    refine wp_seq (wp_region_list ?_)
    refine rg_part 2 FF4 MM4 [o_, o_] [3, 2, 0, 11, 12] (fun Kt => Kt [(12, .slice (some ⟨g, 0, none⟩) (qsz (M / 10000000000000000000 ^ i)) cap), (11, rv), (3, rv), (2, sB []), (0, .slice (some ⟨g, 0, none⟩) (qsz (M / 10000000000000000000 ^ i)) cap)] ((g, .cells ((cn .u64 (qminB (M / 10000000000000000000 ^ i))) ++ rs) 61) :: O)) (by kernel_rfl) (fun _ => by kernel_rfl) (fun ac5 wd5 FF5 MM5 => ?_)
    refine st_callM [11, 3, 2, 0, 13] FF5 (d := 13) en_parted rfl rfl (parted_any g cap (M / 10000000000000000000 ^ i) rs hzr (by omega) _ (MM5.get 0 rfl)) rfl (by kernel_rfl) (by decide) fun ac6 wd6 (FF6 : Fr 49 ac6 [(13, iW (M / 10000000000000000000 ^ i % 10000000000000000000)), (11, rv), (3, rv), (2, sB []), (0, .slice (some ⟨g, 0, none⟩) (qsz (M / 10000000000000000000 ^ i)) cap)]) hr7 => ?_
    have MM6t : MemS (fun k => k < w0.heap.size ∧ ∀ x ∈ (g, Obj.cells (cn .u64 (qminB M) ++ rest0) 61) :: O, x.1 ≠ k) w0 wd6 ((g, .cells ((cn .u64 (qleB (qsz (M / 10000000000000000000 ^ i)) (M / 10000000000000000000 ^ i / 10000000000000000000))) ++ rs) 61) :: O) [(rv, 61, 1, i, (wc (gleB i M)))] := MM5.turned hr7
    refine rg_part 1 FF6 MM6t [o_] [11, 3, 2, 0, 14] (fun Kt => ∀ bq, Kt [(14, .slice (some ⟨bq, 0, none⟩) 1 1), (11, rv), (3, rv), (2, sB []), (0, .slice (some ⟨g, 0, none⟩) (qsz (M / 10000000000000000000 ^ i)) cap)] ((bq, .cells (cn .u64 ([M / 10000000000000000000 ^ i % 10000000000000000000])) 61) :: (g, .cells ((cn .u64 (qleB (qsz (M / 10000000000000000000 ^ i)) (M / 10000000000000000000 ^ i / 10000000000000000000))) ++ rs) 61) :: O)) (by kernel_rfl) (fun _ => by kernel_rfl) (fun bq => fun ac8 wd8 FF8 MM8 => ?_)
    refine st_app [3, 2, 0, 15] FF8 MM8 (d := 15) (s := 11) (x := 14) (Y := (wc [M / 10000000000000000000 ^ i % 10000000000000000000])) (z := iW 0) (bb := 8) rfl rfl rfl rfl (lies_cn64 (MM8.get 0 rfl)) (wc_one _) (by decide) Tryd.underlying34 (by kernel_rfl) rfl (by decide) (by simp only [maxLen]; omega) (by omega) rfl rfl (by decide) fun ac10 wd10 rv9 (FF10 : Fr 49 ac10 [(15, rv9), (3, rv), (2, sB []), (0, .slice (some ⟨g, 0, none⟩) (qsz (M / 10000000000000000000 ^ i)) cap)]) (MM10 : MemS (fun k => k < w0.heap.size ∧ ∀ x ∈ (g, Obj.cells (cn .u64 (qminB M) ++ rest0) 61) :: O, x.1 ≠ k) w0 wd10 ((bq, .cells (cn .u64 ([M / 10000000000000000000 ^ i % 10000000000000000000])) 61) :: (g, .cells ((cn .u64 (qleB (qsz (M / 10000000000000000000 ^ i)) (M / 10000000000000000000 ^ i / 10000000000000000000))) ++ rs) 61) :: O) [(rv9, 61, 1, (i + 1), ((wc (gleB i M)) ++ (wc [M / 10000000000000000000 ^ i % 10000000000000000000])))]) => ?_
    have MMa : MemS (fun k => k < w0.heap.size ∧ ∀ x ∈ (g, Obj.cells (cn .u64 (qminB M) ++ rest0) 61) :: O, x.1 ≠ k) w0 wd10 ((bq, .cells (cn .u64 ([M / 10000000000000000000 ^ i % 10000000000000000000])) 61) :: (g, .cells ((cn .u64 (qleB (qsz (M / 10000000000000000000 ^ i)) (M / 10000000000000000000 ^ i / 10000000000000000000))) ++ rs) 61) :: O) [(rv9, 61, 1, (i + 1), (wc (gleB (i + 1) M)))] := by have h9 := MM10; rw [wc_app, ← gleB_succ] at h9; exact h9
    refine rg_part 1 FF10 MMa [o_] [3, 2, 0] (fun Kt => Kt [(3, rv9), (2, sB []), (0, .slice (some ⟨g, 0, none⟩) (qsz (M / 10000000000000000000 ^ i)) cap)] ((bq, .cells (cn .u64 ([M / 10000000000000000000 ^ i % 10000000000000000000])) 61) :: (g, .cells ((cn .u64 (qleB (qsz (M / 10000000000000000000 ^ i)) (M / 10000000000000000000 ^ i / 10000000000000000000))) ++ rs) 61) :: O)) (by kernel_rfl) (fun _ => by kernel_rfl) (fun ac11 wd11 FF11 MM11 => ?_)
    refine wpl_nil (then_n ?_)
    refine rg_seq FF11 MM11 [o_, u_ 1 (trimV (some ⟨g, 0, none⟩) (M / 10000000000000000000 ^ i / 10000000000000000000) cap), o_] [3, 2, 0] (fun Kt => CallP Tryd.prog 44 [.slice (some ⟨g, 0, none⟩) (qsz (M / 10000000000000000000 ^ i)) cap] ((bq, .cells (cn .u64 ([M / 10000000000000000000 ^ i % 10000000000000000000])) 61) :: (g, .cells ((cn .u64 (qleB (qsz (M / 10000000000000000000 ^ i)) (M / 10000000000000000000 ^ i / 10000000000000000000))) ++ rs) 61) :: O) (trimV (some ⟨g, 0, none⟩) (M / 10000000000000000000 ^ i / 10000000000000000000) cap) ∧ Kt [(0, trimV (some ⟨g, 0, none⟩) (M / 10000000000000000000 ^ i / 10000000000000000000) cap), (3, rv9), (2, sB [])] ((bq, .cells (cn .u64 ([M / 10000000000000000000 ^ i % 10000000000000000000])) 61) :: (g, .cells ((cn .u64 (qleB (qsz (M / 10000000000000000000 ^ i)) (M / 10000000000000000000 ^ i / 10000000000000000000))) ++ rs) 61) :: O)) (by kernel_rfl) (fun _ => by kernel_rfl) (⟨⟨en_trimd, fun w Hw => by have h0 := trimd_any (some ⟨g, 0, none⟩) cap (qleB (qsz (M / 10000000000000000000 ^ i)) (M / 10000000000000000000 ^ i / 10000000000000000000)) (qleB_lt _ _) (by rw [qleB_len]; exact hcapK) (by rw [qleB_len]; omega) w (.inr ⟨g, _, _, _, rfl, Hw 1 _ rfl, fun j hj => (Array.getElem?_append_left (by rw [cn_size]; exact hj)).trans (cn_get _ _ _ hj)⟩); rw [show (qleB (qsz (M / 10000000000000000000 ^ i)) (M / 10000000000000000000 ^ i / 10000000000000000000)).length = qsz (M / 10000000000000000000 ^ i) from (qleB_len _ _), qleV_quot] at h0; exact h0⟩, fun ac12 wd12 FF12 MM12 => ?_⟩)
    obtain ⟨rs2, hrs2⟩ := reb (n := qsz (M / 10000000000000000000 ^ i)) (K := M / 10000000000000000000 ^ (i + 1)) (by rw [← g_next]; exact qsz_mono (Nat.div_le_self _ _)) rs
    have hzr2 : (cn .u64 (qminB (M / 10000000000000000000 ^ (i + 1))) ++ rs2).size = cap := by rw [← hrs2, Array.size_append, cn_size, qleB_len]; rw [Array.size_append, cn_size, qminB_len] at hzr; exact hzr
    have MMb : MemS (fun k => k < w0.heap.size ∧ ∀ x ∈ (g, Obj.cells (cn .u64 (qminB M) ++ rest0) 61) :: O, x.1 ≠ k) w0 wd12 ((bq, .cells (cn .u64 ([M / 10000000000000000000 ^ i % 10000000000000000000])) 61) :: (g, .cells ((cn .u64 (qminB (M / 10000000000000000000 ^ (i + 1)))) ++ rs2) 61) :: O) [(rv9, 61, 1, (i + 1), (wc (gleB (i + 1) M)))] := by rw [← hrs2, ← g_next]; exact MM12
    rw [g_next] at FF12
    refine inb_n ?_
    have hd := lenS_row (FF12.get 1 rfl) MMb
    refine then_n ⟨⟨i + 1, rv9, rs2, by omega, hzr2, FF12.pick [1, 2, 0], (MMb.dropAt 0)⟩, ?_⟩
    rw [hc, hd]; omega
  · skip
    refine rg_seq FF3 MM3 [o_, o_, w_ 3] [3, 2, 0, 10] (fun Kt => ¬ ((qsz (M / 10000000000000000000 ^ i)) > 0) ∧ Kt [(10, .bool false), (3, rv), (2, sB []), (0, trimV (some ⟨g, 0, none⟩) (M / 10000000000000000000 ^ i) cap)] ((g, .cells ((cn .u64 (qminB (M / 10000000000000000000 ^ i))) ++ rs) 61) :: O)) (by kernel_rfl) (fun _ => by kernel_rfl) (⟨h1, fun ac13 wd13 FF13 MM13 => ?_⟩)
    refine then_n (.inr ⟨FF13.ev 0 rfl, ?_⟩)
    have hK0 : M / 10000000000000000000 ^ i = 0 := qz0 (by omega)
    have hie : i = gsz M := by have := Nat.le_of_not_lt fun h => g_less h hK0; omega
    subst hie
    refine then_n ?_
    refine wp_seq ?_
    have hgp := gsz_pos h0
    obtain ⟨pg, gc, rfl, _⟩ := MM13.rowLen
    obtain ⟨gb, rfl⟩ := MM13.rowSome hgp
    obtain ⟨rg, MMf, hgf, hgcap, _, hgsz, _⟩ := MM13.freezeW
    have MMh : MemS (fun k => k < w0.heap.size ∧ ∀ x ∈ (g, Obj.cells (cn .u64 (qminB M) ++ rest0) 61) :: O, x.1 ≠ k) w0 wd13 ((gb, .cells ((cn .u64 (gleB (gsz M) M)) ++ rg) 61) :: (g, .cells ((cn .u64 (qminB (M / 10000000000000000000 ^ (gsz M)))) ++ rs) 61) :: O) [] := MMf
    refine wp_seq (rg_seq FF13 MMh [o_, o_, w_ 3] [3, 2, 0, 20] (fun Kt => ¬ ((gsz M) = 0) ∧ Kt [(20, .bool false), (3, .slice (some ⟨gb, 0, none⟩) (gsz M) gc), (2, sB []), (0, trimV (some ⟨g, 0, none⟩) (M / 10000000000000000000 ^ (gsz M)) cap)] ((gb, .cells ((cn .u64 (gleB (gsz M) M)) ++ rg) 61) :: (g, .cells ((cn .u64 (qminB (M / 10000000000000000000 ^ (gsz M)))) ++ rs) 61) :: O)) (by kernel_rfl) (fun _ => by kernel_rfl) (⟨(by omega), fun ac14 wd14 FF14 MM14 => then_n ?_⟩))
    refine wp_cond_false (FF14.ev 0 rfl) ?_
    refine wp_skip ?_
    refine then_n ?_
    refine wp_seq (rg_seq FF14 MM14 [o_, o_, w_ 1, o_] [3, 2, 0, 4] (fun Kt => 1 ≤ (gsz M) ∧ (gsz M) - 1 < 9223372036854775808 ∧ Kt [(4, iN ((gsz M) - 1)), (3, .slice (some ⟨gb, 0, none⟩) (gsz M) gc), (2, sB []), (0, trimV (some ⟨g, 0, none⟩) (M / 10000000000000000000 ^ (gsz M)) cap)] ((gb, .cells ((cn .u64 (gleB (gsz M) M)) ++ rg) 61) :: (g, .cells ((cn .u64 (qminB (M / 10000000000000000000 ^ (gsz M)))) ++ rs) 61) :: O)) (by kernel_rfl) (fun _ => by kernel_rfl) (⟨(by omega), (by omega), fun ac15 wd15 FF15 MM15 => then_n ?_⟩))
    refine wp_seq (rg_seq FF15 MM15 [o_] [4, 3, 2, 0, 5] (fun Kt => ∀ bd, Kt [(5, pT bd), (4, iN ((gsz M) - 1)), (3, .slice (some ⟨gb, 0, none⟩) (gsz M) gc), (2, sB []), (0, trimV (some ⟨g, 0, none⟩) (M / 10000000000000000000 ^ (gsz M)) cap)] ((bd, oC #[.pointer none, .slice none 0 0] 106) :: (gb, .cells ((cn .u64 (gleB (gsz M) M)) ++ rg) 61) :: (g, .cells ((cn .u64 (qminB (M / 10000000000000000000 ^ (gsz M)))) ++ rs) 61) :: O)) (by kernel_rfl) (fun _ => by kernel_rfl) (fun bd => fun ac16 wd16 FF16 MM16 => then_n ?_))
    have MMi := MM16.rowNil 5 1
    have MMj : MemS (fun k => k < w0.heap.size ∧ ∀ x ∈ (g, Obj.cells (cn .u64 (qminB M) ++ rest0) 61) :: O, x.1 ≠ k) w0 wd16 ((bd, oC #[.pointer none, .slice none 0 0] 106) :: (gb, .cells ((cn .u64 (gleB (gsz M) M)) ++ rg) 61) :: (g, .cells ((cn .u64 (qminB (M / 10000000000000000000 ^ (gsz M)))) ++ rs) 61) :: O) [(.slice none 0 0, 5, 1, 0, (bcells []))] := MMi
    refine wp_seq (wp_region_list ?_)
    refine rg_part 5 FF16 MMj [o_, o_, w_ 1, l_ 1 (iW (M / 10000000000000000000 ^ (gsz M - 1) % 10000000000000000000)), u_ 1 (sB (decN (M / 10000000000000000000 ^ (gsz M - 1) % 10000000000000000000)))] [5, 4, 3, 2, 0, 28] (fun Kt => ((gsz M) - 1) < (gsz M) ∧ gb = gb ∧ ((cn .u64 (gleB (gsz M) M)) ++ rg)[(gsz M) - 1]? = some (iW (M / 10000000000000000000 ^ (gsz M - 1) % 10000000000000000000)) ∧ CallP Tryd.prog 73 [iW (M / 10000000000000000000 ^ (gsz M - 1) % 10000000000000000000), iN 10] ((bd, oC #[.pointer none, .slice none 0 0] 106) :: (gb, .cells ((cn .u64 (gleB (gsz M) M)) ++ rg) 61) :: (g, .cells ((cn .u64 (qminB (M / 10000000000000000000 ^ (gsz M)))) ++ rs) 61) :: O) (sB (decN (M / 10000000000000000000 ^ (gsz M - 1) % 10000000000000000000))) ∧ Kt [(28, sB (decN (M / 10000000000000000000 ^ (gsz M - 1) % 10000000000000000000))), (5, pT bd), (4, iN ((gsz M) - 1)), (3, .slice (some ⟨gb, 0, none⟩) (gsz M) gc), (2, sB []), (0, trimV (some ⟨g, 0, none⟩) (M / 10000000000000000000 ^ (gsz M)) cap)] ((bd, oC #[.pointer none, .slice none 0 0] 106) :: (gb, .cells ((cn .u64 (gleB (gsz M) M)) ++ rg) 61) :: (g, .cells ((cn .u64 (qminB (M / 10000000000000000000 ^ (gsz M)))) ++ rs) 61) :: O)) (by kernel_rfl) (fun _ => by kernel_rfl) (⟨(by omega), rfl, ((cat_l (by rw [cn_size, gleB_len]; omega)).trans ((cn_get _ _ _ (by rw [gleB_len]; omega)).trans (congrArg some (vI (gleB_get (by omega)))))), ⟨en_fmtu, fun w Hw => fmtu_any (M / 10000000000000000000 ^ (gsz M - 1) % 10000000000000000000) (Nat.lt_trans (Nat.mod_lt _ (by decide)) (by decide)) w (hT.at (Has.tl (Has.tl (Has.tl Hw))))⟩, fun ac17 wd17 FF17 MM17 => ?_⟩)
    have hbd := decN_bd (M / 10000000000000000000 ^ (gsz M - 1) % 10000000000000000000)
    have hq2 : qsz (M / 10000000000000000000 ^ (gsz M - 1) % 10000000000000000000) ≤ 1 := qsz_le (Nat.lt_trans (Nat.mod_lt _ (by decide)) (by decide))
    refine st_callM [5, 4, 3, 2, 0, 29] FF17 (d := 29) en_bwrite rfl rfl (bwrite_any (.inl rfl) (decN_lt _) (by omega) _ MM17) rfl (by kernel_rfl) (by decide) fun ac18 wd18 (FF18 : Fr 49 ac18 [(29, .tuple #[iN ((decN (M / 10000000000000000000 ^ (gsz M - 1) % 10000000000000000000)).length), .nilIface]), (5, pT bd), (4, iN ((gsz M) - 1)), (3, .slice (some ⟨gb, 0, none⟩) (gsz M) gc), (2, sB []), (0, trimV (some ⟨g, 0, none⟩) (M / 10000000000000000000 ^ (gsz M)) cap)]) hr19 => ?_
    obtain ⟨rq20, rc21, MM18⟩ := hr19
    have MM18 : MemS (fun k => k < w0.heap.size ∧ ∀ x ∈ (g, Obj.cells (cn .u64 (qminB M) ++ rest0) 61) :: O, x.1 ≠ k) w0 wd18 ((bd, oC #[pT bd, .slice rq20 (0 + (decN (M / 10000000000000000000 ^ (gsz M - 1) % 10000000000000000000)).length) rc21] 106) :: (gb, .cells ((cn .u64 (gleB (gsz M) M)) ++ rg) 61) :: (g, .cells ((cn .u64 (qminB (M / 10000000000000000000 ^ (gsz M)))) ++ rs) 61) :: O) [(.slice rq20 (0 + (decN (M / 10000000000000000000 ^ (gsz M - 1) % 10000000000000000000)).length) rc21, 5, 1, (0 + (decN (M / 10000000000000000000 ^ (gsz M - 1) % 10000000000000000000)).length), ((bcells []) ++ bcells (decN (M / 10000000000000000000 ^ (gsz M - 1) % 10000000000000000000))))] := MM18
    refine wpl_nil (then_n ?_)
    have eT : M / 10000000000000000000 ^ (gsz M - 1) % 10000000000000000000 = M / 10000000000000000000 ^ (gsz M - 1) := Nat.mod_eq_of_lt (g_top h0)
    have MMk : MemS (fun k => k < w0.heap.size ∧ ∀ x ∈ (g, Obj.cells (cn .u64 (qminB M) ++ rest0) 61) :: O, x.1 ≠ k) w0 wd18 ((bd, oC #[pT bd, .slice rq20 (decN (M / 10000000000000000000 ^ (gsz M - 1))).length rc21] 106) :: (gb, .cells ((cn .u64 (gleB (gsz M) M)) ++ rg) 61) :: (g, .cells ((cn .u64 (qminB (M / 10000000000000000000 ^ (gsz M)))) ++ rs) 61) :: O) [(.slice rq20 (decN (M / 10000000000000000000 ^ (gsz M - 1))).length rc21, 5, 1, (decN (M / 10000000000000000000 ^ (gsz M - 1))).length, (bcells (decN (M / 10000000000000000000 ^ (gsz M - 1)))))] := by have h9 := MM18; rw [Nat.zero_add, bcells_app, List.nil_append, eT] at h9; exact h9
    refine wp_seq ?_
    refine wp_seq (rg_seq FF18 MMk [o_, u_ 4 (.int .i64 (((gsz M - 1 : Nat) : Int) - 1 : Int)), o_] [5, 4, 3, 2, 0, 6] (fun Kt => -(9223372036854775808 : Int) ≤ (((gsz M) - 1 : Nat) : Int) - ((1 : Nat) : Int) ∧ (((gsz M) - 1 : Nat) : Int) - ((1 : Nat) : Int) < (9223372036854775808 : Nat) ∧ Value.int .i64 ((((gsz M) - 1 : Nat) : Int) - ((1 : Nat) : Int) : Int) = .int .i64 (((gsz M - 1 : Nat) : Int) - 1 : Int) ∧ Kt [(6, .int .i64 (((gsz M - 1 : Nat) : Int) - 1 : Int)), (5, pT bd), (4, iN ((gsz M) - 1)), (3, .slice (some ⟨gb, 0, none⟩) (gsz M) gc), (2, sB []), (0, trimV (some ⟨g, 0, none⟩) (M / 10000000000000000000 ^ (gsz M)) cap)] ((bd, oC #[pT bd, .slice rq20 (decN (M / 10000000000000000000 ^ (gsz M - 1))).length rc21] 106) :: (gb, .cells ((cn .u64 (gleB (gsz M) M)) ++ rg) 61) :: (g, .cells ((cn .u64 (qminB (M / 10000000000000000000 ^ (gsz M)))) ++ rs) 61) :: O)) (by kernel_rfl) (fun _ => by kernel_rfl) (⟨(by omega), (by omega), (vZ (by omega)), fun ac22 wd22 FF22 MM22 => then_n ?_⟩))
    refine wp_for2 (fun a' w' => ∃ j : Nat, ∃ q : Option Addr, ∃ c : Nat, j < gsz M ∧ Fr 49 a' [(6, .int .i64 (((j : Nat) : Int) - 1 : Int)), (5, pT bd), (4, iN ((gsz M) - 1)), (3, .slice (some ⟨gb, 0, none⟩) (gsz M) gc), (2, sB []), (0, trimV (some ⟨g, 0, none⟩) (M / 10000000000000000000 ^ (gsz M)) cap)] ∧ MemS (fun k => k < w0.heap.size ∧ ∀ x ∈ (g, Obj.cells (cn .u64 (qminB M) ++ rest0) 61) :: O, x.1 ≠ k) w0 w' ((bd, oC #[pT bd, .slice q (decN (M / 10000000000000000000 ^ j)).length c] 106) :: (gb, .cells ((cn .u64 (gleB (gsz M) M)) ++ rg) 61) :: (g, .cells ((cn .u64 (qminB (M / 10000000000000000000 ^ (gsz M)))) ++ rs) 61) :: O) [(.slice q (decN (M / 10000000000000000000 ^ j)).length c, 5, 1, (decN (M / 10000000000000000000 ^ j)).length, (bcells (decN (M / 10000000000000000000 ^ j))))]) (fun a' _ => (cnt 6 a' + 1).toNat) ⟨gsz M - 1, rq20, rc21, by omega, FF22.pick [0, 1, 2, 3, 4, 5], MM22⟩ ?_
    rintro ac23 wd23 ⟨j, q, c, hj, FF23, MM23⟩
    have hc := cnt_of (FF23.get 0 rfl)
    refine rg_seq FF23 MM23 [o_, w_ 4] [6, 5, 4, 3, 2, 0, 33] (fun Kt => Kt [(33, .bool (decide ((((j : Nat) : Int) - 1) ≥ ((0 : Nat) : Int)))), (6, .int .i64 (((j : Nat) : Int) - 1 : Int)), (5, pT bd), (4, iN ((gsz M) - 1)), (3, .slice (some ⟨gb, 0, none⟩) (gsz M) gc), (2, sB []), (0, trimV (some ⟨g, 0, none⟩) (M / 10000000000000000000 ^ (gsz M)) cap)] ((bd, oC #[pT bd, .slice q (decN (M / 10000000000000000000 ^ j)).length c] 106) :: (gb, .cells ((cn .u64 (gleB (gsz M) M)) ++ rg) 61) :: (g, .cells ((cn .u64 (qminB (M / 10000000000000000000 ^ (gsz M)))) ++ rs) 61) :: O)) (by kernel_rfl) (fun _ => by kernel_rfl) (fun ac24 wd24 FF24 MM24 => ?_)
    by_cases hlt : (((j : Nat) : Int) - 1) ≥ ((0 : Nat) : Int)
    · skip
      refine then_n (.inl ⟨(FF24.ev 0 rfl).trans (dec_t hlt), ?_⟩)
      obtain ⟨j, rfl⟩ : ∃ z, j = z + 1 := ⟨j - 1, by omega⟩
      have hne := g_less (M := M) (i := j + 1) (by omega)
      have hbd := decN_bd (M / 10000000000000000000 ^ (j + 1))
      have hbs : qsz (M / 10000000000000000000 ^ (j + 1)) ≤ qsz M := qsz_mono (Nat.div_le_self _ _)
      obtain ⟨_, hp19⟩ := decN_pad (r := M / 10000000000000000000 ^ j % 10000000000000000000) (Nat.mod_lt _ (by decide))
      have hgr := dec_group hne
      refine wp_seq (rg_seq FF24 MM24 [o_, t_ (iN j), w_ 1, l_ 1 (iW (M / 10000000000000000000 ^ j % 10000000000000000000)), u_ 1 (sB (decN (M / 10000000000000000000 ^ j % 10000000000000000000))), o_] [6, 5, 4, 3, 2, 0, 7] (fun Kt => Value.int .i64 ((((j + 1) : Nat) : Int) - 1 : Int) = iN j ∧ j < (gsz M) ∧ gb = gb ∧ ((cn .u64 (gleB (gsz M) M)) ++ rg)[j]? = some (iW (M / 10000000000000000000 ^ j % 10000000000000000000)) ∧ CallP Tryd.prog 73 [iW (M / 10000000000000000000 ^ j % 10000000000000000000), iN 10] ((bd, oC #[pT bd, .slice q (decN (M / 10000000000000000000 ^ (j + 1))).length c] 106) :: (gb, .cells ((cn .u64 (gleB (gsz M) M)) ++ rg) 61) :: (g, .cells ((cn .u64 (qminB (M / 10000000000000000000 ^ (gsz M)))) ++ rs) 61) :: O) (sB (decN (M / 10000000000000000000 ^ j % 10000000000000000000))) ∧ Kt [(7, sB (decN (M / 10000000000000000000 ^ j % 10000000000000000000))), (6, .int .i64 ((((j + 1) : Nat) : Int) - 1 : Int)), (5, pT bd), (4, iN ((gsz M) - 1)), (3, .slice (some ⟨gb, 0, none⟩) (gsz M) gc), (2, sB []), (0, trimV (some ⟨g, 0, none⟩) (M / 10000000000000000000 ^ (gsz M)) cap)] ((bd, oC #[pT bd, .slice q (decN (M / 10000000000000000000 ^ (j + 1))).length c] 106) :: (gb, .cells ((cn .u64 (gleB (gsz M) M)) ++ rg) 61) :: (g, .cells ((cn .u64 (qminB (M / 10000000000000000000 ^ (gsz M)))) ++ rs) 61) :: O)) (by kernel_rfl) (fun _ => by kernel_rfl) (⟨(vZ (by omega)), (by omega), rfl, ((cat_l (by rw [cn_size, gleB_len]; omega)).trans ((cn_get _ _ _ (by rw [gleB_len]; omega)).trans (congrArg some (vI (gleB_get (by omega)))))), ⟨en_fmtu, fun w Hw => fmtu_any (M / 10000000000000000000 ^ j % 10000000000000000000) (Nat.lt_trans (Nat.mod_lt _ (by decide)) (by decide)) w (hT.at (Has.tl (Has.tl (Has.tl Hw))))⟩, fun ac25 wd25 FF25 MM25 => then_n ?_⟩))
      refine wp_seq (wp_region_list ?_)
      refine rg_part 4 FF25 MM25 [o_, t_ (iN ((decN (M / 10000000000000000000 ^ j % 10000000000000000000)).length)), w_ 1, t_ (sB (List.replicate (19 - ((decN (M / 10000000000000000000 ^ j % 10000000000000000000)).length)) 48))] [7, 6, 5, 4, 3, 2, 0, 44] (fun Kt => iN ((bs (decN (M / 10000000000000000000 ^ j % 10000000000000000000))).size) = iN ((decN (M / 10000000000000000000 ^ j % 10000000000000000000)).length) ∧ ((decN (M / 10000000000000000000 ^ j % 10000000000000000000)).length) ≤ 19 ∧ 19 - ((decN (M / 10000000000000000000 ^ j % 10000000000000000000)).length) < 9223372036854775808 ∧ CallP Tryd.prog 74 [sB [48], iN (19 - ((decN (M / 10000000000000000000 ^ j % 10000000000000000000)).length))] [] (sB (List.replicate (19 - ((decN (M / 10000000000000000000 ^ j % 10000000000000000000)).length)) 48)) ∧ Kt [(44, sB (List.replicate (19 - ((decN (M / 10000000000000000000 ^ j % 10000000000000000000)).length)) 48)), (7, sB (decN (M / 10000000000000000000 ^ j % 10000000000000000000))), (6, .int .i64 ((((j + 1) : Nat) : Int) - 1 : Int)), (5, pT bd), (4, iN ((gsz M) - 1)), (3, .slice (some ⟨gb, 0, none⟩) (gsz M) gc), (2, sB []), (0, trimV (some ⟨g, 0, none⟩) (M / 10000000000000000000 ^ (gsz M)) cap)] ((bd, oC #[pT bd, .slice q (decN (M / 10000000000000000000 ^ (j + 1))).length c] 106) :: (gb, .cells ((cn .u64 (gleB (gsz M) M)) ++ rg) 61) :: (g, .cells ((cn .u64 (qminB (M / 10000000000000000000 ^ (gsz M)))) ++ rs) 61) :: O)) (by kernel_rfl) (fun _ => by kernel_rfl) (⟨(vI (bs_size _)), hp19, (by omega), (callP_of en_repeat (repeat_any (19 - ((decN (M / 10000000000000000000 ^ j % 10000000000000000000)).length)) (by omega)) _), fun ac26 wd26 FF26 MM26 => ?_⟩)
      refine st_callM [7, 6, 5, 4, 3, 2, 0, 45] FF26 (d := 45) en_bwrite rfl rfl (bwrite_any (.inr rfl) (rep48_lt _) (by rw [List.length_replicate]; omega) _ MM26) rfl (by kernel_rfl) (by decide) fun ac27 wd27 (FF27 : Fr 49 ac27 [(45, .tuple #[iN ((List.replicate (19 - (decN (M / 10000000000000000000 ^ j % 10000000000000000000)).length) 48).length), .nilIface]), (7, sB (decN (M / 10000000000000000000 ^ j % 10000000000000000000))), (6, .int .i64 ((((j + 1) : Nat) : Int) - 1 : Int)), (5, pT bd), (4, iN ((gsz M) - 1)), (3, .slice (some ⟨gb, 0, none⟩) (gsz M) gc), (2, sB []), (0, trimV (some ⟨g, 0, none⟩) (M / 10000000000000000000 ^ (gsz M)) cap)]) hr28 => ?_
      obtain ⟨rq29, rc30, MM27⟩ := hr28
      have MM27 : MemS (fun k => k < w0.heap.size ∧ ∀ x ∈ (g, Obj.cells (cn .u64 (qminB M) ++ rest0) 61) :: O, x.1 ≠ k) w0 wd27 ((bd, oC #[pT bd, .slice rq29 ((decN (M / 10000000000000000000 ^ (j + 1))).length + (List.replicate (19 - (decN (M / 10000000000000000000 ^ j % 10000000000000000000)).length) 48).length) rc30] 106) :: (gb, .cells ((cn .u64 (gleB (gsz M) M)) ++ rg) 61) :: (g, .cells ((cn .u64 (qminB (M / 10000000000000000000 ^ (gsz M)))) ++ rs) 61) :: O) [(.slice rq29 ((decN (M / 10000000000000000000 ^ (j + 1))).length + (List.replicate (19 - (decN (M / 10000000000000000000 ^ j % 10000000000000000000)).length) 48).length) rc30, 5, 1, ((decN (M / 10000000000000000000 ^ (j + 1))).length + (List.replicate (19 - (decN (M / 10000000000000000000 ^ j % 10000000000000000000)).length) 48).length), ((bcells (decN (M / 10000000000000000000 ^ (j + 1)))) ++ bcells (List.replicate (19 - (decN (M / 10000000000000000000 ^ j % 10000000000000000000)).length) 48)))] := MM27
      refine wpl_nil (then_n ?_)
      refine wp_region_list ?_
      refine rg_part 1 FF27 MM27 [o_] [7, 6, 5, 4, 3, 2, 0, 46] (fun Kt => Kt [(46, sB (decN (M / 10000000000000000000 ^ j % 10000000000000000000))), (7, sB (decN (M / 10000000000000000000 ^ j % 10000000000000000000))), (6, .int .i64 ((((j + 1) : Nat) : Int) - 1 : Int)), (5, pT bd), (4, iN ((gsz M) - 1)), (3, .slice (some ⟨gb, 0, none⟩) (gsz M) gc), (2, sB []), (0, trimV (some ⟨g, 0, none⟩) (M / 10000000000000000000 ^ (gsz M)) cap)] ((bd, oC #[pT bd, .slice rq29 ((decN (M / 10000000000000000000 ^ (j + 1))).length + (List.replicate (19 - (decN (M / 10000000000000000000 ^ j % 10000000000000000000)).length) 48).length) rc30] 106) :: (gb, .cells ((cn .u64 (gleB (gsz M) M)) ++ rg) 61) :: (g, .cells ((cn .u64 (qminB (M / 10000000000000000000 ^ (gsz M)))) ++ rs) 61) :: O)) (by kernel_rfl) (fun _ => by kernel_rfl) (fun ac31 wd31 FF31 MM31 => ?_)
      refine st_callM [7, 6, 5, 4, 3, 2, 0, 47] FF31 (d := 47) en_bwrite rfl rfl (bwrite_any (.inr rfl) (decN_lt _) (by rw [List.length_replicate]; omega) _ MM31) rfl (by kernel_rfl) (by decide) fun ac32 wd32 (FF32 : Fr 49 ac32 [(47, .tuple #[iN ((decN (M / 10000000000000000000 ^ j % 10000000000000000000)).length), .nilIface]), (7, sB (decN (M / 10000000000000000000 ^ j % 10000000000000000000))), (6, .int .i64 ((((j + 1) : Nat) : Int) - 1 : Int)), (5, pT bd), (4, iN ((gsz M) - 1)), (3, .slice (some ⟨gb, 0, none⟩) (gsz M) gc), (2, sB []), (0, trimV (some ⟨g, 0, none⟩) (M / 10000000000000000000 ^ (gsz M)) cap)]) hr33 => ?_
      obtain ⟨rq34, rc35, MM32⟩ := hr33
      have MM32 : MemS (fun k => k < w0.heap.size ∧ ∀ x ∈ (g, Obj.cells (cn .u64 (qminB M) ++ rest0) 61) :: O, x.1 ≠ k) w0 wd32 ((bd, oC #[pT bd, .slice rq34 (((decN (M / 10000000000000000000 ^ (j + 1))).length + (List.replicate (19 - (decN (M / 10000000000000000000 ^ j % 10000000000000000000)).length) 48).length) + (decN (M / 10000000000000000000 ^ j % 10000000000000000000)).length) rc35] 106) :: (gb, .cells ((cn .u64 (gleB (gsz M) M)) ++ rg) 61) :: (g, .cells ((cn .u64 (qminB (M / 10000000000000000000 ^ (gsz M)))) ++ rs) 61) :: O) [(.slice rq34 (((decN (M / 10000000000000000000 ^ (j + 1))).length + (List.replicate (19 - (decN (M / 10000000000000000000 ^ j % 10000000000000000000)).length) 48).length) + (decN (M / 10000000000000000000 ^ j % 10000000000000000000)).length) rc35, 5, 1, (((decN (M / 10000000000000000000 ^ (j + 1))).length + (List.replicate (19 - (decN (M / 10000000000000000000 ^ j % 10000000000000000000)).length) 48).length) + (decN (M / 10000000000000000000 ^ j % 10000000000000000000)).length), (((bcells (decN (M / 10000000000000000000 ^ (j + 1)))) ++ bcells (List.replicate (19 - (decN (M / 10000000000000000000 ^ j % 10000000000000000000)).length) 48)) ++ bcells (decN (M / 10000000000000000000 ^ j % 10000000000000000000))))] := MM32
      refine wpl_nil ?_
      refine inb_n (then_n ?_)
      refine rg_seq FF32 MM32 [o_, u_ 4 (.int .i64 (((j : Nat) : Int) - 1 : Int)), o_] [7, 6, 5, 4, 3, 2, 0] (fun Kt => -(9223372036854775808 : Int) ≤ ((((j + 1) : Nat) : Int) - 1) - ((1 : Nat) : Int) ∧ ((((j + 1) : Nat) : Int) - 1) - ((1 : Nat) : Int) < (9223372036854775808 : Nat) ∧ Value.int .i64 (((((j + 1) : Nat) : Int) - 1) - ((1 : Nat) : Int) : Int) = .int .i64 (((j : Nat) : Int) - 1 : Int) ∧ Kt [(6, .int .i64 (((j : Nat) : Int) - 1 : Int)), (7, sB (decN (M / 10000000000000000000 ^ j % 10000000000000000000))), (5, pT bd), (4, iN ((gsz M) - 1)), (3, .slice (some ⟨gb, 0, none⟩) (gsz M) gc), (2, sB []), (0, trimV (some ⟨g, 0, none⟩) (M / 10000000000000000000 ^ (gsz M)) cap)] ((bd, oC #[pT bd, .slice rq34 (((decN (M / 10000000000000000000 ^ (j + 1))).length + (List.replicate (19 - (decN (M / 10000000000000000000 ^ j % 10000000000000000000)).length) 48).length) + (decN (M / 10000000000000000000 ^ j % 10000000000000000000)).length) rc35] 106) :: (gb, .cells ((cn .u64 (gleB (gsz M) M)) ++ rg) 61) :: (g, .cells ((cn .u64 (qminB (M / 10000000000000000000 ^ (gsz M)))) ++ rs) 61) :: O)) (by kernel_rfl) (fun _ => by kernel_rfl) (⟨(by omega), (by omega), (vZ (by omega)), fun ac36 wd36 FF36 MM36 => ?_⟩)
      have hln : (((decN (M / 10000000000000000000 ^ (j + 1))).length + (List.replicate (19 - (decN (M / 10000000000000000000 ^ j % 10000000000000000000)).length) 48).length) + (decN (M / 10000000000000000000 ^ j % 10000000000000000000)).length) = (decN (M / 10000000000000000000 ^ j)).length := by rw [← hgr]; simp only [List.length_append]
      have MMo : MemS (fun k => k < w0.heap.size ∧ ∀ x ∈ (g, Obj.cells (cn .u64 (qminB M) ++ rest0) 61) :: O, x.1 ≠ k) w0 wd36 ((bd, oC #[pT bd, .slice rq34 (decN (M / 10000000000000000000 ^ j)).length rc35] 106) :: (gb, .cells ((cn .u64 (gleB (gsz M) M)) ++ rg) 61) :: (g, .cells ((cn .u64 (qminB (M / 10000000000000000000 ^ (gsz M)))) ++ rs) 61) :: O) [(.slice rq34 (decN (M / 10000000000000000000 ^ j)).length rc35, 5, 1, (decN (M / 10000000000000000000 ^ j)).length, (bcells (decN (M / 10000000000000000000 ^ j))))] := by have h9 := MM36; rw [bcells_app, bcells_app, hgr, hln] at h9; exact h9
      have hd := cnt_of (FF36.get 0 rfl)
      refine then_n ⟨⟨j, rq34, rc35, by omega, FF36.pick [0, 2, 3, 4, 5, 6], MMo⟩, ?_⟩
      rw [hc, hd]; omega
    · skip
      refine then_n (.inr ⟨(FF24.ev 0 rfl).trans (dec_f hlt), ?_⟩)
      obtain rfl : j = 0 := by omega
      refine then_n ?_
      refine wp_seq (wp_region_list ?_)
      refine st_callM [6, 5, 4, 3, 2, 0, 48] FF24 (d := 48) en_bstring rfl rfl (bstring_any (decN_lt _) (.inl (by rw [e0, decN_len h0]; exact dsz_pos h0)) _ MM24) rfl (by kernel_rfl) (by decide) fun ac37 wd37 (FF37 : Fr 49 ac37 [(48, sB (decN (M / 10000000000000000000 ^ 0))), (6, .int .i64 (((0 : Nat) : Int) - 1 : Int)), (5, pT bd), (4, iN ((gsz M) - 1)), (3, .slice (some ⟨gb, 0, none⟩) (gsz M) gc), (2, sB []), (0, trimV (some ⟨g, 0, none⟩) (M / 10000000000000000000 ^ (gsz M)) cap)]) hr38 => ?_
      have MM37 : MemS (fun k => k < w0.heap.size ∧ ∀ x ∈ (g, Obj.cells (cn .u64 (qminB M) ++ rest0) 61) :: O, x.1 ≠ k) w0 wd37 ((bd, oC #[pT bd, .slice q (decN (M / 10000000000000000000 ^ 0)).length c] 106) :: (gb, .cells ((cn .u64 (gleB (gsz M) M)) ++ rg) 61) :: (g, .cells ((cn .u64 (qminB (M / 10000000000000000000 ^ (gsz M)))) ++ rs) 61) :: O) [] := hr38
      refine rg_part 1 FF37 MM37 [o_] [6, 5, 4, 3, 2, 0] (fun Kt => Kt [(2, sB (decN (M / 10000000000000000000 ^ 0))), (6, .int .i64 (((0 : Nat) : Int) - 1 : Int)), (5, pT bd), (4, iN ((gsz M) - 1)), (3, .slice (some ⟨gb, 0, none⟩) (gsz M) gc), (0, trimV (some ⟨g, 0, none⟩) (M / 10000000000000000000 ^ (gsz M)) cap)] ((bd, oC #[pT bd, .slice q (decN (M / 10000000000000000000 ^ 0)).length c] 106) :: (gb, .cells ((cn .u64 (gleB (gsz M) M)) ++ rg) 61) :: (g, .cells ((cn .u64 (qminB (M / 10000000000000000000 ^ (gsz M)))) ++ rs) 61) :: O)) (by kernel_rfl) (fun _ => by kernel_rfl) (fun ac39 wd39 FF39 MM39 => ?_)
      refine wpl_nil (then_n ?_)
      refine wp_ret ?_
      repeat first | refine then_ret ?_ | refine inb_ret ?_
      exact (ret_fr FF39 0 Tryd.results58 rfl ⟨congrArg Ending.returned (by rw [e0]), _, MM39.turn (Has.tl H) 2 rfl (fun _ hx => List.mem_cons_of_mem _ (List.mem_cons_of_mem _ (List.mem_cons_of_mem _ (hx))))⟩)
end Go.Proofs.YtlljedijldkcbaaDoor
