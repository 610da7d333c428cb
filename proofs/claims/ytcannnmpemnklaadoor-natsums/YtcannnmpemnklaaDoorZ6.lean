/- Several texts in one: Package nat: sums. Package nat: sums of rows of numbers. Products of words. No program in this text. Package nat: a row, and a number times a word. Package nat: a product of two rows. Package nat: products. -/
import Derived.Test.YtcannnmpemnklaaDoorZ5
namespace Go.Proofs.YtcannnmpemnklaaDoor
open Go.RowKit

theorem pad_min {M n : Nat} (h : qsz M ≤ n) : qminB M ++ List.replicate (n - qsz M) 0 = qleB n M := by
  have := qpad_leB (N := M) (n := n) (k := n) (Nat.le_refl _)
  rw [← this, List.take_append, qminB_len, List.take_of_length_le (by rw [qminB_len]; exact h), List.take_replicate, Nat.min_eq_left (by omega)]
set_option maxRecDepth 100000 in
theorem plus_main {S : Nat → Prop} {w0 : World} {L : Blks} {R : List Row} {q : Option Addr} {c : Nat} (M N : Nat) (y : Value) (hN : NatO L (nv N y) N) (h0 : 0 < qsz M ∨ 0 < qsz N) (hs : qsz M < 1000000) (hs2 : qsz N < 1000000) (w : World) (MM : MemS S w0 w L ((Value.slice q (qsz M) c, 22, 1, qsz M, wc (qminB M)) :: R)) :
    Calls Tryd.prog 38 #[.slice q (qsz M) c, nv N y] w fun e w' => ∃ q' c', e = .returned (.slice q' (qsz (M + N)) c') ∧ MemS S w0 w' L ((Value.slice q' (qsz (M + N)) c', 22, 1, qsz (M + N), wc (qminB (M + N))) :: R) := by
  refine enter_fr Tryd.func38 rfl Tryd.ntmps38 (by simp) fun ac (FF : Fr 73 ac [(0, .slice q (qsz M) c), (1, nv N y)]) => ?_
  refine wp_seq (rg_seq FF MM [o_] [0, 1, 4] (fun Kt => Kt [(4, .slice none 0 0), (0, .slice q (qsz M) c), (1, nv N y)] L) (by kernel_rfl) (fun _ => by kernel_rfl) (fun ac1 wd1 FF1 MM1 => then_n ?_))
  refine wp_seq ?_
  refine wp_seq (rg_seq FF1 MM1 [o_, o_, o_, o_, o_] [4, 0, 1, 13] (fun Kt => Kt [(13, .bool (decide ((qsz N) > (qsz M)))), (4, .slice none 0 0), (0, .slice q (qsz M) c), (1, nv N y)] L) (by kernel_rfl) (fun _ => by kernel_rfl) (fun ac2 wd2 FF2 MM2 => then_n ?_))
  by_cases hs13 : (qsz N) > (qsz M)
  · refine wp_cond_true ((FF2.ev 0 rfl).trans (dec_t hs13)) ?_
    refine wp_region_list ?_
    refine rg_part 6 FF2 MM2 [o_, o_, o_, o_, o_, o_] [4, 0, 1, 14, 19] (fun Kt => (qsz M) ≤ (qsz N) ∧ (qsz N) - (qsz M) < 9223372036854775808 ∧ Kt [(19, .int .i64 ((qsz N) - (qsz M) : Nat)), (14, .slice q (qsz M) c), (4, .slice none 0 0), (0, .slice q (qsz M) c), (1, nv N y)] L) (by kernel_rfl) (fun _ => by kernel_rfl) (⟨(by omega), (by omega), fun ac3 wd3 FF3 MM3 => ?_⟩)
    refine st_appZ [4, 0, 1, 20] FF3 MM3 (d := 20) (s := 14) (x := (.tmp 19)) (z := .int .u64 0) (bb := 8) rfl rfl rfl rfl rfl Tryd.underlying25 Tryd.underlying3 (by kernel_rfl) (by omega) (by simp only [maxLen]; omega) (by omega) rfl rfl (by decide) fun ac6 wd6 rg4 rc5 (FF6 : Fr 73 ac6 [(20, .slice (some ⟨rg4, 0, none⟩) ((qsz M) + ((qsz N) - (qsz M))) rc5), (4, .slice none 0 0), (0, .slice q (qsz M) c), (1, nv N y)]) (MM6 : MemS S w0 wd6 L ((.slice (some ⟨rg4, 0, none⟩) ((qsz M) + ((qsz N) - (qsz M))) rc5, 22, 1, ((qsz M) + ((qsz N) - (qsz M))), ((wc (qminB M)) ++ List.replicate ((qsz N) - (qsz M)) (Value.int .u64 0))) :: R)) => ?_
    have MMx : MemS S w0 wd6 L ((.slice (some ⟨rg4, 0, none⟩) (qsz N) rc5, 22, 1, (qsz N), (wc (qleB (qsz N) M))) :: R) := by have h9 := MM6; rw [wc_rep, wc_app, pad_min (show qsz M ≤ qsz N by omega), show qsz M + (qsz N - qsz M) = qsz N by omega] at h9; exact h9
    rw [show qsz M + (qsz N - qsz M) = qsz N by omega] at FF6
    refine rg_part 1 FF6 MMx [o_] [4, 0, 1] (fun Kt => Kt [(0, .slice (some ⟨rg4, 0, none⟩) (qsz N) rc5), (4, .slice none 0 0), (1, nv N y)] L) (by kernel_rfl) (fun _ => by kernel_rfl) (fun ac7 wd7 FF7 MM7 => ?_)
    refine wpl_nil ?_
    obtain ⟨rs, MMz, hg, hcap, hmx, hsz, hlen⟩ := MemS.freezeW (X := qleB (qsz N) M) MM7
    have MMy : MemS S w0 wd7 ((rg4, .cells ((cn .u64 (adL (qsz N) M N 0)) ++ rs) 22) :: L) R := by rw [adL_zero]; exact MMz
    have hsz2 : ∀ i, (cn .u64 (adL (qsz N) M N i) ++ rs).size = rc5 := fun i => by rw [Array.size_append, cn_size, adL_len]; rw [Array.size_append, cn_size, qleB_len] at hsz; exact hsz
    have hnM : qsz M ≤ qsz N := by omega
    have hnN : qsz N ≤ qsz N := by omega
    have hn0 : qsz N = qsz M ∨ qsz N = qsz N := by first | exact .inl rfl | exact .inr rfl
    refine then_n ?_
    refine wp_seq (rg_seq FF7 MMy [o_] [0, 4, 1, 5] (fun Kt => Kt [(5, .int .u64 (0 : Nat)), (0, .slice (some ⟨rg4, 0, none⟩) (qsz N) rc5), (4, .slice none 0 0), (1, nv N y)] ((rg4, .cells ((cn .u64 (adL (qsz N) M N 0)) ++ rs) 22) :: L)) (by kernel_rfl) (fun _ => by kernel_rfl) (fun ac8 wd8 FF8 MM8 => then_n ?_))
    refine wp_seq ?_
    refine wp_seq (rg_seq FF8 MM8 [o_, o_, o_] [5, 0, 4, 1, 21, 22, 23] (fun Kt => Kt [(23, .int .i64 (0 : Nat)), (22, .int .i64 (qsz N : Nat)), (21, nv N y), (5, .int .u64 (0 : Nat)), (0, .slice (some ⟨rg4, 0, none⟩) (qsz N) rc5), (4, .slice none 0 0), (1, nv N y)] ((rg4, .cells ((cn .u64 (adL (qsz N) M N 0)) ++ rs) 22) :: L)) (by kernel_rfl) (fun _ => by kernel_rfl) (fun ac9 wd9 FF9 MM9 => then_n ?_))
    refine wp_for (fun a' w' => ∃ i : Nat, ∃ cc : Nat, i ≤ qsz N ∧ cc = qcarB M N i ∧ Fr 73 a' [(23, .int .i64 (i : Nat)), (22, .int .i64 (qsz N : Nat)), (21, nv N y), (5, .int .u64 (cc : Nat)), (0, .slice (some ⟨rg4, 0, none⟩) (qsz N) rc5), (4, .slice none 0 0), (1, nv N y)] ∧ MemS S w0 w' ((rg4, .cells ((cn .u64 (adL (qsz N) M N i)) ++ rs) 22) :: L) R) (fun a' _ => (qsz N - cnt 23 a').toNat) ⟨0, 0, by omega, (qcar_zero M N).symm, FF9.pick [0, 1, 2, 3, 4, 5, 6], MM9⟩ ?_
    rintro ac10 wd10 ⟨i, cc, hi, hcc, FF10, MM10⟩
    have hc := cnt_of (FF10.get 0 rfl)
    refine rg_seq FF10 MM10 [o_] [23, 22, 21, 5, 0, 4, 1, 24] (fun Kt => Kt [(24, .bool (decide (i < (qsz N)))), (23, .int .i64 (i : Nat)), (22, .int .i64 (qsz N : Nat)), (21, nv N y), (5, .int .u64 (cc : Nat)), (0, .slice (some ⟨rg4, 0, none⟩) (qsz N) rc5), (4, .slice none 0 0), (1, nv N y)] ((rg4, .cells ((cn .u64 (adL (qsz N) M N i)) ++ rs) 22) :: L)) (by kernel_rfl) (fun _ => by kernel_rfl) (fun ac11 wd11 FF11 MM11 => ?_)
    by_cases hlt : i < (qsz N)
    · skip
      refine then_n (.inl ⟨(FF11.ev 0 rfl).trans (dec_t hlt), ?_⟩)
      refine wp_seq (rg_seq FF11 MM11 [o_, f_ (.pointer (some ⟨gOf (pOf y), i, none⟩)), f_ (.int .u64 (qd N i : Nat)), o_, o_] [23, 22, 21, 5, 0, 4, 1, 6, 7] (fun Kt => RunV Tryd.prog [(25, .int .i64 (i : Nat)), (24, .bool (decide (i < (qsz N)))), (23, .int .i64 (i : Nat)), (22, .int .i64 (qsz N : Nat)), (21, nv N y), (5, .int .u64 (cc : Nat)), (0, .slice (some ⟨rg4, 0, none⟩) (qsz N) rc5), (4, .slice none 0 0), (1, nv N y)] ((rg4, .cells ((cn .u64 (adL (qsz N) M N i)) ++ rs) 22) :: L) (opAt Tryd.f38 6 1) (.pointer (some ⟨gOf (pOf y), i, none⟩)) ∧ RunV Tryd.prog [(26, .pointer (some ⟨gOf (pOf y), i, none⟩)), (25, .int .i64 (i : Nat)), (24, .bool (decide (i < (qsz N)))), (23, .int .i64 (i : Nat)), (22, .int .i64 (qsz N : Nat)), (21, nv N y), (5, .int .u64 (cc : Nat)), (0, .slice (some ⟨rg4, 0, none⟩) (qsz N) rc5), (4, .slice none 0 0), (1, nv N y)] ((rg4, .cells ((cn .u64 (adL (qsz N) M N i)) ++ rs) 22) :: L) (opAt Tryd.f38 6 2) (.int .u64 (qd N i : Nat)) ∧ Kt [(7, .int .u64 (qd N i : Nat)), (6, .int .i64 (i : Nat)), (23, .int .i64 (i : Nat)), (22, .int .i64 (qsz N : Nat)), (21, nv N y), (5, .int .u64 (cc : Nat)), (0, .slice (some ⟨rg4, 0, none⟩) (qsz N) rc5), (4, .slice none 0 0), (1, nv N y)] ((rg4, .cells ((cn .u64 (adL (qsz N) M N i)) ++ rs) 22) :: L)) (by kernel_rfl) (fun _ => by kernel_rfl) (⟨(rowAddr_ok (x := (.tmp 21)) (y := (.tmp 23)) (by kernel_rfl) rfl rfl Tryd.underlying25 (by kernel_rfl) (natO_cells hN) (by omega)), (rowLoad_ok (x := (.tmp 26)) (i := i) (by kernel_rfl) rfl Tryd.underlying22 rfl (natO_cells hN) (fun _ hx => List.mem_cons_of_mem _ (hx)) (by omega)), fun ac12 wd12 FF12 MM12 => then_n ?_⟩))
      have hcl := qcar_le M N i
      have hw := add_word M N i
      have hy := add_carry M N i
      rw [← hcc] at hw hy
      refine rg_seq FF12 MM12 [o_, o_, o_, o_, w_ 1, l_ 0 (.int .u64 (qd M i : Nat)), o_, o_, f_ (.tuple #[.int .u64 (((qd M i) + (qd N i) + cc) % 18446744073709551616 : Nat), .int .u64 (((qd M i) + (qd N i) + cc) / 18446744073709551616 : Nat)]), o_, t_ (.int .u64 (qd (M + N) i : Nat)), t_ (.int .u64 (qcarB M N (i + 1) : Nat)), w_ 1, s_ 0 (.cells ((cn .u64 (adL (qsz N) M N (i + 1))) ++ rs) 22), o_] [7, 6, 23, 22, 21, 5, 0, 4, 1] (fun Kt => i < (qsz N) ∧ rg4 = rg4 ∧ ((cn .u64 (adL (qsz N) M N i)) ++ rs)[i]? = some (.int .u64 (qd M i : Nat)) ∧ RunV Tryd.prog [(36, .int .u64 (cc : Nat)), (35, .int .u64 (qd N i : Nat)), (34, .int .u64 (qd M i : Nat)), (33, .pointer (some ⟨rg4, i, none⟩)), (32, .int .i64 (i : Nat)), (31, .slice (some ⟨rg4, 0, none⟩) (qsz N) rc5), (30, .int .i64 (i : Nat)), (29, .slice (some ⟨rg4, 0, none⟩) (qsz N) rc5), (7, .int .u64 (qd N i : Nat)), (6, .int .i64 (i : Nat)), (23, .int .i64 (i : Nat)), (22, .int .i64 (qsz N : Nat)), (21, nv N y), (5, .int .u64 (cc : Nat)), (0, .slice (some ⟨rg4, 0, none⟩) (qsz N) rc5), (4, .slice none 0 0), (1, nv N y)] ((rg4, .cells ((cn .u64 (adL (qsz N) M N i)) ++ rs) 22) :: L) (opAt Tryd.f38 7 8) (.tuple #[.int .u64 (((qd M i) + (qd N i) + cc) % 18446744073709551616 : Nat), .int .u64 (((qd M i) + (qd N i) + cc) / 18446744073709551616 : Nat)]) ∧ Value.int .u64 (((qd M i) + (qd N i) + cc) % 18446744073709551616 : Nat) = .int .u64 (qd (M + N) i : Nat) ∧ Value.int .u64 (((qd M i) + (qd N i) + cc) / 18446744073709551616 : Nat) = .int .u64 (qcarB M N (i + 1) : Nat) ∧ i < (qsz N) ∧ rg4 = rg4 ∧ i < ((cn .u64 (adL (qsz N) M N i)) ++ rs).size ∧ (((0, 0)).2 = 0 ∨ i < ((0, 0)).1) ∧ ((cn .u64 (adL (qsz N) M N i)) ++ rs).setIfInBounds i (.int .u64 (qd (M + N) i : Nat)) = (cn .u64 (adL (qsz N) M N (i + 1))) ++ rs ∧ Kt [(5, .int .u64 (qcarB M N (i + 1) : Nat)), (7, .int .u64 (qd N i : Nat)), (6, .int .i64 (i : Nat)), (23, .int .i64 (i : Nat)), (22, .int .i64 (qsz N : Nat)), (21, nv N y), (0, .slice (some ⟨rg4, 0, none⟩) (qsz N) rc5), (4, .slice none 0 0), (1, nv N y)] ((rg4, .cells ((cn .u64 (adL (qsz N) M N (i + 1))) ++ rs) 22) :: L)) (by kernel_rfl) (fun _ => by kernel_rfl) (⟨(by omega), rfl, ((cat_l (by rw [cn_size, adL_len]; omega)).trans ((cn_get _ _ _ (by rw [adL_len]; omega)).trans (congrArg some (vI ((adL_get _ _ _ _ (by omega)).trans (if_neg (by omega))))))), (add64_ok (f := 49) (ts := #[22, 22, 22]) (x := (.tmp 34)) (y := (.tmp 35)) (z := (.tmp 36)) (by omega) (by kernel_rfl) rfl rfl rfl Tryd.func49 (by kernel_rfl) (by kernel_rfl) (by kernel_rfl) (by kernel_rfl)), (vI hw), (vI hy), (by omega), rfl, (by rw [hsz2]; omega), (.inl rfl), ((cat_set_l (by rw [cn_size, adL_len]; omega)).trans (congrArg (· ++ _) ((cn_set _ _ _ _).trans (congrArg _ (adL_step _ _ _ _ (by omega)))))), fun ac13 wd13 FF13 MM13 => ?_⟩)
      refine inb_n (then_n ?_)
      refine rg_seq FF13 MM13 [o_, o_] [5, 7, 6, 23, 22, 21, 0, 4, 1] (fun Kt => i + 1 < 9223372036854775808 ∧ Kt [(23, .int .i64 (i + 1 : Nat)), (5, .int .u64 (qcarB M N (i + 1) : Nat)), (7, .int .u64 (qd N i : Nat)), (6, .int .i64 (i : Nat)), (22, .int .i64 (qsz N : Nat)), (21, nv N y), (0, .slice (some ⟨rg4, 0, none⟩) (qsz N) rc5), (4, .slice none 0 0), (1, nv N y)] ((rg4, .cells ((cn .u64 (adL (qsz N) M N (i + 1))) ++ rs) 22) :: L)) (by kernel_rfl) (fun _ => by kernel_rfl) (⟨(by omega), fun ac14 wd14 FF14 MM14 => ?_⟩)
      have hd := cnt_of (FF14.get 0 rfl)
      refine then_n ⟨⟨i + 1, qcarB M N (i + 1), by omega, rfl, FF14.pick [0, 4, 5, 1, 6, 7, 8], MM14⟩, ?_⟩
      rw [hc, hd]; omega
    · skip
      refine then_n (.inr ⟨(FF11.ev 0 rfl).trans (dec_f hlt), ?_⟩)
      obtain rfl : i = qsz N := by omega
      refine then_n ?_
      refine wp_seq ?_
      refine wp_seq (rg_seq FF11 MM11 [o_, o_, o_] [23, 22, 21, 5, 0, 4, 1, 8] (fun Kt => Kt [(8, .int .i64 (qsz N : Nat)), (23, .int .i64 ((qsz N) : Nat)), (22, .int .i64 (qsz N : Nat)), (21, nv N y), (5, .int .u64 (cc : Nat)), (0, .slice (some ⟨rg4, 0, none⟩) (qsz N) rc5), (4, .slice none 0 0), (1, nv N y)] ((rg4, .cells ((cn .u64 (adL (qsz N) M N (qsz N))) ++ rs) 22) :: L)) (by kernel_rfl) (fun _ => by kernel_rfl) (fun ac15 wd15 FF15 MM15 => then_n ?_))
      refine wp_for2 (fun a' w' => ∃ i : Nat, ∃ cc : Nat, qsz N ≤ i ∧ i ≤ qsz N ∧ cc = qcarB M N i ∧ Fr 73 a' [(8, .int .i64 (i : Nat)), (23, .int .i64 ((qsz N) : Nat)), (22, .int .i64 (qsz N : Nat)), (21, nv N y), (5, .int .u64 (cc : Nat)), (0, .slice (some ⟨rg4, 0, none⟩) (qsz N) rc5), (4, .slice none 0 0), (1, nv N y)] ∧ MemS S w0 w' ((rg4, .cells ((cn .u64 (adL (qsz N) M N i)) ++ rs) 22) :: L) R) (fun a' _ => (qsz N - cnt 8 a').toNat) ⟨qsz N, cc, Nat.le_refl _, hnN, hcc, FF15.pick [0, 1, 2, 3, 4, 5, 6, 7], MM15⟩ ?_
      rintro ac16 wd16 ⟨i, cc, hi2, hi, hcc, FF16, MM16⟩
      have hc := cnt_of (FF16.get 0 rfl)
      by_cases h1 : cc > 0
      · by_cases h2 : i < qsz N
        · skip
          refine rg_seq FF16 MM16 [o_, w_ 2, o_, o_, o_, o_, w_ 2, o_] [8, 23, 22, 21, 5, 0, 4, 1, 51] (fun Kt => cc > 0 ∧ i < (qsz N) ∧ Kt [(51, .bool true), (8, .int .i64 (i : Nat)), (23, .int .i64 ((qsz N) : Nat)), (22, .int .i64 (qsz N : Nat)), (21, nv N y), (5, .int .u64 (cc : Nat)), (0, .slice (some ⟨rg4, 0, none⟩) (qsz N) rc5), (4, .slice none 0 0), (1, nv N y)] ((rg4, .cells ((cn .u64 (adL (qsz N) M N i)) ++ rs) 22) :: L)) (by kernel_rfl) (fun _ => by kernel_rfl) (⟨h1, h2, fun ac17 wd17 FF17 MM17 => ?_⟩)
          refine then_n (.inl ⟨FF17.ev 0 rfl, ?_⟩)
          have hcl := qcar_le M N i
          have hw := add_word M N i
          have hy := add_carry M N i
          rw [qd_out hi2, ← hcc] at hw hy
          refine rg_seq FF17 MM17 [o_, o_, o_, o_, w_ 1, l_ 0 (.int .u64 (qd M i : Nat)), o_, f_ (.tuple #[.int .u64 (((qd M i) + 0 + cc) % 18446744073709551616 : Nat), .int .u64 (((qd M i) + 0 + cc) / 18446744073709551616 : Nat)]), o_, t_ (.int .u64 (qd (M + N) i : Nat)), t_ (.int .u64 (qcarB M N (i + 1) : Nat)), w_ 1, s_ 0 (.cells ((cn .u64 (adL (qsz N) M N (i + 1))) ++ rs) 22), o_] [8, 23, 22, 21, 5, 0, 4, 1] (fun Kt => i < (qsz N) ∧ rg4 = rg4 ∧ ((cn .u64 (adL (qsz N) M N i)) ++ rs)[i]? = some (.int .u64 (qd M i : Nat)) ∧ RunV Tryd.prog [(61, .int .u64 (cc : Nat)), (60, .int .u64 (qd M i : Nat)), (59, .pointer (some ⟨rg4, i, none⟩)), (58, .int .i64 (i : Nat)), (57, .slice (some ⟨rg4, 0, none⟩) (qsz N) rc5), (56, .int .i64 (i : Nat)), (55, .slice (some ⟨rg4, 0, none⟩) (qsz N) rc5), (51, .bool true), (8, .int .i64 (i : Nat)), (23, .int .i64 ((qsz N) : Nat)), (22, .int .i64 (qsz N : Nat)), (21, nv N y), (5, .int .u64 (cc : Nat)), (0, .slice (some ⟨rg4, 0, none⟩) (qsz N) rc5), (4, .slice none 0 0), (1, nv N y)] ((rg4, .cells ((cn .u64 (adL (qsz N) M N i)) ++ rs) 22) :: L) (opAt Tryd.f38 12 7) (.tuple #[.int .u64 (((qd M i) + 0 + cc) % 18446744073709551616 : Nat), .int .u64 (((qd M i) + 0 + cc) / 18446744073709551616 : Nat)]) ∧ Value.int .u64 (((qd M i) + 0 + cc) % 18446744073709551616 : Nat) = .int .u64 (qd (M + N) i : Nat) ∧ Value.int .u64 (((qd M i) + 0 + cc) / 18446744073709551616 : Nat) = .int .u64 (qcarB M N (i + 1) : Nat) ∧ i < (qsz N) ∧ rg4 = rg4 ∧ i < ((cn .u64 (adL (qsz N) M N i)) ++ rs).size ∧ (((0, 0)).2 = 0 ∨ i < ((0, 0)).1) ∧ ((cn .u64 (adL (qsz N) M N i)) ++ rs).setIfInBounds i (.int .u64 (qd (M + N) i : Nat)) = (cn .u64 (adL (qsz N) M N (i + 1))) ++ rs ∧ Kt [(5, .int .u64 (qcarB M N (i + 1) : Nat)), (8, .int .i64 (i : Nat)), (23, .int .i64 ((qsz N) : Nat)), (22, .int .i64 (qsz N : Nat)), (21, nv N y), (0, .slice (some ⟨rg4, 0, none⟩) (qsz N) rc5), (4, .slice none 0 0), (1, nv N y)] ((rg4, .cells ((cn .u64 (adL (qsz N) M N (i + 1))) ++ rs) 22) :: L)) (by kernel_rfl) (fun _ => by kernel_rfl) (⟨(by omega), rfl, ((cat_l (by rw [cn_size, adL_len]; omega)).trans ((cn_get _ _ _ (by rw [adL_len]; omega)).trans (congrArg some (vI ((adL_get _ _ _ _ (by omega)).trans (if_neg (by omega))))))), (add64_ok (f := 49) (ts := #[22, 22, 22]) (x := (.tmp 60)) (y := (.const (.int .u64 (0 : Nat)))) (z := (.tmp 61)) (by omega) (by kernel_rfl) rfl rfl rfl Tryd.func49 (by kernel_rfl) (by kernel_rfl) (by kernel_rfl) (by kernel_rfl)), (vI hw), (vI hy), (by omega), rfl, (by rw [hsz2]; omega), (.inl rfl), ((cat_set_l (by rw [cn_size, adL_len]; omega)).trans (congrArg (· ++ _) ((cn_set _ _ _ _).trans (congrArg _ (adL_step _ _ _ _ (by omega)))))), fun ac18 wd18 FF18 MM18 => ?_⟩)
          refine inb_n (then_n ?_)
          refine rg_seq FF18 MM18 [o_, o_, o_] [5, 8, 23, 22, 21, 0, 4, 1] (fun Kt => i + 1 < 9223372036854775808 ∧ Kt [(8, .int .i64 (i + 1 : Nat)), (5, .int .u64 (qcarB M N (i + 1) : Nat)), (23, .int .i64 ((qsz N) : Nat)), (22, .int .i64 (qsz N : Nat)), (21, nv N y), (0, .slice (some ⟨rg4, 0, none⟩) (qsz N) rc5), (4, .slice none 0 0), (1, nv N y)] ((rg4, .cells ((cn .u64 (adL (qsz N) M N (i + 1))) ++ rs) 22) :: L)) (by kernel_rfl) (fun _ => by kernel_rfl) (⟨(by omega), fun ac19 wd19 FF19 MM19 => ?_⟩)
          have hd := cnt_of (FF19.get 0 rfl)
          refine then_n ⟨⟨i + 1, qcarB M N (i + 1), by omega, by omega, rfl, FF19.pick [0, 2, 3, 4, 1, 5, 6, 7], MM19⟩, ?_⟩
          rw [hc, hd]; omega
        · skip
          refine rg_seq FF16 MM16 [o_, w_ 2, o_, o_, o_, o_, w_ 3, o_] [8, 23, 22, 21, 5, 0, 4, 1, 51] (fun Kt => cc > 0 ∧ ¬ (i < (qsz N)) ∧ Kt [(51, .bool false), (8, .int .i64 (i : Nat)), (23, .int .i64 ((qsz N) : Nat)), (22, .int .i64 (qsz N : Nat)), (21, nv N y), (5, .int .u64 (cc : Nat)), (0, .slice (some ⟨rg4, 0, none⟩) (qsz N) rc5), (4, .slice none 0 0), (1, nv N y)] ((rg4, .cells ((cn .u64 (adL (qsz N) M N i)) ++ rs) 22) :: L)) (by kernel_rfl) (fun _ => by kernel_rfl) (⟨h1, h2, fun ac20 wd20 FF20 MM20 => ?_⟩)
          refine then_n (.inr ⟨FF20.ev 0 rfl, ?_⟩)
          obtain rfl : i = qsz N := by omega
          have hsz1 := add_size1 hnM hnN (hcc ▸ h1)
          have hrow : qleB (qsz N) (M + N) ++ [cc] = qminB (M + N) := by rw [hcc]; exact add_row1 hsz1
          have hfin := add_fin1 (qsz N) M N
          have MMt := MemS.thawW (X := qleB (qsz N) (M + N)) (m := qsz N) (cap := rc5) (by rw [← hfin]; exact MM20) hg (qleB_len _ _) hcap hmx (by rw [← hfin]; exact hsz2 _)
          refine then_n ?_
          refine wp_seq ?_
          refine wp_seq (rg_seq FF20 MMt [o_, w_ 2] [8, 23, 22, 21, 5, 0, 4, 1, 67] (fun Kt => cc > 0 ∧ Kt [(67, .bool true), (8, .int .i64 ((qsz N) : Nat)), (23, .int .i64 ((qsz N) : Nat)), (22, .int .i64 (qsz N : Nat)), (21, nv N y), (5, .int .u64 (cc : Nat)), (0, .slice (some ⟨rg4, 0, none⟩) (qsz N) rc5), (4, .slice none 0 0), (1, nv N y)] L) (by kernel_rfl) (fun _ => by kernel_rfl) (⟨h1, fun ac21 wd21 FF21 MM21 => then_n ?_⟩))
          refine wp_cond_true (FF21.ev 0 rfl) ?_
          refine wp_region_list ?_
          refine rg_part 3 FF21 MM21 [o_, o_, o_] [8, 23, 22, 21, 5, 0, 4, 1, 68, 70] (fun Kt => ∀ bq, Kt [(70, .slice (some ⟨bq, 0, none⟩) 1 1), (68, .slice (some ⟨rg4, 0, none⟩) (qsz N) rc5), (8, .int .i64 ((qsz N) : Nat)), (23, .int .i64 ((qsz N) : Nat)), (22, .int .i64 (qsz N : Nat)), (21, nv N y), (5, .int .u64 (cc : Nat)), (0, .slice (some ⟨rg4, 0, none⟩) (qsz N) rc5), (4, .slice none 0 0), (1, nv N y)] ((bq, .cells (cn .u64 [cc]) 22) :: L)) (by kernel_rfl) (fun _ => by kernel_rfl) (fun bq => fun ac22 wd22 FF22 MM22 => ?_)
          refine st_app [8, 23, 22, 21, 5, 0, 4, 1, 71] FF22 MM22 (d := 71) (s := 68) (x := 70) (Y := (wc [cc])) (z := .int .u64 (0 : Nat)) (bb := 8) rfl rfl rfl rfl (lies_cn64 (MM22.get 0 rfl)) (wc_one _) (by decide) Tryd.underlying25 (by kernel_rfl) rfl (by decide) (by simp only [maxLen]; omega) (by omega) rfl rfl (by decide) fun ac24 wd24 rv23 (FF24 : Fr 73 ac24 [(71, rv23), (8, .int .i64 ((qsz N) : Nat)), (23, .int .i64 ((qsz N) : Nat)), (22, .int .i64 (qsz N : Nat)), (21, nv N y), (5, .int .u64 (cc : Nat)), (0, .slice (some ⟨rg4, 0, none⟩) (qsz N) rc5), (4, .slice none 0 0), (1, nv N y)]) (MM24 : MemS S w0 wd24 ((bq, .cells (cn .u64 [cc]) 22) :: L) ((rv23, 22, 1, ((qsz N) + 1), ((wc (qleB (qsz N) (M + N))) ++ (wc [cc]))) :: R)) => ?_
          have MMa : MemS S w0 wd24 ((bq, .cells (cn .u64 [cc]) 22) :: L) ((rv23, 22, 1, (qsz (M + N)), (wc (qminB (M + N)))) :: R) := by have h9 := MM24; rw [wc_app, hrow, hsz1.1] at h9; exact h9
          refine rg_part 1 FF24 MMa [o_] [8, 23, 22, 21, 5, 0, 4, 1] (fun Kt => Kt [(0, rv23), (8, .int .i64 ((qsz N) : Nat)), (23, .int .i64 ((qsz N) : Nat)), (22, .int .i64 (qsz N : Nat)), (21, nv N y), (5, .int .u64 (cc : Nat)), (4, .slice none 0 0), (1, nv N y)] ((bq, .cells (cn .u64 [cc]) 22) :: L)) (by kernel_rfl) (fun _ => by kernel_rfl) (fun ac25 wd25 FF25 MM25 => ?_)
          refine wpl_nil ?_
          refine then_n ?_
          refine wp_seq (rg_seq FF25 MM25 [o_, o_] [0, 8, 23, 22, 21, 5, 4, 1] (fun Kt => Kt [(4, rv23), (0, rv23), (8, .int .i64 ((qsz N) : Nat)), (23, .int .i64 ((qsz N) : Nat)), (22, .int .i64 (qsz N : Nat)), (21, nv N y), (5, .int .u64 (cc : Nat)), (1, nv N y)] ((bq, .cells (cn .u64 [cc]) 22) :: L)) (by kernel_rfl) (fun _ => by kernel_rfl) (fun ac26 wd26 FF26 MM26 => then_n ?_))
          refine wp_ret ?_
          repeat first | refine then_ret ?_ | refine inb_ret ?_
          exact (ret_fr FF26 0 Tryd.results38 rfl (by obtain ⟨p9, c9, rfl, _⟩ := MM26.rowLen; exact ⟨p9, c9, rfl, (MM26.dropAt 0)⟩))
      · skip
        refine rg_seq FF16 MM16 [o_, w_ 3, o_, o_, o_, o_, o_, o_] [8, 23, 22, 21, 5, 0, 4, 1, 51] (fun Kt => ¬ (cc > 0) ∧ Kt [(51, .bool false), (8, .int .i64 (i : Nat)), (23, .int .i64 ((qsz N) : Nat)), (22, .int .i64 (qsz N : Nat)), (21, nv N y), (5, .int .u64 (cc : Nat)), (0, .slice (some ⟨rg4, 0, none⟩) (qsz N) rc5), (4, .slice none 0 0), (1, nv N y)] ((rg4, .cells ((cn .u64 (adL (qsz N) M N i)) ++ rs) 22) :: L)) (by kernel_rfl) (fun _ => by kernel_rfl) (⟨h1, fun ac27 wd27 FF27 MM27 => ?_⟩)
        refine then_n (.inr ⟨FF27.ev 0 rfl, ?_⟩)
        obtain ⟨hfin, hlt2⟩ := add_fin0 hi2 hi hnM (by omega)
        have hsz1 := add_size0 hn0 hlt2
        have MMt := MemS.thawW (X := qleB (qsz N) (M + N)) (m := qsz N) (cap := rc5) (by rw [← hfin]; exact MM27) hg (qleB_len _ _) hcap hmx (by rw [← hfin]; exact hsz2 _)
        refine then_n ?_
        refine wp_seq ?_
        refine wp_seq (rg_seq FF27 MMt [o_, w_ 3] [8, 23, 22, 21, 5, 0, 4, 1, 67] (fun Kt => ¬ (cc > 0) ∧ Kt [(67, .bool false), (8, .int .i64 (i : Nat)), (23, .int .i64 ((qsz N) : Nat)), (22, .int .i64 (qsz N : Nat)), (21, nv N y), (5, .int .u64 (cc : Nat)), (0, .slice (some ⟨rg4, 0, none⟩) (qsz N) rc5), (4, .slice none 0 0), (1, nv N y)] L) (by kernel_rfl) (fun _ => by kernel_rfl) (⟨h1, fun ac28 wd28 FF28 MM28 => then_n ?_⟩))
        refine wp_cond_false (FF28.ev 0 rfl) ?_
        refine wp_skip ?_
        refine then_n ?_
        refine wp_seq (rg_seq FF28 MM28 [o_, o_] [8, 23, 22, 21, 5, 0, 4, 1] (fun Kt => Kt [(4, .slice (some ⟨rg4, 0, none⟩) (qsz N) rc5), (8, .int .i64 (i : Nat)), (23, .int .i64 ((qsz N) : Nat)), (22, .int .i64 (qsz N : Nat)), (21, nv N y), (5, .int .u64 (cc : Nat)), (0, .slice (some ⟨rg4, 0, none⟩) (qsz N) rc5), (1, nv N y)] L) (by kernel_rfl) (fun _ => by kernel_rfl) (fun ac29 wd29 FF29 MM29 => then_n ?_))
        refine wp_ret ?_
        repeat first | refine then_ret ?_ | refine inb_ret ?_
        exact (ret_fr FF29 0 Tryd.results38 rfl (by have h9 := MM29; rw [hsz1, show qleB (qsz (M + N)) (M + N) = qminB (M + N) from rfl] at h9; exact ⟨_, _, congrArg Ending.returned (by rw [hsz1]), h9⟩))
  · refine wp_cond_false ((FF2.ev 0 rfl).trans (dec_f hs13)) ?_
    obtain ⟨g, rfl⟩ := MM.rowSome (by omega)
    obtain ⟨rs, MMz, hg, hcap, hmx, hsz, hlen⟩ := MemS.freezeW (X := qleB (qsz M) M) MM2
    have MMy : MemS S w0 wd2 ((g, .cells ((cn .u64 (adL (qsz M) M N 0)) ++ rs) 22) :: L) R := by rw [adL_zero]; exact MMz
    have hsz2 : ∀ i, (cn .u64 (adL (qsz M) M N i) ++ rs).size = c := fun i => by rw [Array.size_append, cn_size, adL_len]; rw [Array.size_append, cn_size, qleB_len] at hsz; exact hsz
    have hnM : qsz M ≤ qsz M := by omega
    have hnN : qsz N ≤ qsz M := by omega
    have hn0 : qsz M = qsz M ∨ qsz M = qsz N := by first | exact .inl rfl | exact .inr rfl
    refine wp_skip ?_
    refine then_n ?_
    refine wp_seq (rg_seq FF2 MMy [o_] [4, 0, 1, 5] (fun Kt => Kt [(5, .int .u64 (0 : Nat)), (4, .slice none 0 0), (0, .slice (some ⟨g, 0, none⟩) (qsz M) c), (1, nv N y)] ((g, .cells ((cn .u64 (adL (qsz M) M N 0)) ++ rs) 22) :: L)) (by kernel_rfl) (fun _ => by kernel_rfl) (fun ac30 wd30 FF30 MM30 => then_n ?_))
    refine wp_seq ?_
    refine wp_seq (rg_seq FF30 MM30 [o_, o_, o_] [5, 4, 0, 1, 21, 22, 23] (fun Kt => Kt [(23, .int .i64 (0 : Nat)), (22, .int .i64 (qsz N : Nat)), (21, nv N y), (5, .int .u64 (0 : Nat)), (4, .slice none 0 0), (0, .slice (some ⟨g, 0, none⟩) (qsz M) c), (1, nv N y)] ((g, .cells ((cn .u64 (adL (qsz M) M N 0)) ++ rs) 22) :: L)) (by kernel_rfl) (fun _ => by kernel_rfl) (fun ac31 wd31 FF31 MM31 => then_n ?_))
    refine wp_for (fun a' w' => ∃ i : Nat, ∃ cc : Nat, i ≤ qsz N ∧ cc = qcarB M N i ∧ Fr 73 a' [(23, .int .i64 (i : Nat)), (22, .int .i64 (qsz N : Nat)), (21, nv N y), (5, .int .u64 (cc : Nat)), (4, .slice none 0 0), (0, .slice (some ⟨g, 0, none⟩) (qsz M) c), (1, nv N y)] ∧ MemS S w0 w' ((g, .cells ((cn .u64 (adL (qsz M) M N i)) ++ rs) 22) :: L) R) (fun a' _ => (qsz N - cnt 23 a').toNat) ⟨0, 0, by omega, (qcar_zero M N).symm, FF31.pick [0, 1, 2, 3, 4, 5, 6], MM31⟩ ?_
    rintro ac32 wd32 ⟨i, cc, hi, hcc, FF32, MM32⟩
    have hc := cnt_of (FF32.get 0 rfl)
    refine rg_seq FF32 MM32 [o_] [23, 22, 21, 5, 4, 0, 1, 24] (fun Kt => Kt [(24, .bool (decide (i < (qsz N)))), (23, .int .i64 (i : Nat)), (22, .int .i64 (qsz N : Nat)), (21, nv N y), (5, .int .u64 (cc : Nat)), (4, .slice none 0 0), (0, .slice (some ⟨g, 0, none⟩) (qsz M) c), (1, nv N y)] ((g, .cells ((cn .u64 (adL (qsz M) M N i)) ++ rs) 22) :: L)) (by kernel_rfl) (fun _ => by kernel_rfl) (fun ac33 wd33 FF33 MM33 => ?_)
    by_cases hlt : i < (qsz N)
    · skip
      refine then_n (.inl ⟨(FF33.ev 0 rfl).trans (dec_t hlt), ?_⟩)
      refine wp_seq (rg_seq FF33 MM33 [o_, f_ (.pointer (some ⟨gOf (pOf y), i, none⟩)), f_ (.int .u64 (qd N i : Nat)), o_, o_] [23, 22, 21, 5, 4, 0, 1, 6, 7] (fun Kt => RunV Tryd.prog [(25, .int .i64 (i : Nat)), (24, .bool (decide (i < (qsz N)))), (23, .int .i64 (i : Nat)), (22, .int .i64 (qsz N : Nat)), (21, nv N y), (5, .int .u64 (cc : Nat)), (4, .slice none 0 0), (0, .slice (some ⟨g, 0, none⟩) (qsz M) c), (1, nv N y)] ((g, .cells ((cn .u64 (adL (qsz M) M N i)) ++ rs) 22) :: L) (opAt Tryd.f38 6 1) (.pointer (some ⟨gOf (pOf y), i, none⟩)) ∧ RunV Tryd.prog [(26, .pointer (some ⟨gOf (pOf y), i, none⟩)), (25, .int .i64 (i : Nat)), (24, .bool (decide (i < (qsz N)))), (23, .int .i64 (i : Nat)), (22, .int .i64 (qsz N : Nat)), (21, nv N y), (5, .int .u64 (cc : Nat)), (4, .slice none 0 0), (0, .slice (some ⟨g, 0, none⟩) (qsz M) c), (1, nv N y)] ((g, .cells ((cn .u64 (adL (qsz M) M N i)) ++ rs) 22) :: L) (opAt Tryd.f38 6 2) (.int .u64 (qd N i : Nat)) ∧ Kt [(7, .int .u64 (qd N i : Nat)), (6, .int .i64 (i : Nat)), (23, .int .i64 (i : Nat)), (22, .int .i64 (qsz N : Nat)), (21, nv N y), (5, .int .u64 (cc : Nat)), (4, .slice none 0 0), (0, .slice (some ⟨g, 0, none⟩) (qsz M) c), (1, nv N y)] ((g, .cells ((cn .u64 (adL (qsz M) M N i)) ++ rs) 22) :: L)) (by kernel_rfl) (fun _ => by kernel_rfl) (⟨(rowAddr_ok (x := (.tmp 21)) (y := (.tmp 23)) (by kernel_rfl) rfl rfl Tryd.underlying25 (by kernel_rfl) (natO_cells hN) (by omega)), (rowLoad_ok (x := (.tmp 26)) (i := i) (by kernel_rfl) rfl Tryd.underlying22 rfl (natO_cells hN) (fun _ hx => List.mem_cons_of_mem _ (hx)) (by omega)), fun ac34 wd34 FF34 MM34 => then_n ?_⟩))
      have hcl := qcar_le M N i
      have hw := add_word M N i
      have hy := add_carry M N i
      rw [← hcc] at hw hy
      refine rg_seq FF34 MM34 [o_, o_, o_, o_, w_ 1, l_ 0 (.int .u64 (qd M i : Nat)), o_, o_, f_ (.tuple #[.int .u64 (((qd M i) + (qd N i) + cc) % 18446744073709551616 : Nat), .int .u64 (((qd M i) + (qd N i) + cc) / 18446744073709551616 : Nat)]), o_, t_ (.int .u64 (qd (M + N) i : Nat)), t_ (.int .u64 (qcarB M N (i + 1) : Nat)), w_ 1, s_ 0 (.cells ((cn .u64 (adL (qsz M) M N (i + 1))) ++ rs) 22), o_] [7, 6, 23, 22, 21, 5, 4, 0, 1] (fun Kt => i < (qsz M) ∧ g = g ∧ ((cn .u64 (adL (qsz M) M N i)) ++ rs)[i]? = some (.int .u64 (qd M i : Nat)) ∧ RunV Tryd.prog [(36, .int .u64 (cc : Nat)), (35, .int .u64 (qd N i : Nat)), (34, .int .u64 (qd M i : Nat)), (33, .pointer (some ⟨g, i, none⟩)), (32, .int .i64 (i : Nat)), (31, .slice (some ⟨g, 0, none⟩) (qsz M) c), (30, .int .i64 (i : Nat)), (29, .slice (some ⟨g, 0, none⟩) (qsz M) c), (7, .int .u64 (qd N i : Nat)), (6, .int .i64 (i : Nat)), (23, .int .i64 (i : Nat)), (22, .int .i64 (qsz N : Nat)), (21, nv N y), (5, .int .u64 (cc : Nat)), (4, .slice none 0 0), (0, .slice (some ⟨g, 0, none⟩) (qsz M) c), (1, nv N y)] ((g, .cells ((cn .u64 (adL (qsz M) M N i)) ++ rs) 22) :: L) (opAt Tryd.f38 7 8) (.tuple #[.int .u64 (((qd M i) + (qd N i) + cc) % 18446744073709551616 : Nat), .int .u64 (((qd M i) + (qd N i) + cc) / 18446744073709551616 : Nat)]) ∧ Value.int .u64 (((qd M i) + (qd N i) + cc) % 18446744073709551616 : Nat) = .int .u64 (qd (M + N) i : Nat) ∧ Value.int .u64 (((qd M i) + (qd N i) + cc) / 18446744073709551616 : Nat) = .int .u64 (qcarB M N (i + 1) : Nat) ∧ i < (qsz M) ∧ g = g ∧ i < ((cn .u64 (adL (qsz M) M N i)) ++ rs).size ∧ (((0, 0)).2 = 0 ∨ i < ((0, 0)).1) ∧ ((cn .u64 (adL (qsz M) M N i)) ++ rs).setIfInBounds i (.int .u64 (qd (M + N) i : Nat)) = (cn .u64 (adL (qsz M) M N (i + 1))) ++ rs ∧ Kt [(5, .int .u64 (qcarB M N (i + 1) : Nat)), (7, .int .u64 (qd N i : Nat)), (6, .int .i64 (i : Nat)), (23, .int .i64 (i : Nat)), (22, .int .i64 (qsz N : Nat)), (21, nv N y), (4, .slice none 0 0), (0, .slice (some ⟨g, 0, none⟩) (qsz M) c), (1, nv N y)] ((g, .cells ((cn .u64 (adL (qsz M) M N (i + 1))) ++ rs) 22) :: L)) (by kernel_rfl) (fun _ => by kernel_rfl) (⟨(by omega), rfl, ((cat_l (by rw [cn_size, adL_len]; omega)).trans ((cn_get _ _ _ (by rw [adL_len]; omega)).trans (congrArg some (vI ((adL_get _ _ _ _ (by omega)).trans (if_neg (by omega))))))), (add64_ok (f := 49) (ts := #[22, 22, 22]) (x := (.tmp 34)) (y := (.tmp 35)) (z := (.tmp 36)) (by omega) (by kernel_rfl) rfl rfl rfl Tryd.func49 (by kernel_rfl) (by kernel_rfl) (by kernel_rfl) (by kernel_rfl)), (vI hw), (vI hy), (by omega), rfl, (by rw [hsz2]; omega), (.inl rfl), ((cat_set_l (by rw [cn_size, adL_len]; omega)).trans (congrArg (· ++ _) ((cn_set _ _ _ _).trans (congrArg _ (adL_step _ _ _ _ (by omega)))))), fun ac35 wd35 FF35 MM35 => ?_⟩)
      refine inb_n (then_n ?_)
      refine rg_seq FF35 MM35 [o_, o_] [5, 7, 6, 23, 22, 21, 4, 0, 1] (fun Kt => i + 1 < 9223372036854775808 ∧ Kt [(23, .int .i64 (i + 1 : Nat)), (5, .int .u64 (qcarB M N (i + 1) : Nat)), (7, .int .u64 (qd N i : Nat)), (6, .int .i64 (i : Nat)), (22, .int .i64 (qsz N : Nat)), (21, nv N y), (4, .slice none 0 0), (0, .slice (some ⟨g, 0, none⟩) (qsz M) c), (1, nv N y)] ((g, .cells ((cn .u64 (adL (qsz M) M N (i + 1))) ++ rs) 22) :: L)) (by kernel_rfl) (fun _ => by kernel_rfl) (⟨(by omega), fun ac36 wd36 FF36 MM36 => ?_⟩)
      have hd := cnt_of (FF36.get 0 rfl)
      refine then_n ⟨⟨i + 1, qcarB M N (i + 1), by omega, rfl, FF36.pick [0, 4, 5, 1, 6, 7, 8], MM36⟩, ?_⟩
      rw [hc, hd]; omega
    · skip
      refine then_n (.inr ⟨(FF33.ev 0 rfl).trans (dec_f hlt), ?_⟩)
      obtain rfl : i = qsz N := by omega
      refine then_n ?_
      refine wp_seq ?_
      refine wp_seq (rg_seq FF33 MM33 [o_, o_, o_] [23, 22, 21, 5, 4, 0, 1, 8] (fun Kt => Kt [(8, .int .i64 (qsz N : Nat)), (23, .int .i64 ((qsz N) : Nat)), (22, .int .i64 (qsz N : Nat)), (21, nv N y), (5, .int .u64 (cc : Nat)), (4, .slice none 0 0), (0, .slice (some ⟨g, 0, none⟩) (qsz M) c), (1, nv N y)] ((g, .cells ((cn .u64 (adL (qsz M) M N (qsz N))) ++ rs) 22) :: L)) (by kernel_rfl) (fun _ => by kernel_rfl) (fun ac37 wd37 FF37 MM37 => then_n ?_))
      refine wp_for2 (fun a' w' => ∃ i : Nat, ∃ cc : Nat, qsz N ≤ i ∧ i ≤ qsz M ∧ cc = qcarB M N i ∧ Fr 73 a' [(8, .int .i64 (i : Nat)), (23, .int .i64 ((qsz N) : Nat)), (22, .int .i64 (qsz N : Nat)), (21, nv N y), (5, .int .u64 (cc : Nat)), (4, .slice none 0 0), (0, .slice (some ⟨g, 0, none⟩) (qsz M) c), (1, nv N y)] ∧ MemS S w0 w' ((g, .cells ((cn .u64 (adL (qsz M) M N i)) ++ rs) 22) :: L) R) (fun a' _ => (qsz M - cnt 8 a').toNat) ⟨qsz N, cc, Nat.le_refl _, hnN, hcc, FF37.pick [0, 1, 2, 3, 4, 5, 6, 7], MM37⟩ ?_
      rintro ac38 wd38 ⟨i, cc, hi2, hi, hcc, FF38, MM38⟩
      have hc := cnt_of (FF38.get 0 rfl)
      by_cases h1 : cc > 0
      · by_cases h2 : i < qsz M
        · skip
          refine rg_seq FF38 MM38 [o_, w_ 2, o_, o_, o_, o_, w_ 2, o_] [8, 23, 22, 21, 5, 4, 0, 1, 51] (fun Kt => cc > 0 ∧ i < (qsz M) ∧ Kt [(51, .bool true), (8, .int .i64 (i : Nat)), (23, .int .i64 ((qsz N) : Nat)), (22, .int .i64 (qsz N : Nat)), (21, nv N y), (5, .int .u64 (cc : Nat)), (4, .slice none 0 0), (0, .slice (some ⟨g, 0, none⟩) (qsz M) c), (1, nv N y)] ((g, .cells ((cn .u64 (adL (qsz M) M N i)) ++ rs) 22) :: L)) (by kernel_rfl) (fun _ => by kernel_rfl) (⟨h1, h2, fun ac39 wd39 FF39 MM39 => ?_⟩)
          refine then_n (.inl ⟨FF39.ev 0 rfl, ?_⟩)
          have hcl := qcar_le M N i
          have hw := add_word M N i
          have hy := add_carry M N i
          rw [qd_out hi2, ← hcc] at hw hy
          refine rg_seq FF39 MM39 [o_, o_, o_, o_, w_ 1, l_ 0 (.int .u64 (qd M i : Nat)), o_, f_ (.tuple #[.int .u64 (((qd M i) + 0 + cc) % 18446744073709551616 : Nat), .int .u64 (((qd M i) + 0 + cc) / 18446744073709551616 : Nat)]), o_, t_ (.int .u64 (qd (M + N) i : Nat)), t_ (.int .u64 (qcarB M N (i + 1) : Nat)), w_ 1, s_ 0 (.cells ((cn .u64 (adL (qsz M) M N (i + 1))) ++ rs) 22), o_] [8, 23, 22, 21, 5, 4, 0, 1] (fun Kt => i < (qsz M) ∧ g = g ∧ ((cn .u64 (adL (qsz M) M N i)) ++ rs)[i]? = some (.int .u64 (qd M i : Nat)) ∧ RunV Tryd.prog [(61, .int .u64 (cc : Nat)), (60, .int .u64 (qd M i : Nat)), (59, .pointer (some ⟨g, i, none⟩)), (58, .int .i64 (i : Nat)), (57, .slice (some ⟨g, 0, none⟩) (qsz M) c), (56, .int .i64 (i : Nat)), (55, .slice (some ⟨g, 0, none⟩) (qsz M) c), (51, .bool true), (8, .int .i64 (i : Nat)), (23, .int .i64 ((qsz N) : Nat)), (22, .int .i64 (qsz N : Nat)), (21, nv N y), (5, .int .u64 (cc : Nat)), (4, .slice none 0 0), (0, .slice (some ⟨g, 0, none⟩) (qsz M) c), (1, nv N y)] ((g, .cells ((cn .u64 (adL (qsz M) M N i)) ++ rs) 22) :: L) (opAt Tryd.f38 12 7) (.tuple #[.int .u64 (((qd M i) + 0 + cc) % 18446744073709551616 : Nat), .int .u64 (((qd M i) + 0 + cc) / 18446744073709551616 : Nat)]) ∧ Value.int .u64 (((qd M i) + 0 + cc) % 18446744073709551616 : Nat) = .int .u64 (qd (M + N) i : Nat) ∧ Value.int .u64 (((qd M i) + 0 + cc) / 18446744073709551616 : Nat) = .int .u64 (qcarB M N (i + 1) : Nat) ∧ i < (qsz M) ∧ g = g ∧ i < ((cn .u64 (adL (qsz M) M N i)) ++ rs).size ∧ (((0, 0)).2 = 0 ∨ i < ((0, 0)).1) ∧ ((cn .u64 (adL (qsz M) M N i)) ++ rs).setIfInBounds i (.int .u64 (qd (M + N) i : Nat)) = (cn .u64 (adL (qsz M) M N (i + 1))) ++ rs ∧ Kt [(5, .int .u64 (qcarB M N (i + 1) : Nat)), (8, .int .i64 (i : Nat)), (23, .int .i64 ((qsz N) : Nat)), (22, .int .i64 (qsz N : Nat)), (21, nv N y), (4, .slice none 0 0), (0, .slice (some ⟨g, 0, none⟩) (qsz M) c), (1, nv N y)] ((g, .cells ((cn .u64 (adL (qsz M) M N (i + 1))) ++ rs) 22) :: L)) (by kernel_rfl) (fun _ => by kernel_rfl) (⟨(by omega), rfl, ((cat_l (by rw [cn_size, adL_len]; omega)).trans ((cn_get _ _ _ (by rw [adL_len]; omega)).trans (congrArg some (vI ((adL_get _ _ _ _ (by omega)).trans (if_neg (by omega))))))), (add64_ok (f := 49) (ts := #[22, 22, 22]) (x := (.tmp 60)) (y := (.const (.int .u64 (0 : Nat)))) (z := (.tmp 61)) (by omega) (by kernel_rfl) rfl rfl rfl Tryd.func49 (by kernel_rfl) (by kernel_rfl) (by kernel_rfl) (by kernel_rfl)), (vI hw), (vI hy), (by omega), rfl, (by rw [hsz2]; omega), (.inl rfl), ((cat_set_l (by rw [cn_size, adL_len]; omega)).trans (congrArg (· ++ _) ((cn_set _ _ _ _).trans (congrArg _ (adL_step _ _ _ _ (by omega)))))), fun ac40 wd40 FF40 MM40 => ?_⟩)
          refine inb_n (then_n ?_)
          refine rg_seq FF40 MM40 [o_, o_, o_] [5, 8, 23, 22, 21, 4, 0, 1] (fun Kt => i + 1 < 9223372036854775808 ∧ Kt [(8, .int .i64 (i + 1 : Nat)), (5, .int .u64 (qcarB M N (i + 1) : Nat)), (23, .int .i64 ((qsz N) : Nat)), (22, .int .i64 (qsz N : Nat)), (21, nv N y), (4, .slice none 0 0), (0, .slice (some ⟨g, 0, none⟩) (qsz M) c), (1, nv N y)] ((g, .cells ((cn .u64 (adL (qsz M) M N (i + 1))) ++ rs) 22) :: L)) (by kernel_rfl) (fun _ => by kernel_rfl) (⟨(by omega), fun ac41 wd41 FF41 MM41 => ?_⟩)
          have hd := cnt_of (FF41.get 0 rfl)
          refine then_n ⟨⟨i + 1, qcarB M N (i + 1), by omega, by omega, rfl, FF41.pick [0, 2, 3, 4, 1, 5, 6, 7], MM41⟩, ?_⟩
          rw [hc, hd]; omega
        · skip
          refine rg_seq FF38 MM38 [o_, w_ 2, o_, o_, o_, o_, w_ 3, o_] [8, 23, 22, 21, 5, 4, 0, 1, 51] (fun Kt => cc > 0 ∧ ¬ (i < (qsz M)) ∧ Kt [(51, .bool false), (8, .int .i64 (i : Nat)), (23, .int .i64 ((qsz N) : Nat)), (22, .int .i64 (qsz N : Nat)), (21, nv N y), (5, .int .u64 (cc : Nat)), (4, .slice none 0 0), (0, .slice (some ⟨g, 0, none⟩) (qsz M) c), (1, nv N y)] ((g, .cells ((cn .u64 (adL (qsz M) M N i)) ++ rs) 22) :: L)) (by kernel_rfl) (fun _ => by kernel_rfl) (⟨h1, h2, fun ac42 wd42 FF42 MM42 => ?_⟩)
          refine then_n (.inr ⟨FF42.ev 0 rfl, ?_⟩)
          obtain rfl : i = qsz M := by omega
          have hsz1 := add_size1 hnM hnN (hcc ▸ h1)
          have hrow : qleB (qsz M) (M + N) ++ [cc] = qminB (M + N) := by rw [hcc]; exact add_row1 hsz1
          have hfin := add_fin1 (qsz M) M N
          have MMt := MemS.thawW (X := qleB (qsz M) (M + N)) (m := qsz M) (cap := c) (by rw [← hfin]; exact MM42) hg (qleB_len _ _) hcap hmx (by rw [← hfin]; exact hsz2 _)
          refine then_n ?_
          refine wp_seq ?_
          refine wp_seq (rg_seq FF42 MMt [o_, w_ 2] [8, 23, 22, 21, 5, 4, 0, 1, 67] (fun Kt => cc > 0 ∧ Kt [(67, .bool true), (8, .int .i64 ((qsz M) : Nat)), (23, .int .i64 ((qsz N) : Nat)), (22, .int .i64 (qsz N : Nat)), (21, nv N y), (5, .int .u64 (cc : Nat)), (4, .slice none 0 0), (0, .slice (some ⟨g, 0, none⟩) (qsz M) c), (1, nv N y)] L) (by kernel_rfl) (fun _ => by kernel_rfl) (⟨h1, fun ac43 wd43 FF43 MM43 => then_n ?_⟩))
          refine wp_cond_true (FF43.ev 0 rfl) ?_
          refine wp_region_list ?_
          refine rg_part 3 FF43 MM43 [o_, o_, o_] [8, 23, 22, 21, 5, 4, 0, 1, 68, 70] (fun Kt => ∀ bq, Kt [(70, .slice (some ⟨bq, 0, none⟩) 1 1), (68, .slice (some ⟨g, 0, none⟩) (qsz M) c), (8, .int .i64 ((qsz M) : Nat)), (23, .int .i64 ((qsz N) : Nat)), (22, .int .i64 (qsz N : Nat)), (21, nv N y), (5, .int .u64 (cc : Nat)), (4, .slice none 0 0), (0, .slice (some ⟨g, 0, none⟩) (qsz M) c), (1, nv N y)] ((bq, .cells (cn .u64 [cc]) 22) :: L)) (by kernel_rfl) (fun _ => by kernel_rfl) (fun bq => fun ac44 wd44 FF44 MM44 => ?_)
          refine st_app [8, 23, 22, 21, 5, 4, 0, 1, 71] FF44 MM44 (d := 71) (s := 68) (x := 70) (Y := (wc [cc])) (z := .int .u64 (0 : Nat)) (bb := 8) rfl rfl rfl rfl (lies_cn64 (MM44.get 0 rfl)) (wc_one _) (by decide) Tryd.underlying25 (by kernel_rfl) rfl (by decide) (by simp only [maxLen]; omega) (by omega) rfl rfl (by decide) fun ac46 wd46 rv45 (FF46 : Fr 73 ac46 [(71, rv45), (8, .int .i64 ((qsz M) : Nat)), (23, .int .i64 ((qsz N) : Nat)), (22, .int .i64 (qsz N : Nat)), (21, nv N y), (5, .int .u64 (cc : Nat)), (4, .slice none 0 0), (0, .slice (some ⟨g, 0, none⟩) (qsz M) c), (1, nv N y)]) (MM46 : MemS S w0 wd46 ((bq, .cells (cn .u64 [cc]) 22) :: L) ((rv45, 22, 1, ((qsz M) + 1), ((wc (qleB (qsz M) (M + N))) ++ (wc [cc]))) :: R)) => ?_
          have MMa : MemS S w0 wd46 ((bq, .cells (cn .u64 [cc]) 22) :: L) ((rv45, 22, 1, (qsz (M + N)), (wc (qminB (M + N)))) :: R) := by have h9 := MM46; rw [wc_app, hrow, hsz1.1] at h9; exact h9
          refine rg_part 1 FF46 MMa [o_] [8, 23, 22, 21, 5, 4, 0, 1] (fun Kt => Kt [(0, rv45), (8, .int .i64 ((qsz M) : Nat)), (23, .int .i64 ((qsz N) : Nat)), (22, .int .i64 (qsz N : Nat)), (21, nv N y), (5, .int .u64 (cc : Nat)), (4, .slice none 0 0), (1, nv N y)] ((bq, .cells (cn .u64 [cc]) 22) :: L)) (by kernel_rfl) (fun _ => by kernel_rfl) (fun ac47 wd47 FF47 MM47 => ?_)
          refine wpl_nil ?_
          refine then_n ?_
          refine wp_seq (rg_seq FF47 MM47 [o_, o_] [0, 8, 23, 22, 21, 5, 4, 1] (fun Kt => Kt [(4, rv45), (0, rv45), (8, .int .i64 ((qsz M) : Nat)), (23, .int .i64 ((qsz N) : Nat)), (22, .int .i64 (qsz N : Nat)), (21, nv N y), (5, .int .u64 (cc : Nat)), (1, nv N y)] ((bq, .cells (cn .u64 [cc]) 22) :: L)) (by kernel_rfl) (fun _ => by kernel_rfl) (fun ac48 wd48 FF48 MM48 => then_n ?_))
          refine wp_ret ?_
          repeat first | refine then_ret ?_ | refine inb_ret ?_
          exact (ret_fr FF48 0 Tryd.results38 rfl (by obtain ⟨p9, c9, rfl, _⟩ := MM48.rowLen; exact ⟨p9, c9, rfl, (MM48.dropAt 0)⟩))
      · skip
        refine rg_seq FF38 MM38 [o_, w_ 3, o_, o_, o_, o_, o_, o_] [8, 23, 22, 21, 5, 4, 0, 1, 51] (fun Kt => ¬ (cc > 0) ∧ Kt [(51, .bool false), (8, .int .i64 (i : Nat)), (23, .int .i64 ((qsz N) : Nat)), (22, .int .i64 (qsz N : Nat)), (21, nv N y), (5, .int .u64 (cc : Nat)), (4, .slice none 0 0), (0, .slice (some ⟨g, 0, none⟩) (qsz M) c), (1, nv N y)] ((g, .cells ((cn .u64 (adL (qsz M) M N i)) ++ rs) 22) :: L)) (by kernel_rfl) (fun _ => by kernel_rfl) (⟨h1, fun ac49 wd49 FF49 MM49 => ?_⟩)
        refine then_n (.inr ⟨FF49.ev 0 rfl, ?_⟩)
        obtain ⟨hfin, hlt2⟩ := add_fin0 hi2 hi hnM (by omega)
        have hsz1 := add_size0 hn0 hlt2
        have MMt := MemS.thawW (X := qleB (qsz M) (M + N)) (m := qsz M) (cap := c) (by rw [← hfin]; exact MM49) hg (qleB_len _ _) hcap hmx (by rw [← hfin]; exact hsz2 _)
        refine then_n ?_
        refine wp_seq ?_
        refine wp_seq (rg_seq FF49 MMt [o_, w_ 3] [8, 23, 22, 21, 5, 4, 0, 1, 67] (fun Kt => ¬ (cc > 0) ∧ Kt [(67, .bool false), (8, .int .i64 (i : Nat)), (23, .int .i64 ((qsz N) : Nat)), (22, .int .i64 (qsz N : Nat)), (21, nv N y), (5, .int .u64 (cc : Nat)), (4, .slice none 0 0), (0, .slice (some ⟨g, 0, none⟩) (qsz M) c), (1, nv N y)] L) (by kernel_rfl) (fun _ => by kernel_rfl) (⟨h1, fun ac50 wd50 FF50 MM50 => then_n ?_⟩))
        refine wp_cond_false (FF50.ev 0 rfl) ?_
        refine wp_skip ?_
        refine then_n ?_
        refine wp_seq (rg_seq FF50 MM50 [o_, o_] [8, 23, 22, 21, 5, 4, 0, 1] (fun Kt => Kt [(4, .slice (some ⟨g, 0, none⟩) (qsz M) c), (8, .int .i64 (i : Nat)), (23, .int .i64 ((qsz N) : Nat)), (22, .int .i64 (qsz N : Nat)), (21, nv N y), (5, .int .u64 (cc : Nat)), (0, .slice (some ⟨g, 0, none⟩) (qsz M) c), (1, nv N y)] L) (by kernel_rfl) (fun _ => by kernel_rfl) (fun ac51 wd51 FF51 MM51 => then_n ?_))
        refine wp_ret ?_
        repeat first | refine then_ret ?_ | refine inb_ret ?_
        exact (ret_fr FF51 0 Tryd.results38 rfl (by have h9 := MM51; rw [hsz1, show qleB (qsz (M + N)) (M + N) = qminB (M + N) from rfl] at h9; exact ⟨_, _, congrArg Ending.returned (by rw [hsz1]), h9⟩))

end Go.Proofs.YtcannnmpemnklaaDoor
namespace Go.Proofs.YtcannnmpemnklaaDoor
open Go.RowKit

set_option maxRecDepth 100000 in
theorem plus_nil {S : Nat → Prop} {w0 : World} {L : Blks} {R : List Row} (y : Value) (w : World) (MM : MemS S w0 w L ((Value.slice none 0 0, 22, 1, 0, []) :: R)) :
    Calls Tryd.prog 38 #[.slice none 0 0, nv 0 y] w fun e w' => e = .returned (.slice none 0 0) ∧ MemS S w0 w' L ((Value.slice none 0 0, 22, 1, 0, []) :: R) := by
  refine enter_fr Tryd.func38 rfl Tryd.ntmps38 (by simp) fun ac (FF : Fr 73 ac [(0, .slice none 0 0), (1, nv 0 y)]) => ?_
  refine wp_seq (rg_seq FF MM [o_] [0, 1, 4] (fun Kt => Kt [(4, .slice none 0 0), (0, .slice none 0 0), (1, nv 0 y)] L) (by kernel_rfl) (fun _ => by kernel_rfl) (fun ac1 wd1 FF1 MM1 => then_n ?_))
  refine wp_seq ?_
  refine wp_seq (rg_seq FF1 MM1 [o_, o_, o_, o_, w_ 3] [4, 0, 1, 13] (fun Kt => ¬ ((qsz 0) > 0) ∧ Kt [(13, .bool false), (4, .slice none 0 0), (0, .slice none 0 0), (1, nv 0 y)] L) (by kernel_rfl) (fun _ => by kernel_rfl) (⟨(by decide), fun ac2 wd2 FF2 MM2 => then_n ?_⟩))
  refine wp_cond_false (FF2.ev 0 rfl) ?_
  refine wp_skip ?_
  refine then_n ?_
  refine wp_seq (rg_seq FF2 MM2 [o_] [4, 0, 1, 5] (fun Kt => Kt [(5, .int .u64 (0 : Nat)), (4, .slice none 0 0), (0, .slice none 0 0), (1, nv 0 y)] L) (by kernel_rfl) (fun _ => by kernel_rfl) (fun ac3 wd3 FF3 MM3 => then_n ?_))
  refine wp_seq ?_
  refine wp_seq (rg_seq FF3 MM3 [o_, o_, o_] [5, 4, 0, 1, 21, 22, 23] (fun Kt => Kt [(23, .int .i64 (0 : Nat)), (22, .int .i64 (qsz 0 : Nat)), (21, nv 0 y), (5, .int .u64 (0 : Nat)), (4, .slice none 0 0), (0, .slice none 0 0), (1, nv 0 y)] L) (by kernel_rfl) (fun _ => by kernel_rfl) (fun ac4 wd4 FF4 MM4 => then_n ?_))
  refine wp_for (fun a' w' => ∃ i : Nat, i ≤ 0 ∧ Fr 73 a' [(23, .int .i64 (i : Nat)), (22, .int .i64 (qsz 0 : Nat)), (21, nv 0 y), (5, .int .u64 (0 : Nat)), (4, .slice none 0 0), (0, .slice none 0 0), (1, nv 0 y)] ∧ MemS S w0 w' L ((.slice none 0 0, 22, 1, 0, []) :: R)) (fun a' _ => (0 - cnt 23 a').toNat) ⟨0, Nat.le_refl _, FF4.pick [0, 1, 2, 3, 4, 5, 6], MM4⟩ ?_
  rintro ac5 wd5 ⟨i, hi, FF5, MM5⟩
  refine rg_seq FF5 MM5 [w_ 3] [23, 22, 21, 5, 4, 0, 1, 24] (fun Kt => ¬ (i < (qsz 0)) ∧ Kt [(24, .bool false), (23, .int .i64 (i : Nat)), (22, .int .i64 (qsz 0 : Nat)), (21, nv 0 y), (5, .int .u64 (0 : Nat)), (4, .slice none 0 0), (0, .slice none 0 0), (1, nv 0 y)] L) (by kernel_rfl) (fun _ => by kernel_rfl) (⟨(by rw [qsz_zero]; omega), fun ac6 wd6 FF6 MM6 => ?_⟩)
  refine then_n (.inr ⟨FF6.ev 0 rfl, ?_⟩)
  refine then_n ?_
  refine wp_seq ?_
  refine wp_seq (rg_seq FF6 MM6 [o_, o_, o_] [23, 22, 21, 5, 4, 0, 1, 8] (fun Kt => Kt [(8, .int .i64 (qsz 0 : Nat)), (23, .int .i64 (i : Nat)), (22, .int .i64 (qsz 0 : Nat)), (21, nv 0 y), (5, .int .u64 (0 : Nat)), (4, .slice none 0 0), (0, .slice none 0 0), (1, nv 0 y)] L) (by kernel_rfl) (fun _ => by kernel_rfl) (fun ac7 wd7 FF7 MM7 => then_n ?_))
  refine wp_for2 (fun a' w' => ∃ k : Nat, Fr 73 a' [(8, .int .i64 (k : Nat)), (23, .int .i64 (i : Nat)), (22, .int .i64 (qsz 0 : Nat)), (21, nv 0 y), (5, .int .u64 (0 : Nat)), (4, .slice none 0 0), (0, .slice none 0 0), (1, nv 0 y)] ∧ MemS S w0 w' L ((.slice none 0 0, 22, 1, 0, []) :: R)) (fun a' _ => (0 - cnt 8 a').toNat) ⟨qsz 0, FF7.pick [0, 1, 2, 3, 4, 5, 6, 7], MM7⟩ ?_
  rintro ac8 wd8 ⟨k, FF8, MM8⟩
  refine rg_seq FF8 MM8 [o_, w_ 3, o_, o_, o_, o_, o_, o_] [8, 23, 22, 21, 5, 4, 0, 1, 51] (fun Kt => ¬ (0 > 0) ∧ Kt [(51, .bool false), (8, .int .i64 (k : Nat)), (23, .int .i64 (i : Nat)), (22, .int .i64 (qsz 0 : Nat)), (21, nv 0 y), (5, .int .u64 (0 : Nat)), (4, .slice none 0 0), (0, .slice none 0 0), (1, nv 0 y)] L) (by kernel_rfl) (fun _ => by kernel_rfl) (⟨(by decide), fun ac9 wd9 FF9 MM9 => ?_⟩)
  refine then_n (.inr ⟨FF9.ev 0 rfl, ?_⟩)
  refine then_n ?_
  refine wp_seq ?_
  refine wp_seq (rg_seq FF9 MM9 [o_, w_ 3] [8, 23, 22, 21, 5, 4, 0, 1, 67] (fun Kt => ¬ (0 > 0) ∧ Kt [(67, .bool false), (8, .int .i64 (k : Nat)), (23, .int .i64 (i : Nat)), (22, .int .i64 (qsz 0 : Nat)), (21, nv 0 y), (5, .int .u64 (0 : Nat)), (4, .slice none 0 0), (0, .slice none 0 0), (1, nv 0 y)] L) (by kernel_rfl) (fun _ => by kernel_rfl) (⟨(by decide), fun ac10 wd10 FF10 MM10 => then_n ?_⟩))
  refine wp_cond_false (FF10.ev 0 rfl) ?_
  refine wp_skip ?_
  refine then_n ?_
  refine wp_seq (rg_seq FF10 MM10 [o_, o_] [8, 23, 22, 21, 5, 4, 0, 1] (fun Kt => Kt [(4, .slice none 0 0), (8, .int .i64 (k : Nat)), (23, .int .i64 (i : Nat)), (22, .int .i64 (qsz 0 : Nat)), (21, nv 0 y), (5, .int .u64 (0 : Nat)), (0, .slice none 0 0), (1, nv 0 y)] L) (by kernel_rfl) (fun _ => by kernel_rfl) (fun ac11 wd11 FF11 MM11 => then_n ?_))
  refine wp_ret ?_
  repeat first | refine then_ret ?_ | refine inb_ret ?_
  exact (ret_fr FF11 0 Tryd.results38 rfl ⟨rfl, MM11⟩)
theorem plus_any {S : Nat → Prop} {w0 : World} {L : Blks} {R : List Row} (M N : Nat) (x y : Value) (hN : NatO L (nv N y) N) (hz : M = 0 → pOf x = none ∧ cOf x = 0) (hs : qsz M < 1000000) (hs2 : qsz N < 1000000) (w : World) (MM : MemS S w0 w L ((nv M x, 22, 1, qsz M, wc (qminB M)) :: R)) :
    Calls Tryd.prog 38 #[nv M x, nv N y] w fun e w' => ∃ v, e = .returned (nv (M + N) v) ∧ (M + N = 0 → pOf v = none ∧ cOf v = 0) ∧ MemS S w0 w' L ((nv (M + N) v, 22, 1, qsz (M + N), wc (qminB (M + N))) :: R) := by
  by_cases h0 : M = 0 ∧ N = 0
  · obtain ⟨rfl, rfl⟩ := h0
    obtain ⟨h1, h2⟩ := hz rfl
    have e : nv 0 x = .slice none 0 0 := by rw [nv, h1, h2]; rfl
    rw [e] at MM ⊢
    refine (plus_nil y w MM).mono ?_
    rintro e w' ⟨rfl, h⟩
    exact ⟨.slice none 0 0, rfl, fun _ => ⟨rfl, rfl⟩, h⟩
  · have hp : 0 < qsz M ∨ 0 < qsz N := by
      by_cases hM : M = 0
      · exact .inr (qsz_pos fun e => h0 ⟨hM, e⟩)
      · exact .inl (qsz_pos hM)
    refine (plus_main M N y hN hp hs hs2 w MM).mono ?_
    rintro e w' ⟨q', c', rfl, h⟩
    exact ⟨.slice q' 0 c', rfl, fun e => (by omega), h⟩
/-- Numbers in a row. -/
def nvs (ns : List Nat) (xs : List Value) (j : Nat) : Value := nv (ns.getD j 0) (xs.getD j undef)
def NatsO (O : Blks) (p : Option Addr) (ns : List Nat) (xs : List Value) : Prop := CellsO O p ns.length (nvs ns xs) ∧ ∀ j, j < ns.length → NatO O (nvs ns xs j) (ns.getD j 0)
def NatsIn (w : World) (p : Option Addr) (ns : List Nat) (xs : List Value) : Prop := CellsIn w p ns.length (nvs ns xs) ∧ ∀ j, j < ns.length → NatIn w (nvs ns xs j) (ns.getD j 0)
theorem NatsIn.keep {w w' : World} {p : Option Addr} {ns : List Nat} {xs : List Value} (h : NatsIn w p ns xs) (hb : Below w.heap.size w w') : NatsIn w' p ns xs := ⟨h.1.keep hb, fun j hj => (h.2 j hj).keep hb⟩
theorem NatsO.at {w : World} {O : Blks} {p : Option Addr} {ns : List Nat} {xs : List Value} (h : NatsO O p ns xs) (H : Has w O) : NatsIn w p ns xs := ⟨h.1.at H, fun j hj => (h.2 j hj).at H⟩
theorem NatsO.mono {O O' : Blks} {p : Option Addr} {ns : List Nat} {xs : List Value} (h : NatsO O p ns xs) (hs : ∀ x ∈ O, x ∈ O') : NatsO O' p ns xs := ⟨h.1.mono hs, fun j hj => (h.2 j hj).mono hs⟩
theorem natsIn_O {w : World} {p : Option Addr} {ns : List Nat} {xs : List Value} (h : NatsIn w p ns xs) : ∃ O : Blks, Has w O ∧ Distinct O ∧ NatsO O p ns xs := by
  have hc : ∃ O : Blks, Has w O ∧ O.Pairwise (fun x y => x.1 ≠ y.1) ∧ CellsO O p ns.length (nvs ns xs) := by
    rcases h.1 with h | ⟨b, cs, T, fr, h1, h2, h3⟩
    · exact ⟨[], fun i x hx => by simp at hx, .nil, .inl h⟩
    · refine ⟨[(b, .cells cs T fr)], fun i x hx => ?_, by simp, .inr ⟨b, cs, T, fr, h1, by simp, h3⟩⟩
      cases i with
      | zero => simp at hx; subst hx; exact h2
      | succ i => simp at hx
  obtain ⟨O1, g1, g2, g3⟩ := hc
  obtain ⟨O, f1, f2, f3, f4⟩ := nats_O ((List.range ns.length).map fun j => (nvs ns xs j, ns.getD j 0)) (fun x hx => by
    obtain ⟨j, hj, rfl⟩ := List.mem_map.1 hx
    exact h.2 j (List.mem_range.1 hj)) O1 g1 g2
  exact ⟨O, f1, distinct_of f2, g3.mono f4, fun j hj => f3.get j (by simp [hj])⟩
theorem nats1 {w : World} {b : Nat} {T : TypeId} {fr : Nat × Nat} {N1 : Nat} {x1 : Value} (h : w.heap[b]? = some (.cells #[nv N1 x1] T fr)) (h1 : NatIn w (nv N1 x1) N1) : NatsIn w (some ⟨b, 0, none⟩) [N1] [x1] :=
  ⟨.inr ⟨b, _, T, fr, rfl, h, fun j hj => by
    have : j = 0 := by simp at hj; omega
    subst this; rfl⟩, fun j hj => by
    have : j = 0 := by simp at hj; omega
    subst this; exact h1⟩
theorem nats2 {w : World} {b : Nat} {T : TypeId} {fr : Nat × Nat} {N1 N2 : Nat} {x1 x2 : Value} (h : w.heap[b]? = some (.cells #[nv N1 x1, nv N2 x2] T fr)) (h1 : NatIn w (nv N1 x1) N1) (h2 : NatIn w (nv N2 x2) N2) : NatsIn w (some ⟨b, 0, none⟩) [N1, N2] [x1, x2] :=
  ⟨.inr ⟨b, _, T, fr, rfl, h, fun j hj => by
    have : j = 0 ∨ j = 1 := by simp at hj; omega
    rcases this with rfl | rfl <;> rfl⟩, fun j hj => by
    have : j = 0 ∨ j = 1 := by simp at hj; omega
    rcases this with rfl | rfl
    · exact h1
    · exact h2⟩
theorem nats3 {w : World} {b : Nat} {T : TypeId} {fr : Nat × Nat} {N1 N2 N3 : Nat} {x1 x2 x3 : Value} (h : w.heap[b]? = some (.cells #[nv N1 x1, nv N2 x2, nv N3 x3] T fr)) (h1 : NatIn w (nv N1 x1) N1) (h2 : NatIn w (nv N2 x2) N2) (h3 : NatIn w (nv N3 x3) N3) : NatsIn w (some ⟨b, 0, none⟩) [N1, N2, N3] [x1, x2, x3] :=
  ⟨.inr ⟨b, _, T, fr, rfl, h, fun j hj => by
    have : j = 0 ∨ j = 1 ∨ j = 2 := by simp at hj; omega
    rcases this with rfl | rfl | rfl <;> rfl⟩, fun j hj => by
    have : j = 0 ∨ j = 1 ∨ j = 2 := by simp at hj; omega
    rcases this with rfl | rfl | rfl
    · exact h1
    · exact h2
    · exact h3⟩
theorem sum_take (ns : List Nat) (i : Nat) (h : i < ns.length) : (ns.take (i + 1)).sum = (ns.take i).sum + ns.getD i 0 := by
  rw [List.take_add_one, List.sum_append, List.getElem?_eq_getElem h]
  simp [List.getD_eq_getElem?_getD, List.getElem?_eq_getElem h]
theorem sum_part (ns : List Nat) (i : Nat) : (ns.take i).sum ≤ ns.sum := by
  conv => rhs; rw [← List.take_append_drop i ns]
  rw [List.sum_append]; omega
theorem sum_one (ns : List Nat) (i : Nat) (h : i < ns.length) : ns.getD i 0 ≤ ns.sum := by
  have h1 := sum_part ns (i + 1)
  rw [sum_take ns i h] at h1
  omega
theorem natNew_row {S : Nat → Prop} {w0 w : World} {L : Blks} {R : List Row} {e : TypeId} {N : Nat} {x : Value} (hz : N = 0 → pOf x = none ∧ cOf x = 0) (M : MemS S w0 w L ((nv N x, e, 1, qsz N, wc (qminB N)) :: R)) : NatNew w0.heap.size w (nv N x) N := by
  have hown := M.rows _ (List.mem_cons_self ..)
  rcases hown.2 with ⟨h1, h2⟩ | ⟨g, cap, cur, h1, h2, h3, h4, h5, h6, h7⟩
  · simp only at h1 h2
    have hN := qz0 h2
    subst hN
    rw [h1]
    exact ⟨⟨none, 0, rfl, fun _ => ⟨rfl, rfl⟩, fun h => (h rfl).elim, Nat.le_refl _, .inl rfl⟩, fun g hg => by cases hg⟩
  · simp only [nv, Value.slice.injEq, true_and] at h1
    refine ⟨⟨pOf x, cOf x, rfl, fun e => hz e, fun _ => by rw [h1.1]; simp, by rw [h1.2]; exact h4, .inr ⟨g, cur, e, (0, 0), h1.1, h3, fun j hj => ?_⟩⟩, fun g' hg' => ?_⟩
    · simp only [Nat.mul_one] at h7
      have e1 := congrArg (fun l => l[j]?) h7
      simp only [List.getElem?_take, if_pos hj] at e1
      rw [show cur[j]? = cur.toList[j]? by simp, e1]
      have : j < (qminB N).length := by rw [qminB_len]; exact hj
      simp only [wc, List.getElem?_map, List.getElem?_eq_getElem this, Option.map_some]
      have h9 := qminB_get N j
      rw [List.getD_eq_getElem?_getD, List.getElem?_eq_getElem this] at h9
      simp only [Option.getD_some] at h9
      rw [h9]; rfl
    · rw [nv, h1.1] at hg'
      obtain rfl : g = g' := by simpa [Value.ownBlock] using hg'
      exact h2
set_option maxRecDepth 100000 in
theorem nadd_O (O : Blks) (hD : Distinct O) (p : Option Addr) (cp : Nat) (ns : List Nat) (xs : List Value) (hA : NatsO O p ns xs) (hs : qsz ns.sum < 1000000) (hl : ns.length < 1000) (w0 : World) (H : Has w0 O) :
    Calls Tryd.prog 24 #[.slice p ns.length cp] w0 fun e w' => ∃ v, e = .returned (.agg #[nv ns.sum v]) ∧ Below w0.heap.size w0 w' ∧ NatNew w0.heap.size w' (nv ns.sum v) ns.sum := by
  refine enter_fr Tryd.func24 rfl Tryd.ntmps24 (by simp) fun ac (FF : Fr 19 ac [(0, .slice p ns.length cp)]) => ?_
  have MM : MemS (fun k => k < w0.heap.size ∧ ∀ x ∈ O, x.1 ≠ k) w0 w0 O [] := MemS.startN H hD
  refine wp_seq (rg_seq FF MM [o_] [0, 2] (fun Kt => ∀ br, Kt [(2, .pointer (some ⟨br, 0, none⟩)), (0, .slice p ns.length cp)] ((br, .cells (#[.slice none 0 0] : Array Value) 27) :: O)) (by kernel_rfl) (fun _ => by kernel_rfl) (fun br => fun ac1 wd1 FF1 MM1 => then_n ?_))
  refine wp_seq (rg_seq FF1 MM1 [o_] [2, 0, 3] (fun Kt => Kt [(3, .slice none 0 0), (2, .pointer (some ⟨br, 0, none⟩)), (0, .slice p ns.length cp)] ((br, .cells (#[.slice none 0 0] : Array Value) 27) :: O)) (by kernel_rfl) (fun _ => by kernel_rfl) (fun ac2 wd2 FF2 MM2 => then_n ?_))
  have MMn : MemS (fun k => k < w0.heap.size ∧ ∀ x ∈ O, x.1 ≠ k) w0 wd2 ((br, .cells (#[.slice none 0 0] : Array Value) 27) :: O) [(nv ((ns.take 0).sum) (.slice none 0 0), 22, 1, (qsz ((ns.take 0).sum)), (wc (qminB ((ns.take 0).sum))))] := MM2.rowNil 22 1
  refine wp_seq ?_
  refine wp_seq (rg_seq FF2 MMn [o_, o_, o_] [3, 2, 6, 7, 8] (fun Kt => Kt [(8, .int .i64 (0 : Nat)), (7, .int .i64 (ns.length : Nat)), (6, .slice p ns.length cp), (3, nv ((ns.take 0).sum) (.slice none 0 0)), (2, .pointer (some ⟨br, 0, none⟩))] ((br, .cells (#[.slice none 0 0] : Array Value) 27) :: O)) (by kernel_rfl) (fun _ => by kernel_rfl) (fun ac3 wd3 FF3 MM3 => then_n ?_))
  refine wp_for (fun a' w' => ∃ i : Nat, ∃ v : Value, i ≤ ns.length ∧ ((ns.take i).sum = 0 → pOf v = none ∧ cOf v = 0) ∧ Fr 19 a' [(8, .int .i64 (i : Nat)), (7, .int .i64 (ns.length : Nat)), (6, .slice p ns.length cp), (3, nv ((ns.take i).sum) v), (2, .pointer (some ⟨br, 0, none⟩))] ∧ MemS (fun k => k < w0.heap.size ∧ ∀ x ∈ O, x.1 ≠ k) w0 w' ((br, .cells (#[.slice none 0 0] : Array Value) 27) :: O) [(nv ((ns.take i).sum) v, 22, 1, (qsz ((ns.take i).sum)), (wc (qminB ((ns.take i).sum))))]) (fun a' _ => (ns.length - cnt 8 a').toNat) ⟨0, (.slice none 0 0), by omega, fun _ => ⟨rfl, rfl⟩, FF3.pick [0, 1, 2, 3, 4], MM3⟩ ?_
  rintro ac4 wd4 ⟨i, v, hi, hz, FF4, MM4⟩
  have hc := cnt_of (FF4.get 0 rfl)
  refine rg_seq FF4 MM4 [o_] [8, 7, 6, 3, 2, 9] (fun Kt => Kt [(9, .bool (decide (i < ns.length))), (8, .int .i64 (i : Nat)), (7, .int .i64 (ns.length : Nat)), (6, .slice p ns.length cp), (3, nv ((ns.take i).sum) v), (2, .pointer (some ⟨br, 0, none⟩))] ((br, .cells (#[.slice none 0 0] : Array Value) 27) :: O)) (by kernel_rfl) (fun _ => by kernel_rfl) (fun ac5 wd5 FF5 MM5 => ?_)
  by_cases hlt : i < ns.length
  · skip
    refine then_n (.inl ⟨(FF5.ev 0 rfl).trans (dec_t hlt), ?_⟩)
    refine wp_seq (rg_seq FF5 MM5 [f_ (.pointer (some ⟨gOf p, i, none⟩)), f_ (.agg (#[nv (ns.getD i 0) (xs.getD i undef)] : Array Value)), o_, b_ 0] [8, 7, 6, 3, 2, 5] (fun Kt => RunV Tryd.prog [(9, .bool (decide (i < ns.length))), (8, .int .i64 (i : Nat)), (7, .int .i64 (ns.length : Nat)), (6, .slice p ns.length cp), (3, nv ((ns.take i).sum) v), (2, .pointer (some ⟨br, 0, none⟩))] ((br, .cells (#[.slice none 0 0] : Array Value) 27) :: O) (opAt Tryd.f24 4 0) (.pointer (some ⟨gOf p, i, none⟩)) ∧ RunV Tryd.prog [(10, .pointer (some ⟨gOf p, i, none⟩)), (9, .bool (decide (i < ns.length))), (8, .int .i64 (i : Nat)), (7, .int .i64 (ns.length : Nat)), (6, .slice p ns.length cp), (3, nv ((ns.take i).sum) v), (2, .pointer (some ⟨br, 0, none⟩))] ((br, .cells (#[.slice none 0 0] : Array Value) 27) :: O) (opAt Tryd.f24 4 1) (.agg (#[nv (ns.getD i 0) (xs.getD i undef)] : Array Value)) ∧ ∀ b1, b1 = b1 ∧ (#[.slice none 0 0] : Array Value).size = 1 ∧ (#[nv (ns.getD i 0) (xs.getD i undef)] : Array Value).size = 1 ∧ (#[nv (ns.getD i 0) (xs.getD i undef)] : Array Value).all (·.oneCell') = true ∧ (0, 0).2 = 0 ∧ Kt [(5, .pointer (some ⟨b1, 0, none⟩)), (8, .int .i64 (i : Nat)), (7, .int .i64 (ns.length : Nat)), (6, .slice p ns.length cp), (3, nv ((ns.take i).sum) v), (2, .pointer (some ⟨br, 0, none⟩))] ((b1, .cells (#[nv (ns.getD i 0) (xs.getD i undef)] : Array Value) 27) :: (br, .cells (#[.slice none 0 0] : Array Value) 27) :: O)) (by kernel_rfl) (fun _ => by kernel_rfl) (⟨(rowAddr_ok (x := (.tmp 6)) (y := (.tmp 8)) (by kernel_rfl) rfl rfl Tryd.underlying45 (by kernel_rfl) hA.1 (by omega)), (rowLoadA_ok (x := (.tmp 10)) (i := i) (by kernel_rfl) rfl Tryd.underlying27 rfl (by kernel_rfl) hA.1 (fun _ hx => List.mem_cons_of_mem _ (hx)) (by omega)), fun b1 => ⟨rfl, rfl, rfl, (by kernel_rfl), rfl, fun ac6 wd6 FF6 MM6 => then_n ?_⟩⟩))
    refine wp_region_list ?_
    refine rg_part 3 FF6 MM6 [o_, o_, l_ 0 (nv (ns.getD i 0) (xs.getD i undef))] [5, 8, 7, 6, 3, 2, 12, 14] (fun Kt => b1 = b1 ∧ (#[nv (ns.getD i 0) (xs.getD i undef)] : Array Value)[0]? = some (nv (ns.getD i 0) (xs.getD i undef)) ∧ Kt [(14, nv (ns.getD i 0) (xs.getD i undef)), (12, nv ((ns.take i).sum) v), (5, .pointer (some ⟨b1, 0, none⟩)), (8, .int .i64 (i : Nat)), (7, .int .i64 (ns.length : Nat)), (6, .slice p ns.length cp), (3, nv ((ns.take i).sum) v), (2, .pointer (some ⟨br, 0, none⟩))] ((b1, .cells (#[nv (ns.getD i 0) (xs.getD i undef)] : Array Value) 27) :: (br, .cells (#[.slice none 0 0] : Array Value) 27) :: O)) (by kernel_rfl) (fun _ => by kernel_rfl) (⟨rfl, rfl, fun ac7 wd7 FF7 MM7 => ?_⟩)
    refine st_callE [5, 8, 7, 6, 3, 2, 15] FF7 (d := 15) (mk := fun v => nv ((ns.take i).sum + ns.getD i 0) v) en_plus rfl rfl (plus_any ((ns.take i).sum) (ns.getD i 0) v (xs.getD i undef) ((hA.2 i (by omega)).mono (fun _ hx => List.mem_cons_of_mem _ (List.mem_cons_of_mem _ (hx)))) hz (Nat.lt_of_le_of_lt (qsz_mono (sum_part ns i)) hs) (Nat.lt_of_le_of_lt (qsz_mono (sum_one ns i (by omega))) hs) _ MM7) rfl (by kernel_rfl) (by decide) fun ac9 wd9 lv8 (FF9 : Fr 19 ac9 [(15, nv ((ns.take i).sum + ns.getD i 0) lv8), (5, .pointer (some ⟨b1, 0, none⟩)), (8, .int .i64 (i : Nat)), (7, .int .i64 (ns.length : Nat)), (6, .slice p ns.length cp), (3, nv ((ns.take i).sum) v), (2, .pointer (some ⟨br, 0, none⟩))]) hr10 => ?_
    rw [← sum_take ns i (by omega)] at FF9 hr10
    obtain ⟨hz2, MMlv8⟩ := hr10
    refine rg_part 1 FF9 MMlv8 [o_] [5, 8, 7, 6, 3, 2] (fun Kt => Kt [(3, nv ((ns.take (i + 1)).sum) lv8), (5, .pointer (some ⟨b1, 0, none⟩)), (8, .int .i64 (i : Nat)), (7, .int .i64 (ns.length : Nat)), (6, .slice p ns.length cp), (2, .pointer (some ⟨br, 0, none⟩))] ((b1, .cells (#[nv (ns.getD i 0) (xs.getD i undef)] : Array Value) 27) :: (br, .cells (#[.slice none 0 0] : Array Value) 27) :: O)) (by kernel_rfl) (fun _ => by kernel_rfl) (fun ac11 wd11 FF11 MM11 => ?_)
    refine wpl_nil ?_
    refine inb_n (then_n ?_)
    refine rg_seq FF11 MM11 [o_, o_] [3, 5, 8, 7, 6, 2] (fun Kt => i + 1 < 9223372036854775808 ∧ Kt [(8, .int .i64 (i + 1 : Nat)), (3, nv ((ns.take (i + 1)).sum) lv8), (5, .pointer (some ⟨b1, 0, none⟩)), (7, .int .i64 (ns.length : Nat)), (6, .slice p ns.length cp), (2, .pointer (some ⟨br, 0, none⟩))] ((b1, .cells (#[nv (ns.getD i 0) (xs.getD i undef)] : Array Value) 27) :: (br, .cells (#[.slice none 0 0] : Array Value) 27) :: O)) (by kernel_rfl) (fun _ => by kernel_rfl) (⟨(by omega), fun ac12 wd12 FF12 MM12 => ?_⟩)
    have hd := cnt_of (FF12.get 0 rfl)
    refine then_n ⟨⟨i + 1, lv8, by omega, hz2, FF12.pick [0, 3, 4, 1, 5], (MM12.dropAt 0)⟩, ?_⟩
    rw [hc, hd]; omega
  · skip
    refine then_n (.inr ⟨(FF5.ev 0 rfl).trans (dec_f hlt), ?_⟩)
    obtain rfl : i = ns.length := by omega
    refine then_n ?_
    refine wp_seq (rg_seq FF5 MM5 [o_, o_, b_ 0] [8, 7, 6, 3, 2] (fun Kt => br = br ∧ (#[.slice none 0 0] : Array Value).size = 1 ∧ (#[nv ((ns.take ns.length).sum) v] : Array Value).size = 1 ∧ (#[nv ((ns.take ns.length).sum) v] : Array Value).all (·.oneCell') = true ∧ (0, 0).2 = 0 ∧ Kt [(8, .int .i64 (ns.length : Nat)), (7, .int .i64 (ns.length : Nat)), (6, .slice p ns.length cp), (3, nv ((ns.take ns.length).sum) v), (2, .pointer (some ⟨br, 0, none⟩))] ((br, .cells (#[nv ((ns.take ns.length).sum) v] : Array Value) 27) :: O)) (by kernel_rfl) (fun _ => by kernel_rfl) (⟨rfl, rfl, rfl, (by kernel_rfl), rfl, fun ac13 wd13 FF13 MM13 => then_n ?_⟩))
    refine wp_ret ?_
    repeat first | refine then_ret ?_ | refine inb_ret ?_
    exact (retc FF13 MM13 (k := 1) (i := 0) (j := 4) Tryd.results24 rfl rfl Tryd.underlying27 rfl (by kernel_rfl) rfl (by have h9 := natNew_row hz MM13; rw [List.take_length] at h9 ⊢; exact ⟨v, rfl, MM13.belowN H (fun _ hx => List.mem_cons_of_mem _ (hx)), h9⟩))
theorem nadd_any (p : Option Addr) (cp : Nat) (ns : List Nat) (xs : List Value) (hs : qsz ns.sum < 1000000) (hl : ns.length < 1000) (w0 : World) (hA : NatsIn w0 p ns xs) : Calls Tryd.prog 24 #[.slice p ns.length cp] w0 fun e w' => ∃ v, e = .returned (.agg #[nv ns.sum v]) ∧ Below w0.heap.size w0 w' ∧ NatNew w0.heap.size w' (nv ns.sum v) ns.sum := by
  obtain ⟨O, h1, h2, h3⟩ := natsIn_O hA
  exact nadd_O O h2 p cp ns xs h3 hs hl w0 h1

end Go.Proofs.YtcannnmpemnklaaDoor
namespace Go.Proofs.YtcannnmpemnklaaDoor
open Go.RowKit

theorem qd_zero (N : Nat) : qd N 0 = N % 18446744073709551616 := by simp [qd]
/-- What is carried behind k words of V + N * x. -/
def mc (V N x k : Nat) : Nat := (V % 18446744073709551616 ^ k + N % 18446744073709551616 ^ k * x) / 18446744073709551616 ^ k
theorem mc_zero (V N x : Nat) : mc V N x 0 = 0 := by simp [mc, Nat.mod_one]
theorem mod_next (X k : Nat) : X % 18446744073709551616 ^ (k + 1) = X % 18446744073709551616 ^ k + 18446744073709551616 ^ k * qd X k := by rw [Nat.pow_succ, Nat.mod_mul]; rfl
theorem mc_num (V N x k : Nat) : (V % 18446744073709551616 ^ (k + 1) + N % 18446744073709551616 ^ (k + 1) * x) / 18446744073709551616 ^ k = mc V N x k + (qd V k + qd N k * x) := by
  rw [mod_next V k, mod_next N k]
  have : V % 18446744073709551616 ^ k + 18446744073709551616 ^ k * qd V k + (N % 18446744073709551616 ^ k + 18446744073709551616 ^ k * qd N k) * x = (V % 18446744073709551616 ^ k + N % 18446744073709551616 ^ k * x) + 18446744073709551616 ^ k * (qd V k + qd N k * x) := by
    rw [Nat.add_mul, Nat.mul_add, Nat.mul_assoc]; omega
  rw [this, Nat.add_mul_div_left _ _ (qpw_pos k)]; rfl
theorem mc_step (V N x k : Nat) : (x * qd N k + mc V N x k + qd V k) / 18446744073709551616 = mc V N x (k + 1) := by
  have h := mc_num V N x k
  have e : mc V N x (k + 1) = (V % 18446744073709551616 ^ (k + 1) + N % 18446744073709551616 ^ (k + 1) * x) / 18446744073709551616 ^ k / 18446744073709551616 := by rw [mc, Nat.div_div_eq_div_mul, ← Nat.pow_succ]
  rw [e, h, Nat.mul_comm x]
  congr 1; omega
theorem mc_word (V N x k : Nat) : (x * qd N k + mc V N x k + qd V k) % 18446744073709551616 = qd (V + N * x) k := by
  have e : V + N * x = (V % 18446744073709551616 ^ k + N % 18446744073709551616 ^ k * x) + 18446744073709551616 ^ k * (V / 18446744073709551616 ^ k + N / 18446744073709551616 ^ k * x) := by
    have h1 := Nat.div_add_mod V (18446744073709551616 ^ k)
    have h2 := Nat.div_add_mod N (18446744073709551616 ^ k)
    conv => lhs; rw [← h1, ← h2]
    rw [Nat.add_mul, Nat.mul_add, Nat.mul_assoc]; omega
  unfold qd
  rw [e, Nat.add_mul_div_left _ _ (qpw_pos k)]
  have : N / 18446744073709551616 ^ k * x % 18446744073709551616 = (N / 18446744073709551616 ^ k % 18446744073709551616) * x % 18446744073709551616 := by rw [Nat.mod_mul_mod]
  have hm : (V % 18446744073709551616 ^ k + N % 18446744073709551616 ^ k * x) / 18446744073709551616 ^ k = mc V N x k := rfl
  rw [hm, Nat.mul_comm x]
  omega
theorem mc_lt {x : Nat} (hx : x < 18446744073709551616) (V N k : Nat) : mc V N x k < 18446744073709551616 := by
  refine Nat.div_lt_of_lt_mul ?_
  have h1 := Nat.mod_lt V (qpw_pos k)
  have h2 := Nat.mod_lt N (qpw_pos k)
  have h3 : N % 18446744073709551616 ^ k * x ≤ (18446744073709551616 ^ k - 1) * (18446744073709551616 - 1) := Nat.mul_le_mul (by omega) (by omega)
  have h4 : (18446744073709551616 ^ k - 1) * (18446744073709551616 - 1) + (18446744073709551616 ^ k - 1) = (18446744073709551616 ^ k - 1) * 18446744073709551616 := by rw [← Nat.mul_succ]
  have h5 : (18446744073709551616 ^ k - 1) * 18446744073709551616 + 18446744073709551616 = 18446744073709551616 ^ k * 18446744073709551616 := by rw [← Nat.succ_mul]; congr 1; omega
  omega
theorem mc_end {V N n : Nat} (x : Nat) (hV : V < 18446744073709551616 ^ n) (hN : N < 18446744073709551616 ^ n) : mc V N x n = (V + N * x) / 18446744073709551616 ^ n := by rw [mc, Nat.mod_eq_of_lt hV, Nat.mod_eq_of_lt hN]
/-- One step of a product: a word times a word, a word and a word more. -/
theorem mac {p c v : Nat} (hp : p ≤ 340282366920938463426481119284349108225) (hc : c < 18446744073709551616) (hv : v < 18446744073709551616) : (v + (p % 18446744073709551616 + c + 0) % 18446744073709551616 + 0) % 18446744073709551616 = (p + c + v) % 18446744073709551616 ∧ p / 18446744073709551616 + (p % 18446744073709551616 + c + 0) / 18446744073709551616 < 18446744073709551616 ∧ p / 18446744073709551616 + (p % 18446744073709551616 + c + 0) / 18446744073709551616 + (v + (p % 18446744073709551616 + c + 0) % 18446744073709551616 + 0) / 18446744073709551616 < 18446744073709551616 ∧ p / 18446744073709551616 + (p % 18446744073709551616 + c + 0) / 18446744073709551616 + (v + (p % 18446744073709551616 + c + 0) % 18446744073709551616 + 0) / 18446744073709551616 = (p + c + v) / 18446744073709551616 := by omega
theorem word_mul {x y : Nat} (hx : x < 18446744073709551616) (hy : y < 18446744073709551616) : x * y ≤ 340282366920938463426481119284349108225 := Nat.mul_le_mul (Nat.le_of_lt_succ hx) (Nat.le_of_lt_succ hy)
/-- The words of V + N * x, up to k; then those of V. -/
def mtL (n V N x k : Nat) : List Nat := (List.range n).map fun j => if j < k then qd (V + N * x) j else qd V j
theorem mtL_len (n V N x k : Nat) : (mtL n V N x k).length = n := by simp [mtL]
theorem mtL_get (n V N x k : Nat) {j : Nat} (h : j < n) : (mtL n V N x k).getD j 0 = if j < k then qd (V + N * x) j else qd V j := by simp [mtL, h]
theorem mtL_zero (n V N x : Nat) : mtL n V N x 0 = qleB n V := by
  refine ext_getD (by rw [mtL_len, qleB_len]) fun j hj => ?_
  rw [mtL_len] at hj
  rw [mtL_get _ _ _ _ _ hj, qleB_get hj, if_neg (by omega)]; rfl
theorem mtL_all (n V N x : Nat) : mtL n V N x n = qleB n (V + N * x) := by
  refine ext_getD (by rw [mtL_len, qleB_len]) fun j hj => ?_
  rw [mtL_len] at hj
  rw [mtL_get _ _ _ _ _ hj, qleB_get hj, if_pos hj]; rfl
theorem mtL_step (n V N x k : Nat) (h : k < n) : (mtL n V N x k).set k (qd (V + N * x) k) = mtL n V N x (k + 1) := by
  refine ext_getD (by simp [mtL]) fun j hj => ?_
  simp only [List.length_set, mtL_len] at hj
  rw [getD_set, mtL_get _ _ _ _ _ hj, mtL_get _ _ _ _ _ hj, mtL_len]
  by_cases e : k = j
  · subst e; rw [if_pos ⟨rfl, h⟩, if_pos (by omega)]
  · rw [if_neg (fun h => e h.1)]
    by_cases h1 : j < k
    · rw [if_pos h1, if_pos (by omega)]
    · rw [if_neg h1, if_neg (by omega)]
/-- Within a longer row. -/
def midL (A B C : List Nat) : List Nat := A ++ B ++ C
theorem midL_len (A B C : List Nat) : (midL A B C).length = A.length + B.length + C.length := by simp [midL]; omega
theorem midL_get {A B C : List Nat} {f k : Nat} (hA : A.length = f) (h : k < B.length) : (midL A B C).getD (f + k) 0 = B.getD k 0 := by
  rw [midL, getD_app_l _ _ _ (by simp; omega), getD_app_r _ _ _ (by omega), hA]; congr 1; omega
theorem midL_set {A B C : List Nat} {f k x : Nat} (hA : A.length = f) (h : k < B.length) : (midL A B C).set (f + k) x = midL A (B.set k x) C := by
  rw [midL, midL, List.set_append, if_pos (by simp; omega), List.set_append, if_neg (by omega), show f + k - A.length = k by omega]
theorem midL_lt {A B C : List Nat} {m : Nat} (hA : ∀ i, A.getD i 0 < m) (hB : ∀ i, B.getD i 0 < m) (hC : ∀ i, C.getD i 0 < m) : ∀ i, (midL A B C).getD i 0 < m := app_lt (app_lt hA hB) hC
theorem split3 {P n i k : Nat} (h : i + k ≤ n) (hP : P < 18446744073709551616 ^ (i + k)) : qleB n P = midL (qleB i P) (qleB k (P / 18446744073709551616 ^ i)) (List.replicate (n - i - k) 0) := by
  refine ext_getD (by rw [midL_len, qleB_len, qleB_len, qleB_len, List.length_replicate]; omega) fun j hj => ?_
  rw [qleB_len] at hj
  rw [qleB_get hj]
  rcases Nat.lt_or_ge j i with h1 | h1
  · rw [midL, getD_app_l _ _ _ (by simp [qleB_len]; omega), getD_app_l _ _ _ (by rw [qleB_len]; exact h1), qleB_get h1]
  · rcases Nat.lt_or_ge j (i + k) with h2 | h2
    · obtain ⟨t, rfl⟩ := Nat.exists_eq_add_of_le h1
      rw [midL_get (qleB_len _ _) (by rw [qleB_len]; omega), qleB_get (by omega), Nat.div_div_eq_div_mul, ← Nat.pow_add]
    · rw [midL, getD_app_r _ _ _ (by simp [qleB_len]; omega), rep_get, Nat.div_eq_of_lt (Nat.lt_of_lt_of_le hP (qpw_le h2))]
/-- The product of a number's first words. -/
def pr (M N i : Nat) : Nat := M % 18446744073709551616 ^ i * N
theorem pr_zero (M N : Nat) : pr M N 0 = 0 := by simp [pr, Nat.mod_one]
theorem pr_all (M N : Nat) : pr M N (qsz M) = M * N := by rw [pr, Nat.mod_eq_of_lt (qsz_ok M).1]
theorem pr_step (M N i : Nat) : pr M N (i + 1) = pr M N i + 18446744073709551616 ^ i * (N * qd M i) := by
  unfold pr
  rw [mod_next, Nat.add_mul, Nat.mul_assoc, Nat.mul_comm (qd M i) N]
theorem pr_lt (M N i : Nat) : pr M N i < 18446744073709551616 ^ (i + qsz N) := by
  rw [pr, Nat.pow_add]
  have h1 := Nat.mod_lt M (qpw_pos i)
  have h2 := (qsz_ok N).1
  rcases Nat.eq_zero_or_pos N with h | h
  · subst h; rw [Nat.mul_zero]; exact Nat.mul_pos (qpw_pos _) (qpw_pos _)
  · exact Nat.lt_of_lt_of_le (Nat.mul_lt_mul_of_pos_right h1 h) (Nat.mul_le_mul_left _ (Nat.le_of_lt h2))
theorem pr_div (M N i : Nat) : pr M N (i + 1) / 18446744073709551616 ^ i = pr M N i / 18446744073709551616 ^ i + N * qd M i := by rw [pr_step, Nat.add_mul_div_left _ _ (qpw_pos i)]
theorem pr_low (M N i : Nat) : qleB i (pr M N (i + 1)) = qleB i (pr M N i) := by
  refine ext_getD (by rw [qleB_len, qleB_len]) fun j hj => ?_
  rw [qleB_len] at hj
  rw [qleB_get hj, qleB_get hj, pr_step]
  have : 18446744073709551616 ^ i * (N * qd M i) = 18446744073709551616 ^ j * (18446744073709551616 * (18446744073709551616 ^ (i - j - 1) * (N * qd M i))) := by
    rw [show 18446744073709551616 ^ i = 18446744073709551616 ^ j * (18446744073709551616 * 18446744073709551616 ^ (i - j - 1)) by rw [← Nat.pow_succ', ← Nat.pow_add]; congr 1; omega]
    simp only [Nat.mul_assoc]
  rw [this, Nat.add_mul_div_left _ _ (qpw_pos j), Nat.add_mul_mod_self_left]
theorem pr_seg (M N i : Nat) : pr M N i / 18446744073709551616 ^ i < 18446744073709551616 ^ qsz N := Nat.div_lt_of_lt_mul (by rw [← Nat.pow_add]; exact pr_lt M N i)
theorem pr_top (M N i : Nat) : (pr M N i / 18446744073709551616 ^ i + N * qd M i) / 18446744073709551616 ^ qsz N = qd (pr M N (i + 1)) (i + qsz N) := by
  rw [← pr_div, Nat.div_div_eq_div_mul, ← Nat.pow_add, qd, Nat.mod_eq_of_lt]
  refine Nat.div_lt_of_lt_mul ?_
  rw [← Nat.pow_succ, show (i + qsz N).succ = i + 1 + qsz N by omega]
  exact pr_lt M N (i + 1)
theorem times_step {M N i n : Nat} (h : i + qsz N < n) : (midL (qleB i (pr M N i)) (qleB (qsz N) (pr M N i / 18446744073709551616 ^ i + N * qd M i)) (List.replicate (n - i - qsz N) 0)).set (i + qsz N) ((pr M N i / 18446744073709551616 ^ i + N * qd M i) / 18446744073709551616 ^ qsz N) = qleB n (pr M N (i + 1)) := by
  rw [split3 (P := pr M N (i + 1)) (n := n) (i := i + qsz N) (k := 1) (by omega) (by rw [show i + qsz N + 1 = i + 1 + qsz N by omega]; exact pr_lt M N (i + 1)), pr_top]
  have e : qleB (i + qsz N) (pr M N (i + 1)) = qleB i (pr M N i) ++ qleB (qsz N) (pr M N i / 18446744073709551616 ^ i + N * qd M i) := by
    refine ext_getD (by simp [qleB_len]) fun j hj => ?_
    rw [qleB_len] at hj
    rw [qleB_get hj]
    rcases Nat.lt_or_ge j i with h1 | h1
    · rw [getD_app_l _ _ _ (by rw [qleB_len]; exact h1), ← pr_low, qleB_get h1]
    · obtain ⟨t, rfl⟩ := Nat.exists_eq_add_of_le h1
      rw [getD_app_r _ _ _ (by rw [qleB_len]; exact h1), qleB_len, Nat.add_sub_cancel_left, qleB_get (by omega), ← pr_div, Nat.div_div_eq_div_mul, ← Nat.pow_add]
  rw [e]
  unfold midL
  rw [List.set_append, if_neg (by simp [qleB_len]), show i + qsz N - (qleB i (pr M N i) ++ qleB (qsz N) (pr M N i / 18446744073709551616 ^ i + N * qd M i)).length = 0 by simp [qleB_len]]
  obtain ⟨z, hz⟩ : ∃ z, n - i - qsz N = z + 1 := ⟨n - i - qsz N - 1, by omega⟩
  rw [hz, List.replicate_succ, List.set_cons_zero, show n - (i + qsz N) - 1 = z by omega]
  have e2 : qleB 1 (pr M N (i + 1) / 18446744073709551616 ^ (i + qsz N)) = [qd (pr M N (i + 1)) (i + qsz N)] := by simp [qleB, List.range_succ, qd]
  rw [e2]
  simp

end Go.Proofs.YtcannnmpemnklaaDoor
namespace Go.Proofs.YtcannnmpemnklaaDoor
open Go.RowKit

theorem mt_len {A C : List Nat} {f n V N x k : Nat} (hA : A.length = f) : (midL A (mtL n V N x k) C).length = f + n + C.length := by rw [midL_len, mtL_len, hA]
set_option maxRecDepth 100000 in
theorem addt_O (g f cp : Nat) (A C : List Nat) (V N x : Nat) (y : Value) (O : Blks) (hA : A.length = f) (hx : x < 18446744073709551616) (hV : V < 18446744073709551616 ^ qsz N) (hN : NatO O (nv N y) N) (hs : qsz N < 1000000) (w0 : World) (H : Has w0 ((g, Obj.cells (cn .u64 (midL A (qleB (qsz N) V) C)) 22) :: O)) (hD : Distinct ((g, Obj.cells (cn .u64 (midL A (qleB (qsz N) V) C)) 22) :: O)) :
    Calls Tryd.prog 50 #[.slice (some ⟨g, f, none⟩) (qsz N) cp, nv N y, .int .u64 (x : Nat)] w0 fun e w' => e = .returned (.int .u64 ((V + N * x) / 18446744073709551616 ^ qsz N : Nat)) ∧ Turn g (.cells (cn .u64 (midL A (qleB (qsz N) (V + N * x)) C)) 22) w0 w' := by
  refine enter_fr Tryd.func50 rfl Tryd.ntmps50 (by simp) fun ac (FF : Fr 54 ac [(0, .slice (some ⟨g, f, none⟩) (qsz N) cp), (1, nv N y), (2, .int .u64 (x : Nat))]) => ?_
  have MM0 : MemS (fun k => k < w0.heap.size ∧ ∀ x ∈ (g, Obj.cells (cn .u64 (midL A (qleB (qsz N) V) C)) 22) :: O, x.1 ≠ k) w0 w0 ((g, .cells (cn .u64 (midL A (qleB (qsz N) V) C)) 22) :: O) [] := MemS.startN H hD
  have MM : MemS (fun k => k < w0.heap.size ∧ ∀ x ∈ (g, Obj.cells (cn .u64 (midL A (qleB (qsz N) V) C)) 22) :: O, x.1 ≠ k) w0 w0 ((g, .cells (cn .u64 (midL A (mtL (qsz N) V N x 0) C)) 22) :: O) [] := by rw [mtL_zero]; exact MM0
  refine wp_seq (rg_seq FF MM [o_] [0, 1, 2, 6] (fun Kt => Kt [(6, .int .u64 (0 : Nat)), (0, .slice (some ⟨g, f, none⟩) (qsz N) cp), (1, nv N y), (2, .int .u64 (x : Nat))] ((g, .cells (cn .u64 (midL A (mtL (qsz N) V N x 0) C)) 22) :: O)) (by kernel_rfl) (fun _ => by kernel_rfl) (fun ac1 wd1 FF1 MM1 => then_n ?_))
  refine wp_seq (rg_seq FF1 MM1 [o_] [6, 0, 1, 2, 7] (fun Kt => Kt [(7, .int .u64 (0 : Nat)), (6, .int .u64 (0 : Nat)), (0, .slice (some ⟨g, f, none⟩) (qsz N) cp), (1, nv N y), (2, .int .u64 (x : Nat))] ((g, .cells (cn .u64 (midL A (mtL (qsz N) V N x 0) C)) 22) :: O)) (by kernel_rfl) (fun _ => by kernel_rfl) (fun ac2 wd2 FF2 MM2 => then_n ?_))
  refine wp_seq ?_
  refine wp_seq (rg_seq FF2 MM2 [o_, o_, o_] [7, 6, 0, 2, 15, 16, 17] (fun Kt => Kt [(17, .int .i64 (0 : Nat)), (16, .int .i64 (qsz N : Nat)), (15, nv N y), (7, .int .u64 (0 : Nat)), (6, .int .u64 (0 : Nat)), (0, .slice (some ⟨g, f, none⟩) (qsz N) cp), (2, .int .u64 (x : Nat))] ((g, .cells (cn .u64 (midL A (mtL (qsz N) V N x 0) C)) 22) :: O)) (by kernel_rfl) (fun _ => by kernel_rfl) (fun ac3 wd3 FF3 MM3 => then_n ?_))
  refine wp_for (fun a' w' => ∃ k : Nat, ∃ cc : Nat, k ≤ qsz N ∧ cc = mc V N x k ∧ Fr 54 a' [(17, .int .i64 (k : Nat)), (16, .int .i64 (qsz N : Nat)), (15, nv N y), (7, .int .u64 (cc : Nat)), (6, .int .u64 (0 : Nat)), (0, .slice (some ⟨g, f, none⟩) (qsz N) cp), (2, .int .u64 (x : Nat))] ∧ MemS (fun k => k < w0.heap.size ∧ ∀ x ∈ (g, Obj.cells (cn .u64 (midL A (qleB (qsz N) V) C)) 22) :: O, x.1 ≠ k) w0 w' ((g, .cells (cn .u64 (midL A (mtL (qsz N) V N x k) C)) 22) :: O) []) (fun a' _ => (qsz N - cnt 17 a').toNat) ⟨0, 0, by omega, (mc_zero V N x).symm, FF3.pick [0, 1, 2, 3, 4, 5, 6], MM3⟩ ?_
  rintro ac4 wd4 ⟨k, cc, hk, hcc, FF4, MM4⟩
  have hc := cnt_of (FF4.get 0 rfl)
  refine rg_seq FF4 MM4 [o_] [17, 16, 15, 7, 6, 0, 2, 18] (fun Kt => Kt [(18, .bool (decide (k < (qsz N)))), (17, .int .i64 (k : Nat)), (16, .int .i64 (qsz N : Nat)), (15, nv N y), (7, .int .u64 (cc : Nat)), (6, .int .u64 (0 : Nat)), (0, .slice (some ⟨g, f, none⟩) (qsz N) cp), (2, .int .u64 (x : Nat))] ((g, .cells (cn .u64 (midL A (mtL (qsz N) V N x k) C)) 22) :: O)) (by kernel_rfl) (fun _ => by kernel_rfl) (fun ac5 wd5 FF5 MM5 => ?_)
  by_cases hlt : k < (qsz N)
  · skip
    refine then_n (.inl ⟨(FF5.ev 0 rfl).trans (dec_t hlt), ?_⟩)
    have hcl : cc < 18446744073709551616 := hcc ▸ mc_lt hx V N k
    obtain ⟨m1, m2, m3, m4⟩ := mac (word_mul hx (qd_lt N k)) hcl (qd_lt V k)
    have hw := mc_word V N x k
    have hy := mc_step V N x k
    rw [← hcc] at hw hy
    refine wp_seq (rg_seq FF5 MM5 [o_, f_ (.pointer (some ⟨gOf (pOf y), k, none⟩)), f_ (.int .u64 (qd N k : Nat)), o_, o_] [17, 16, 15, 7, 6, 0, 2, 8, 9] (fun Kt => RunV Tryd.prog [(19, .int .i64 (k : Nat)), (18, .bool (decide (k < (qsz N)))), (17, .int .i64 (k : Nat)), (16, .int .i64 (qsz N : Nat)), (15, nv N y), (7, .int .u64 (cc : Nat)), (6, .int .u64 (0 : Nat)), (0, .slice (some ⟨g, f, none⟩) (qsz N) cp), (2, .int .u64 (x : Nat))] ((g, .cells (cn .u64 (midL A (mtL (qsz N) V N x k) C)) 22) :: O) (opAt Tryd.f50 4 1) (.pointer (some ⟨gOf (pOf y), k, none⟩)) ∧ RunV Tryd.prog [(20, .pointer (some ⟨gOf (pOf y), k, none⟩)), (19, .int .i64 (k : Nat)), (18, .bool (decide (k < (qsz N)))), (17, .int .i64 (k : Nat)), (16, .int .i64 (qsz N : Nat)), (15, nv N y), (7, .int .u64 (cc : Nat)), (6, .int .u64 (0 : Nat)), (0, .slice (some ⟨g, f, none⟩) (qsz N) cp), (2, .int .u64 (x : Nat))] ((g, .cells (cn .u64 (midL A (mtL (qsz N) V N x k) C)) 22) :: O) (opAt Tryd.f50 4 2) (.int .u64 (qd N k : Nat)) ∧ Kt [(9, .int .u64 (qd N k : Nat)), (8, .int .i64 (k : Nat)), (17, .int .i64 (k : Nat)), (16, .int .i64 (qsz N : Nat)), (15, nv N y), (7, .int .u64 (cc : Nat)), (6, .int .u64 (0 : Nat)), (0, .slice (some ⟨g, f, none⟩) (qsz N) cp), (2, .int .u64 (x : Nat))] ((g, .cells (cn .u64 (midL A (mtL (qsz N) V N x k) C)) 22) :: O)) (by kernel_rfl) (fun _ => by kernel_rfl) (⟨(rowAddr_ok (x := (.tmp 15)) (y := (.tmp 17)) (by kernel_rfl) rfl rfl Tryd.underlying25 (by kernel_rfl) (natO_cells hN) (by omega)), (rowLoad_ok (x := (.tmp 20)) (i := k) (by kernel_rfl) rfl Tryd.underlying22 rfl (natO_cells hN) (fun _ hx => List.mem_cons_of_mem _ (hx)) (by omega)), fun ac6 wd6 FF6 MM6 => then_n ?_⟩))
    refine wp_seq (rg_seq FF6 MM6 [o_, o_, t_ (.tuple #[.int .u64 (x * (qd N k) / 18446744073709551616 : Nat), .int .u64 (x * (qd N k) % 18446744073709551616 : Nat)]), o_, o_, o_, o_, o_] [9, 8, 17, 16, 15, 7, 6, 0, 2, 10, 11] (fun Kt => CallP Tryd.prog 60 [.int .u64 (x : Nat), .int .u64 (qd N k : Nat)] [] (.tuple #[.int .u64 (x * (qd N k) / 18446744073709551616 : Nat), .int .u64 (x * (qd N k) % 18446744073709551616 : Nat)]) ∧ Kt [(11, .int .u64 (x * (qd N k) % 18446744073709551616 : Nat)), (10, .int .u64 (x * (qd N k) / 18446744073709551616 : Nat)), (9, .int .u64 (qd N k : Nat)), (8, .int .i64 (k : Nat)), (17, .int .i64 (k : Nat)), (16, .int .i64 (qsz N : Nat)), (15, nv N y), (7, .int .u64 (cc : Nat)), (6, .int .u64 (0 : Nat)), (0, .slice (some ⟨g, f, none⟩) (qsz N) cp), (2, .int .u64 (x : Nat))] ((g, .cells (cn .u64 (midL A (mtL (qsz N) V N x k) C)) 22) :: O)) (by kernel_rfl) (fun _ => by kernel_rfl) (⟨(callP_of en_mul64 (mul64_any x (qd N k) hx (qd_lt N k)) _), fun ac7 wd7 FF7 MM7 => then_n ?_⟩))
    refine wp_seq (rg_seq FF7 MM7 [o_, o_, f_ (.tuple #[.int .u64 (((x * (qd N k) % 18446744073709551616) + cc + 0) % 18446744073709551616 : Nat), .int .u64 (((x * (qd N k) % 18446744073709551616) + cc + 0) / 18446744073709551616 : Nat)]), o_, o_, o_, o_, o_] [11, 10, 9, 8, 17, 16, 15, 7, 6, 0, 2, 12] (fun Kt => RunV Tryd.prog [(30, .int .u64 (cc : Nat)), (29, .int .u64 (x * (qd N k) % 18446744073709551616 : Nat)), (11, .int .u64 (x * (qd N k) % 18446744073709551616 : Nat)), (10, .int .u64 (x * (qd N k) / 18446744073709551616 : Nat)), (9, .int .u64 (qd N k : Nat)), (8, .int .i64 (k : Nat)), (17, .int .i64 (k : Nat)), (16, .int .i64 (qsz N : Nat)), (15, nv N y), (7, .int .u64 (cc : Nat)), (6, .int .u64 (0 : Nat)), (0, .slice (some ⟨g, f, none⟩) (qsz N) cp), (2, .int .u64 (x : Nat))] ((g, .cells (cn .u64 (midL A (mtL (qsz N) V N x k) C)) 22) :: O) (opAt Tryd.f50 6 2) (.tuple #[.int .u64 (((x * (qd N k) % 18446744073709551616) + cc + 0) % 18446744073709551616 : Nat), .int .u64 (((x * (qd N k) % 18446744073709551616) + cc + 0) / 18446744073709551616 : Nat)]) ∧ Kt [(12, .int .u64 (((x * (qd N k) % 18446744073709551616) + cc + 0) / 18446744073709551616 : Nat)), (11, .int .u64 (((x * (qd N k) % 18446744073709551616) + cc + 0) % 18446744073709551616 : Nat)), (10, .int .u64 (x * (qd N k) / 18446744073709551616 : Nat)), (9, .int .u64 (qd N k : Nat)), (8, .int .i64 (k : Nat)), (17, .int .i64 (k : Nat)), (16, .int .i64 (qsz N : Nat)), (15, nv N y), (7, .int .u64 (cc : Nat)), (6, .int .u64 (0 : Nat)), (0, .slice (some ⟨g, f, none⟩) (qsz N) cp), (2, .int .u64 (x : Nat))] ((g, .cells (cn .u64 (midL A (mtL (qsz N) V N x k) C)) 22) :: O)) (by kernel_rfl) (fun _ => by kernel_rfl) (⟨(add64_ok (f := 49) (ts := #[22, 22, 22]) (x := (.tmp 29)) (y := (.tmp 30)) (z := (.const (.int .u64 (0 : Nat)))) (by decide) (by kernel_rfl) rfl rfl rfl Tryd.func49 (by kernel_rfl) (by kernel_rfl) (by kernel_rfl) (by kernel_rfl)), fun ac8 wd8 FF8 MM8 => then_n ?_⟩))
    refine wp_seq (rg_seq FF8 MM8 [o_, o_, o_, l_ 0 (.int .u64 (qd V k : Nat)), o_, f_ (.tuple #[.int .u64 (((qd V k) + (((x * (qd N k) % 18446744073709551616) + cc + 0) % 18446744073709551616) + 0) % 18446744073709551616 : Nat), .int .u64 (((qd V k) + (((x * (qd N k) % 18446744073709551616) + cc + 0) % 18446744073709551616) + 0) / 18446744073709551616 : Nat)]), o_, t_ (.int .u64 (qd (V + N * x) k : Nat)), o_, o_, o_] [12, 11, 10, 9, 8, 17, 16, 15, 7, 6, 0, 2, 13, 14] (fun Kt => k < (qsz N) ∧ g = g ∧ (cn .u64 (midL A (mtL (qsz N) V N x k) C))[f + k]? = some (.int .u64 (qd V k : Nat)) ∧ RunV Tryd.prog [(39, .int .u64 (((x * (qd N k) % 18446744073709551616) + cc + 0) % 18446744073709551616 : Nat)), (38, .int .u64 (qd V k : Nat)), (37, .pointer (some ⟨g, f + k, none⟩)), (36, .int .i64 (k : Nat)), (35, .slice (some ⟨g, f, none⟩) (qsz N) cp), (12, .int .u64 (((x * (qd N k) % 18446744073709551616) + cc + 0) / 18446744073709551616 : Nat)), (11, .int .u64 (((x * (qd N k) % 18446744073709551616) + cc + 0) % 18446744073709551616 : Nat)), (10, .int .u64 (x * (qd N k) / 18446744073709551616 : Nat)), (9, .int .u64 (qd N k : Nat)), (8, .int .i64 (k : Nat)), (17, .int .i64 (k : Nat)), (16, .int .i64 (qsz N : Nat)), (15, nv N y), (7, .int .u64 (cc : Nat)), (6, .int .u64 (0 : Nat)), (0, .slice (some ⟨g, f, none⟩) (qsz N) cp), (2, .int .u64 (x : Nat))] ((g, .cells (cn .u64 (midL A (mtL (qsz N) V N x k) C)) 22) :: O) (opAt Tryd.f50 7 5) (.tuple #[.int .u64 (((qd V k) + (((x * (qd N k) % 18446744073709551616) + cc + 0) % 18446744073709551616) + 0) % 18446744073709551616 : Nat), .int .u64 (((qd V k) + (((x * (qd N k) % 18446744073709551616) + cc + 0) % 18446744073709551616) + 0) / 18446744073709551616 : Nat)]) ∧ Value.int .u64 (((qd V k) + (((x * (qd N k) % 18446744073709551616) + cc + 0) % 18446744073709551616) + 0) % 18446744073709551616 : Nat) = .int .u64 (qd (V + N * x) k : Nat) ∧ Kt [(14, .int .u64 (((qd V k) + (((x * (qd N k) % 18446744073709551616) + cc + 0) % 18446744073709551616) + 0) / 18446744073709551616 : Nat)), (13, .int .u64 (qd (V + N * x) k : Nat)), (12, .int .u64 (((x * (qd N k) % 18446744073709551616) + cc + 0) / 18446744073709551616 : Nat)), (11, .int .u64 (((x * (qd N k) % 18446744073709551616) + cc + 0) % 18446744073709551616 : Nat)), (10, .int .u64 (x * (qd N k) / 18446744073709551616 : Nat)), (9, .int .u64 (qd N k : Nat)), (8, .int .i64 (k : Nat)), (17, .int .i64 (k : Nat)), (16, .int .i64 (qsz N : Nat)), (15, nv N y), (7, .int .u64 (cc : Nat)), (6, .int .u64 (0 : Nat)), (0, .slice (some ⟨g, f, none⟩) (qsz N) cp), (2, .int .u64 (x : Nat))] ((g, .cells (cn .u64 (midL A (mtL (qsz N) V N x k) C)) 22) :: O)) (by kernel_rfl) (fun _ => by kernel_rfl) (⟨(by omega), rfl, ((cn_get _ _ _ (by rw [mt_len hA]; omega)).trans (congrArg some (vI ((midL_get hA (by rw [mtL_len]; omega)).trans ((mtL_get _ _ _ _ _ (by omega)).trans (if_neg (by omega))))))), (add64_ok (f := 49) (ts := #[22, 22, 22]) (x := (.tmp 38)) (y := (.tmp 39)) (z := (.const (.int .u64 (0 : Nat)))) (by decide) (by kernel_rfl) rfl rfl rfl Tryd.func49 (by kernel_rfl) (by kernel_rfl) (by kernel_rfl) (by kernel_rfl)), (vI (m1.trans hw)), fun ac9 wd9 FF9 MM9 => then_n ?_⟩))
    refine wp_seq (rg_seq FF9 MM9 [o_, o_, o_, o_, s_ 0 (.cells (cn .u64 (midL A (mtL (qsz N) V N x (k + 1)) C)) 22)] [14, 13, 12, 11, 10, 9, 8, 17, 16, 15, 7, 6, 0, 2] (fun Kt => k < (qsz N) ∧ g = g ∧ f + k < (cn .u64 (midL A (mtL (qsz N) V N x k) C)).size ∧ (((0, 0)).2 = 0 ∨ f + k < ((0, 0)).1) ∧ (cn .u64 (midL A (mtL (qsz N) V N x k) C)).setIfInBounds (f + k) (.int .u64 (qd (V + N * x) k : Nat)) = cn .u64 (midL A (mtL (qsz N) V N x (k + 1)) C) ∧ Kt [(14, .int .u64 (((qd V k) + (((x * (qd N k) % 18446744073709551616) + cc + 0) % 18446744073709551616) + 0) / 18446744073709551616 : Nat)), (13, .int .u64 (qd (V + N * x) k : Nat)), (12, .int .u64 (((x * (qd N k) % 18446744073709551616) + cc + 0) / 18446744073709551616 : Nat)), (11, .int .u64 (((x * (qd N k) % 18446744073709551616) + cc + 0) % 18446744073709551616 : Nat)), (10, .int .u64 (x * (qd N k) / 18446744073709551616 : Nat)), (9, .int .u64 (qd N k : Nat)), (8, .int .i64 (k : Nat)), (17, .int .i64 (k : Nat)), (16, .int .i64 (qsz N : Nat)), (15, nv N y), (7, .int .u64 (cc : Nat)), (6, .int .u64 (0 : Nat)), (0, .slice (some ⟨g, f, none⟩) (qsz N) cp), (2, .int .u64 (x : Nat))] ((g, .cells (cn .u64 (midL A (mtL (qsz N) V N x (k + 1)) C)) 22) :: O)) (by kernel_rfl) (fun _ => by kernel_rfl) (⟨(by omega), rfl, (by rw [cn_size, mt_len hA]; omega), (.inl rfl), ((cn_set _ _ _ _).trans (congrArg _ ((midL_set hA (by rw [mtL_len]; omega)).trans (congrArg (midL A · C) (mtL_step _ _ _ _ _ (by omega)))))), fun ac10 wd10 FF10 MM10 => then_n ?_⟩))
    refine rg_seq FF10 MM10 [o_, o_, w_ 1, o_, u_ 1 (.int .u64 (mc V N x (k + 1) : Nat)), o_] [14, 13, 12, 11, 10, 9, 8, 17, 16, 15, 7, 6, 0, 2] (fun Kt => (x * (qd N k) / 18446744073709551616) + (((x * (qd N k) % 18446744073709551616) + cc + 0) / 18446744073709551616) < 18446744073709551616 ∧ ((x * (qd N k) / 18446744073709551616) + (((x * (qd N k) % 18446744073709551616) + cc + 0) / 18446744073709551616)) + (((qd V k) + (((x * (qd N k) % 18446744073709551616) + cc + 0) % 18446744073709551616) + 0) / 18446744073709551616) < 18446744073709551616 ∧ Value.int .u64 (((x * (qd N k) / 18446744073709551616) + (((x * (qd N k) % 18446744073709551616) + cc + 0) / 18446744073709551616)) + (((qd V k) + (((x * (qd N k) % 18446744073709551616) + cc + 0) % 18446744073709551616) + 0) / 18446744073709551616) : Nat) = .int .u64 (mc V N x (k + 1) : Nat) ∧ Kt [(7, .int .u64 (mc V N x (k + 1) : Nat)), (14, .int .u64 (((qd V k) + (((x * (qd N k) % 18446744073709551616) + cc + 0) % 18446744073709551616) + 0) / 18446744073709551616 : Nat)), (13, .int .u64 (qd (V + N * x) k : Nat)), (12, .int .u64 (((x * (qd N k) % 18446744073709551616) + cc + 0) / 18446744073709551616 : Nat)), (11, .int .u64 (((x * (qd N k) % 18446744073709551616) + cc + 0) % 18446744073709551616 : Nat)), (10, .int .u64 (x * (qd N k) / 18446744073709551616 : Nat)), (9, .int .u64 (qd N k : Nat)), (8, .int .i64 (k : Nat)), (17, .int .i64 (k : Nat)), (16, .int .i64 (qsz N : Nat)), (15, nv N y), (6, .int .u64 (0 : Nat)), (0, .slice (some ⟨g, f, none⟩) (qsz N) cp), (2, .int .u64 (x : Nat))] ((g, .cells (cn .u64 (midL A (mtL (qsz N) V N x (k + 1)) C)) 22) :: O)) (by kernel_rfl) (fun _ => by kernel_rfl) (⟨m2, m3, (vI (m4.trans hy)), fun ac11 wd11 FF11 MM11 => ?_⟩)
    refine inb_n (then_n ?_)
    refine rg_seq FF11 MM11 [o_, o_] [7, 14, 13, 12, 11, 10, 9, 8, 17, 16, 15, 6, 0, 2] (fun Kt => k + 1 < 9223372036854775808 ∧ Kt [(17, .int .i64 (k + 1 : Nat)), (7, .int .u64 (mc V N x (k + 1) : Nat)), (14, .int .u64 (((qd V k) + (((x * (qd N k) % 18446744073709551616) + cc + 0) % 18446744073709551616) + 0) / 18446744073709551616 : Nat)), (13, .int .u64 (qd (V + N * x) k : Nat)), (12, .int .u64 (((x * (qd N k) % 18446744073709551616) + cc + 0) / 18446744073709551616 : Nat)), (11, .int .u64 (((x * (qd N k) % 18446744073709551616) + cc + 0) % 18446744073709551616 : Nat)), (10, .int .u64 (x * (qd N k) / 18446744073709551616 : Nat)), (9, .int .u64 (qd N k : Nat)), (8, .int .i64 (k : Nat)), (16, .int .i64 (qsz N : Nat)), (15, nv N y), (6, .int .u64 (0 : Nat)), (0, .slice (some ⟨g, f, none⟩) (qsz N) cp), (2, .int .u64 (x : Nat))] ((g, .cells (cn .u64 (midL A (mtL (qsz N) V N x (k + 1)) C)) 22) :: O)) (by kernel_rfl) (fun _ => by kernel_rfl) (⟨(by omega), fun ac12 wd12 FF12 MM12 => ?_⟩)
    have hd := cnt_of (FF12.get 0 rfl)
    refine then_n ⟨⟨k + 1, mc V N x (k + 1), by omega, rfl, FF12.pick [0, 9, 10, 1, 11, 12, 13], MM12⟩, ?_⟩
    rw [hc, hd]; omega
  · skip
    refine then_n (.inr ⟨(FF5.ev 0 rfl).trans (dec_f hlt), ?_⟩)
    obtain rfl : k = qsz N := by omega
    refine then_n ?_
    refine wp_seq (rg_seq FF5 MM5 [o_, t_ (.int .u64 ((V + N * x) / 18446744073709551616 ^ qsz N : Nat))] [17, 16, 15, 7, 6, 0, 2] (fun Kt => Value.int .u64 (cc : Nat) = .int .u64 ((V + N * x) / 18446744073709551616 ^ qsz N : Nat) ∧ Kt [(6, .int .u64 ((V + N * x) / 18446744073709551616 ^ qsz N : Nat)), (17, .int .i64 ((qsz N) : Nat)), (16, .int .i64 (qsz N : Nat)), (15, nv N y), (7, .int .u64 (cc : Nat)), (0, .slice (some ⟨g, f, none⟩) (qsz N) cp), (2, .int .u64 (x : Nat))] ((g, .cells (cn .u64 (midL A (mtL (qsz N) V N x (qsz N)) C)) 22) :: O)) (by kernel_rfl) (fun _ => by kernel_rfl) (⟨(vI (hcc.trans (mc_end x hV (qsz_ok N).1))), fun ac13 wd13 FF13 MM13 => then_n ?_⟩))
    refine wp_ret ?_
    repeat first | refine then_ret ?_ | refine inb_ret ?_
    exact (ret_fr FF13 0 Tryd.results50 rfl ⟨rfl, by have h9 := MM13.turn (Has.tl H) 0 rfl (fun _ hx => List.mem_cons_of_mem _ (hx)); rw [mtL_all] at h9; exact h9⟩)
theorem nat1_sep {w : World} {g N : Nat} {ob : Obj} {y : Value} (h : NatIn w (nv N y) N) (hg : w.heap[g]? = some ob) (hne : ∀ g', (nv N y).ownBlock = some g' → g' ≠ g) : ∃ O : Blks, Has w ((g, ob) :: O) ∧ Distinct ((g, ob) :: O) ∧ NatO O (nv N y) N := by
  obtain ⟨p, c, h1, h2, h2', h3, h4⟩ := h
  rcases h4 with h4 | ⟨b, cs, T, fr, rfl, h5, h6⟩
  · refine ⟨[], fun i x hx => ?_, ⟨fun y hy => (nomatch hy), trivial⟩, ⟨p, c, h1, h2, h2', h3, .inl h4⟩⟩
    cases i with
    | zero => simp at hx; subst hx; exact hg
    | succ i => simp at hx
  · have hb : b ≠ g := hne b (by rw [h1]; rfl)
    refine ⟨[(b, .cells cs T fr)], fun i x hx => ?_, ⟨fun y hy => by rw [List.mem_singleton] at hy; subst hy; exact hb, fun y hy => (nomatch hy), trivial⟩, ⟨_, c, h1, h2, h2', h3, .inr ⟨b, cs, T, fr, rfl, by simp, h6⟩⟩⟩
    cases i with
    | zero => simp at hx; subst hx; exact hg
    | succ i =>
      cases i with
      | zero => simp at hx; subst hx; exact h5
      | succ i => simp at hx
theorem addt_any (g f cp : Nat) (A C : List Nat) (V N x : Nat) (y : Value) (hA : A.length = f) (hx : x < 18446744073709551616) (hV : V < 18446744073709551616 ^ qsz N) (hs : qsz N < 1000000) (w0 : World) (hg : w0.heap[g]? = some (Obj.cells (cn .u64 (midL A (qleB (qsz N) V) C)) 22)) (hN : NatIn w0 (nv N y) N) (hne : ∀ g', (nv N y).ownBlock = some g' → g' ≠ g) :
    Calls Tryd.prog 50 #[.slice (some ⟨g, f, none⟩) (qsz N) cp, nv N y, .int .u64 (x : Nat)] w0 fun e w' => e = .returned (.int .u64 ((V + N * x) / 18446744073709551616 ^ qsz N : Nat)) ∧ Turn g (.cells (cn .u64 (midL A (qleB (qsz N) (V + N * x)) C)) 22) w0 w' := by
  obtain ⟨O, h1, h2, h3⟩ := nat1_sep hN hg hne
  exact addt_O g f cp A C V N x y O hA hx hV h3 hs w0 h1 h2
/-- A number that lies in the list is in none of its other blocks. -/
theorem natO_ne {O : Blks} {N g : Nat} {y : Value} (h : NatO O (nv N y) N) (hg : ∀ x ∈ O, x.1 ≠ g) : ∀ g', (nv N y).ownBlock = some g' → g' ≠ g := fun g' hg' => by
  obtain ⟨p, c, h1, h2, _, _, h4⟩ := h
  rw [h1] at hg'
  rcases h4 with h4 | ⟨b, cs, T, fr, rfl, h5, h6⟩
  · have := (h2 (qz0 h4)).1
    subst this
    cases hg'
  · obtain rfl : b = g' := by simpa [Value.ownBlock] using hg'
    exact hg _ h5
theorem MemS.headNe {S : Nat → Prop} {w0 w : World} {g : Nat} {ob : Obj} {L : Blks} {R : List Row} (M : MemS S w0 w ((g, ob) :: L) R) : ∀ x ∈ L, x.1 ≠ g := fun x hx => by
  obtain ⟨i, hi⟩ := List.mem_iff_getElem?.1 hx
  exact M.apart (i + 1) 0 x (g, ob) (by simpa using hi) rfl (by omega)

end Go.Proofs.YtcannnmpemnklaaDoor
namespace Go.Proofs.YtcannnmpemnklaaDoor
open Go.RowKit

theorem qleB_0 (n : Nat) : qleB n 0 = List.replicate n 0 := by
  refine ext_getD (by simp [qleB_len]) fun i hi => ?_
  rw [qleB_len] at hi
  rw [qleB_get hi, rep_get]; simp
theorem prod_fit (M N : Nat) : M * N < 18446744073709551616 ^ (qsz M + qsz N) := by have := pr_lt M N (qsz M); rwa [pr_all] at this
theorem qleV_prod (M N : Nat) : qleV (qleB (qsz M + qsz N) (M * N)) = M * N := by rw [qleV_leB, Nat.mod_eq_of_lt (prod_fit M N)]
theorem qsz_mul (M N : Nat) : qsz (M * N) ≤ qsz M + qsz N := qsz_le (prod_fit M N)
theorem MemS.sinkNat {S : Nat → Prop} {w0 w : World} {K O : Blks} {R : List Row} {b : Nat} {ob : Obj} {v : Value} {N : Nat} {l : List (Value × Nat)} (M : MemS S w0 w ((b, ob) :: (K ++ O)) R) (h : NatO [(b, ob)] v N) (hN : Nats O l) : ∃ O', MemS S w0 w (K ++ O') R ∧ Nats O' ((v, N) :: l) ∧ ∀ x ∈ O, x ∈ O' :=
  ⟨(b, ob) :: O, M.perm List.perm_middle.symm, .cons (h.mono fun x hx => by rw [List.mem_singleton] at hx; simp [hx]) (hN.mono fun _ h => List.mem_cons_of_mem _ h), fun _ h => List.mem_cons_of_mem _ h⟩
def oneV (b : Nat) : Value := .slice (some ⟨b, 0, none⟩) 1 1
theorem own_one {N b g : Nat} (h : (nv N (oneV b)).ownBlock = some g) : b = g := by simpa [nv, oneV, pOf, Value.ownBlock] using h
theorem nat_one (b : Nat) (T : TypeId) : NatO [(b, .cells (cn .u64 [1]) T)] (nv 1 (oneV b)) 1 :=
  ⟨some ⟨b, 0, none⟩, 1, rfl, fun h => (by cases h), fun _ => by simp, by decide, .inr ⟨b, cn .u64 [1], T, (0, 0), rfl, by simp, fun j hj => by
    have : j = 0 := by have : qsz 1 = 1 := by decide
                       omega
    subst this
    rfl⟩⟩
set_option maxRecDepth 100000 in
theorem times_O (O : Blks) (hD : Distinct O) (M N : Nat) (x y : Value) (hM : NatO O (nv M x) M) (hN : NatO O (nv N y) N) (hs : qsz M + qsz N < 1000000) (w0 : World) (H : Has w0 O) :
    Calls Tryd.prog 39 #[nv M x, nv N y] w0 fun e w' => ∃ v, e = .returned (nv (M * N) v) ∧ Below w0.heap.size w0 w' ∧ NatNew w0.heap.size w' (nv (M * N) v) (M * N) := by
  refine enter_fr Tryd.func39 rfl Tryd.ntmps39 (by simp) fun ac (FF : Fr 40 ac [(0, nv M x), (1, nv N y)]) => ?_
  have MM : MemS (fun k => k < w0.heap.size ∧ ∀ x ∈ O, x.1 ≠ k) w0 w0 O [] := MemS.startN H hD
  refine wp_seq (rg_seq FF MM [o_] [0, 1, 4] (fun Kt => Kt [(4, .slice none 0 0), (0, nv M x), (1, nv N y)] O) (by kernel_rfl) (fun _ => by kernel_rfl) (fun ac1 wd1 FF1 MM1 => then_n ?_))
  refine wp_seq (rg_seq FF1 MM1 [o_, o_, o_, o_, o_, n_ (.slice none ((qsz M) + (qsz N)) ((qsz M) + (qsz N))) (.cells (cn .u64 (List.replicate ((qsz M) + (qsz N)) 0)) 22), o_] [4, 0, 1, 5] (fun Kt => (qsz M) + (qsz N) < 9223372036854775808 ∧ RunN Tryd.prog [(12, .int .i64 ((qsz M) + (qsz N) : Nat)), (11, .int .i64 (qsz N : Nat)), (10, nv N y), (9, .int .i64 (qsz M : Nat)), (8, nv M x), (4, .slice none 0 0), (0, nv M x), (1, nv N y)] O (opAt Tryd.f39 1 5) (mkOf (.slice none ((qsz M) + (qsz N)) ((qsz M) + (qsz N)))) (.cells (cn .u64 (List.replicate ((qsz M) + (qsz N)) 0)) 22) ∧ ∀ bo, Kt [(5, .slice (some ⟨bo, 0, none⟩) ((qsz M) + (qsz N)) ((qsz M) + (qsz N))), (4, .slice none 0 0), (0, nv M x), (1, nv N y)] ((bo, .cells (cn .u64 (List.replicate ((qsz M) + (qsz N)) 0)) 22) :: O)) (by kernel_rfl) (fun _ => by kernel_rfl) (⟨(by omega), (make64_ok (t := 25) (e := 22) (p := (.tmp 12)) (q := (.tmp 12)) (by kernel_rfl) rfl rfl Tryd.underlying25 (by kernel_rfl) (by omega)), fun bo => fun ac2 wd2 FF2 MM2 => then_n ?_⟩))
  have MMr : MemS (fun k => k < w0.heap.size ∧ ∀ x ∈ O, x.1 ≠ k) w0 wd2 ((bo, .cells (cn .u64 (qleB (qsz M + qsz N) (pr M N 0))) 22) :: O) [] := by rw [pr_zero, qleB_0]; exact MM2
  refine wp_seq ?_
  refine wp_seq (rg_seq FF2 MMr [o_, o_, o_] [5, 4, 0, 1, 14, 15, 16] (fun Kt => Kt [(16, .int .i64 (0 : Nat)), (15, .int .i64 (qsz M : Nat)), (14, nv M x), (5, .slice (some ⟨bo, 0, none⟩) ((qsz M) + (qsz N)) ((qsz M) + (qsz N))), (4, .slice none 0 0), (0, nv M x), (1, nv N y)] ((bo, .cells (cn .u64 (qleB (qsz M + qsz N) (pr M N 0))) 22) :: O)) (by kernel_rfl) (fun _ => by kernel_rfl) (fun ac3 wd3 FF3 MM3 => then_n ?_))
  refine wp_for (fun a' w' => ∃ i : Nat, i ≤ qsz M ∧ Fr 40 a' [(16, .int .i64 (i : Nat)), (15, .int .i64 (qsz M : Nat)), (14, nv M x), (5, .slice (some ⟨bo, 0, none⟩) ((qsz M) + (qsz N)) ((qsz M) + (qsz N))), (4, .slice none 0 0), (0, nv M x), (1, nv N y)] ∧ MemS (fun k => k < w0.heap.size ∧ ∀ x ∈ O, x.1 ≠ k) w0 w' ((bo, .cells (cn .u64 (qleB (qsz M + qsz N) (pr M N i))) 22) :: O) []) (fun a' _ => (qsz M - cnt 16 a').toNat) ⟨0, by omega, FF3.pick [0, 1, 2, 3, 4, 5, 6], MM3⟩ ?_
  rintro ac4 wd4 ⟨i, hi, FF4, MM4⟩
  have hc := cnt_of (FF4.get 0 rfl)
  refine rg_seq FF4 MM4 [o_] [16, 15, 14, 5, 4, 0, 1, 17] (fun Kt => Kt [(17, .bool (decide (i < (qsz M)))), (16, .int .i64 (i : Nat)), (15, .int .i64 (qsz M : Nat)), (14, nv M x), (5, .slice (some ⟨bo, 0, none⟩) ((qsz M) + (qsz N)) ((qsz M) + (qsz N))), (4, .slice none 0 0), (0, nv M x), (1, nv N y)] ((bo, .cells (cn .u64 (qleB (qsz M + qsz N) (pr M N i))) 22) :: O)) (by kernel_rfl) (fun _ => by kernel_rfl) (fun ac5 wd5 FF5 MM5 => ?_)
  by_cases hlt : i < (qsz M)
  · skip
    refine then_n (.inl ⟨(FF5.ev 0 rfl).trans (dec_t hlt), ?_⟩)
    refine wp_seq (rg_seq FF5 MM5 [o_, f_ (.pointer (some ⟨gOf (pOf x), i, none⟩)), f_ (.int .u64 (qd M i : Nat)), o_, o_] [16, 15, 14, 5, 4, 0, 1, 6, 7] (fun Kt => RunV Tryd.prog [(18, .int .i64 (i : Nat)), (17, .bool (decide (i < (qsz M)))), (16, .int .i64 (i : Nat)), (15, .int .i64 (qsz M : Nat)), (14, nv M x), (5, .slice (some ⟨bo, 0, none⟩) ((qsz M) + (qsz N)) ((qsz M) + (qsz N))), (4, .slice none 0 0), (0, nv M x), (1, nv N y)] ((bo, .cells (cn .u64 (qleB (qsz M + qsz N) (pr M N i))) 22) :: O) (opAt Tryd.f39 4 1) (.pointer (some ⟨gOf (pOf x), i, none⟩)) ∧ RunV Tryd.prog [(19, .pointer (some ⟨gOf (pOf x), i, none⟩)), (18, .int .i64 (i : Nat)), (17, .bool (decide (i < (qsz M)))), (16, .int .i64 (i : Nat)), (15, .int .i64 (qsz M : Nat)), (14, nv M x), (5, .slice (some ⟨bo, 0, none⟩) ((qsz M) + (qsz N)) ((qsz M) + (qsz N))), (4, .slice none 0 0), (0, nv M x), (1, nv N y)] ((bo, .cells (cn .u64 (qleB (qsz M + qsz N) (pr M N i))) 22) :: O) (opAt Tryd.f39 4 2) (.int .u64 (qd M i : Nat)) ∧ Kt [(7, .int .u64 (qd M i : Nat)), (6, .int .i64 (i : Nat)), (16, .int .i64 (i : Nat)), (15, .int .i64 (qsz M : Nat)), (14, nv M x), (5, .slice (some ⟨bo, 0, none⟩) ((qsz M) + (qsz N)) ((qsz M) + (qsz N))), (4, .slice none 0 0), (0, nv M x), (1, nv N y)] ((bo, .cells (cn .u64 (qleB (qsz M + qsz N) (pr M N i))) 22) :: O)) (by kernel_rfl) (fun _ => by kernel_rfl) (⟨(rowAddr_ok (x := (.tmp 14)) (y := (.tmp 16)) (by kernel_rfl) rfl rfl Tryd.underlying25 (by kernel_rfl) (natO_cells hM) (by omega)), (rowLoad_ok (x := (.tmp 19)) (i := i) (by kernel_rfl) rfl Tryd.underlying22 rfl (natO_cells hM) (fun _ hx => List.mem_cons_of_mem _ (hx)) (by omega)), fun ac6 wd6 FF6 MM6 => then_n ?_⟩))
    refine wp_region_list ?_
    refine rg_part 14 FF6 MM6 [o_, o_, o_, o_, o_, o_, o_, o_, o_, o_, o_, t_ (.slice (some ⟨bo, i, none⟩) (qsz N) (qsz M + qsz N - i)), o_, o_] [7, 6, 16, 15, 14, 5, 4, 0, 1, 21, 25, 32, 33, 34] (fun Kt => i + (qsz N) < 9223372036854775808 ∧ i + (qsz N) < 9223372036854775808 ∧ i ≤ (i + (qsz N)) ∧ i + (qsz N) ≤ ((qsz M) + (qsz N)) ∧ i < ((qsz M) + (qsz N)) ∧ Value.slice (some ⟨bo, 0 + i, none⟩) ((i + (qsz N)) - i) (((qsz M) + (qsz N)) - i) = .slice (some ⟨bo, i, none⟩) (qsz N) (qsz M + qsz N - i) ∧ Kt [(34, .int .u64 (qd M i : Nat)), (33, nv N y), (32, .slice (some ⟨bo, i, none⟩) (qsz N) (qsz M + qsz N - i)), (25, .int .i64 (i + (qsz N) : Nat)), (21, .slice (some ⟨bo, 0, none⟩) ((qsz M) + (qsz N)) ((qsz M) + (qsz N))), (7, .int .u64 (qd M i : Nat)), (6, .int .i64 (i : Nat)), (16, .int .i64 (i : Nat)), (15, .int .i64 (qsz M : Nat)), (14, nv M x), (5, .slice (some ⟨bo, 0, none⟩) ((qsz M) + (qsz N)) ((qsz M) + (qsz N))), (4, .slice none 0 0), (0, nv M x), (1, nv N y)] ((bo, .cells (cn .u64 (qleB (qsz M + qsz N) (pr M N i))) 22) :: O)) (by kernel_rfl) (fun _ => by kernel_rfl) (⟨(by omega), (by omega), (by omega), (by omega), (by omega), (by rw [Nat.zero_add, Nat.add_sub_cancel_left]), fun ac7 wd7 FF7 MM7 => ?_⟩)
    refine st_callM [25, 21, 7, 6, 16, 15, 14, 5, 4, 0, 1, 35] FF7 (d := 35) en_addt rfl rfl (addt_any bo i _ (qleB i (pr M N i)) (List.replicate (qsz M + qsz N - i - qsz N) 0) (pr M N i / 18446744073709551616 ^ i) N (qd M i) y (qleB_len _ _) (qd_lt _ _) (pr_seg M N i) (by omega) _ (by rw [← split3 (by omega) (pr_lt M N i)]; exact MM7.get 0 rfl) (hN.at (Has.tl MM7.hasL)) (natO_ne hN MM7.headNe)) rfl (by kernel_rfl) (by decide) fun ac8 wd8 (FF8 : Fr 40 ac8 [(35, .int .u64 ((pr M N i / 18446744073709551616 ^ i + N * qd M i) / 18446744073709551616 ^ qsz N : Nat)), (25, .int .i64 (i + (qsz N) : Nat)), (21, .slice (some ⟨bo, 0, none⟩) ((qsz M) + (qsz N)) ((qsz M) + (qsz N))), (7, .int .u64 (qd M i : Nat)), (6, .int .i64 (i : Nat)), (16, .int .i64 (i : Nat)), (15, .int .i64 (qsz M : Nat)), (14, nv M x), (5, .slice (some ⟨bo, 0, none⟩) ((qsz M) + (qsz N)) ((qsz M) + (qsz N))), (4, .slice none 0 0), (0, nv M x), (1, nv N y)]) hr9 => ?_
    have MM8t : MemS (fun k => k < w0.heap.size ∧ ∀ x ∈ O, x.1 ≠ k) w0 wd8 ((bo, .cells (cn .u64 (midL (qleB i (pr M N i)) (qleB (qsz N) (pr M N i / 18446744073709551616 ^ i + N * qd M i)) (List.replicate (qsz M + qsz N - i - qsz N) 0))) 22) :: O) [] := MM7.turned hr9
    refine rg_part 2 FF8 MM8t [w_ 1, s_ 0 (.cells (cn .u64 (qleB (qsz M + qsz N) (pr M N (i + 1)))) 22)] [7, 6, 16, 15, 14, 5, 4, 0, 1] (fun Kt => (i + (qsz N)) < ((qsz M) + (qsz N)) ∧ bo = bo ∧ i + (qsz N) < (cn .u64 (midL (qleB i (pr M N i)) (qleB (qsz N) (pr M N i / 18446744073709551616 ^ i + N * qd M i)) (List.replicate (qsz M + qsz N - i - qsz N) 0))).size ∧ (((0, 0)).2 = 0 ∨ i + (qsz N) < ((0, 0)).1) ∧ (cn .u64 (midL (qleB i (pr M N i)) (qleB (qsz N) (pr M N i / 18446744073709551616 ^ i + N * qd M i)) (List.replicate (qsz M + qsz N - i - qsz N) 0))).setIfInBounds (i + (qsz N)) (.int .u64 ((pr M N i / 18446744073709551616 ^ i + N * qd M i) / 18446744073709551616 ^ qsz N : Nat)) = cn .u64 (qleB (qsz M + qsz N) (pr M N (i + 1))) ∧ Kt [(7, .int .u64 (qd M i : Nat)), (6, .int .i64 (i : Nat)), (16, .int .i64 (i : Nat)), (15, .int .i64 (qsz M : Nat)), (14, nv M x), (5, .slice (some ⟨bo, 0, none⟩) ((qsz M) + (qsz N)) ((qsz M) + (qsz N))), (4, .slice none 0 0), (0, nv M x), (1, nv N y)] ((bo, .cells (cn .u64 (qleB (qsz M + qsz N) (pr M N (i + 1)))) 22) :: O)) (by kernel_rfl) (fun _ => by kernel_rfl) (⟨(by omega), rfl, (by rw [cn_size, midL_len, qleB_len, qleB_len, List.length_replicate]; omega), (.inl rfl), ((cn_set _ _ _ _).trans (congrArg _ (times_step (by omega)))), fun ac10 wd10 FF10 MM10 => ?_⟩)
    refine wpl_nil ?_
    refine inb_n (then_n ?_)
    refine rg_seq FF10 MM10 [o_, o_] [7, 6, 16, 15, 14, 5, 4, 0, 1] (fun Kt => i + 1 < 9223372036854775808 ∧ Kt [(16, .int .i64 (i + 1 : Nat)), (7, .int .u64 (qd M i : Nat)), (6, .int .i64 (i : Nat)), (15, .int .i64 (qsz M : Nat)), (14, nv M x), (5, .slice (some ⟨bo, 0, none⟩) ((qsz M) + (qsz N)) ((qsz M) + (qsz N))), (4, .slice none 0 0), (0, nv M x), (1, nv N y)] ((bo, .cells (cn .u64 (qleB (qsz M + qsz N) (pr M N (i + 1)))) 22) :: O)) (by kernel_rfl) (fun _ => by kernel_rfl) (⟨(by omega), fun ac11 wd11 FF11 MM11 => ?_⟩)
    have hd := cnt_of (FF11.get 0 rfl)
    refine then_n ⟨⟨i + 1, by omega, FF11.pick [0, 3, 4, 5, 6, 7, 8], MM11⟩, ?_⟩
    rw [hc, hd]; omega
  · skip
    refine then_n (.inr ⟨(FF5.ev 0 rfl).trans (dec_f hlt), ?_⟩)
    obtain rfl : i = qsz M := by omega
    have MMl : MemS (fun k => k < w0.heap.size ∧ ∀ x ∈ O, x.1 ≠ k) w0 wd5 ((bo, .cells (cn .u64 (qleB (qsz M + qsz N) (M * N))) 22) :: O) [] := by rw [← pr_all]; exact MM5
    refine then_n ?_
    refine wp_seq (rg_seq FF5 MMl [o_, u_ 1 (trimV (some ⟨bo, 0, none⟩) (M * N) ((qsz M) + (qsz N))), o_] [16, 15, 14, 5, 4, 0, 1] (fun Kt => CallP Tryd.prog 30 [.slice (some ⟨bo, 0, none⟩) ((qsz M) + (qsz N)) ((qsz M) + (qsz N))] ((bo, .cells (cn .u64 (qleB (qsz M + qsz N) (M * N))) 22) :: O) (trimV (some ⟨bo, 0, none⟩) (M * N) ((qsz M) + (qsz N))) ∧ Kt [(4, trimV (some ⟨bo, 0, none⟩) (M * N) ((qsz M) + (qsz N))), (16, .int .i64 ((qsz M) : Nat)), (15, .int .i64 (qsz M : Nat)), (14, nv M x), (5, .slice (some ⟨bo, 0, none⟩) ((qsz M) + (qsz N)) ((qsz M) + (qsz N))), (0, nv M x), (1, nv N y)] ((bo, .cells (cn .u64 (qleB (qsz M + qsz N) (M * N))) 22) :: O)) (by kernel_rfl) (fun _ => by kernel_rfl) (⟨⟨en_trimd, fun w Hw => by have h0 := trimd_any (some ⟨bo, 0, none⟩) ((qsz M) + (qsz N)) (qleB (qsz M + qsz N) (M * N)) (qleB_lt _ _) (by rw [qleB_len]; exact Nat.le_refl _) (by rw [qleB_len]; omega) w (.inr ⟨bo, _, _, _, rfl, Hw 0 _ rfl, fun j hj => cn_get _ _ _ hj⟩); rw [show (qleB (qsz M + qsz N) (M * N)).length = (qsz M) + (qsz N) from (qleB_len _ _), qleV_prod] at h0; exact h0⟩, fun ac12 wd12 FF12 MM12 => then_n ?_⟩))
    refine wp_ret ?_
    repeat first | refine then_ret ?_ | refine inb_ret ?_
    exact (ret_fr FF12 0 Tryd.results39 rfl ⟨trimV (some ⟨bo, 0, none⟩) (M * N) (qsz M + qsz N), rfl, MM12.belowN H (fun _ hx => List.mem_cons_of_mem _ (hx)), by have h0 := trim_new0 (c := qsz M + qsz N) (X := qleB (qsz M + qsz N) (M * N)) (base := w0.heap.size) (qleB_lt _ _) (by rw [qleB_len]; exact Nat.le_refl _) (MM12.get 0 rfl) (MM12.newest (fun _ h => h)); rw [qleV_prod] at h0; exact h0⟩)
theorem times_any (M N : Nat) (x y : Value) (hs : qsz M + qsz N < 1000000) (w0 : World) (hM : NatIn w0 (nv M x) M) (hN : NatIn w0 (nv N y) N) : Calls Tryd.prog 39 #[nv M x, nv N y] w0 fun e w' => ∃ v, e = .returned (nv (M * N) v) ∧ Below w0.heap.size w0 w' ∧ NatNew w0.heap.size w' (nv (M * N) v) (M * N) := by
  obtain ⟨O, h1, h2, h3, h4⟩ := nat2_O hM hN
  exact times_O O h2 M N x y h3 h4 hs w0 h1
/-- The product of the first i. -/
def prI (ns : List Nat) (i : Nat) : Nat := (ns.take i).foldl (· * ·) 1
def prN (ns : List Nat) : Nat := ns.foldl (· * ·) 1
theorem prI_step (ns : List Nat) (i : Nat) (h : i < ns.length) : prI ns i * ns.getD i 0 = prI ns (i + 1) := by
  rw [prI, prI, List.take_add_one, List.foldl_append, List.getElem?_eq_getElem h]
  simp [List.getD_eq_getElem?_getD, List.getElem?_eq_getElem h]
theorem prI_all (ns : List Nat) : prI ns ns.length = prN ns := by rw [prI, List.take_length]; rfl
theorem prI_sz {ns : List Nat} (h : ∀ j, j < ns.length → qsz (ns.getD j 0) ≤ 1000) : ∀ i, i ≤ ns.length → qsz (prI ns i) ≤ 1 + 1000 * i
  | 0, _ => by rw [show prI ns 0 = 1 from rfl]; decide
  | i + 1, hi => by
    rw [← prI_step ns i (by omega)]
    have h1 := qsz_mul (prI ns i) (ns.getD i 0)
    have h2 := prI_sz h i (by omega)
    have h3 := h i (by omega)
    omega

end Go.Proofs.YtcannnmpemnklaaDoor
namespace Go.Proofs.YtcannnmpemnklaaDoor
open Go.RowKit

set_option maxRecDepth 100000 in
theorem nmul_O (O : Blks) (hD : Distinct O) (p : Option Addr) (cp : Nat) (ns : List Nat) (xs : List Value) (hA : NatsO O p ns xs) (h1 : ∀ j, j < ns.length → qsz (ns.getD j 0) ≤ 1000) (hl : ns.length ≤ 100) (w0 : World) (H : Has w0 O) :
    Calls Tryd.prog 25 #[.slice p ns.length cp] w0 fun e w' => ∃ v, e = .returned (.agg #[nv (prN ns) v]) ∧ Below w0.heap.size w0 w' ∧ NatNew w0.heap.size w' (nv (prN ns) v) (prN ns) := by
  refine enter_fr Tryd.func25 rfl Tryd.ntmps25 (by simp) fun ac (FF : Fr 20 ac [(0, .slice p ns.length cp)]) => ?_
  have MM : MemS (fun k => k < w0.heap.size ∧ ∀ x ∈ O, x.1 ≠ k) w0 w0 O [] := MemS.startN H hD
  refine wp_seq (rg_seq FF MM [o_] [0, 2] (fun Kt => ∀ br, Kt [(2, .pointer (some ⟨br, 0, none⟩)), (0, .slice p ns.length cp)] ((br, .cells (#[.slice none 0 0] : Array Value) 27) :: O)) (by kernel_rfl) (fun _ => by kernel_rfl) (fun br => fun ac1 wd1 FF1 MM1 => then_n ?_))
  refine wp_seq (rg_seq FF1 MM1 [o_, o_] [2, 0, 3] (fun Kt => ∀ b1, Kt [(3, .slice (some ⟨b1, 0, none⟩) 1 1), (2, .pointer (some ⟨br, 0, none⟩)), (0, .slice p ns.length cp)] ((b1, .cells (cn .u64 [1]) 22) :: (br, .cells (#[.slice none 0 0] : Array Value) 27) :: O)) (by kernel_rfl) (fun _ => by kernel_rfl) (fun b1 => fun ac2 wd2 FF2 MM2 => then_n ?_))
  have hb1 : w0.heap.size ≤ b1 := MM2.newest (fun _ hx => List.mem_cons_of_mem _ (hx))
  obtain ⟨O3, MM40, hN5, hs6⟩ := MemS.sinkNat (K := [(br, .cells (#[.slice none 0 0] : Array Value) 27)]) (O := O) (v := (nv 1 (oneV b1))) (N := 1) MM2 (nat_one b1 22) (Nats.nil O)
  have MM4 : MemS (fun k => k < w0.heap.size ∧ ∀ x ∈ O, x.1 ≠ k) w0 wd2 ((br, .cells (#[.slice none 0 0] : Array Value) 27) :: O3) [] := MM40
  have hA_7 := hA.mono hs6
  refine wp_seq ?_
  refine wp_seq (rg_seq FF2 MM4 [o_, o_, o_] [3, 2, 7, 8, 9] (fun Kt => Kt [(9, .int .i64 (0 : Nat)), (8, .int .i64 (ns.length : Nat)), (7, .slice p ns.length cp), (3, nv (prI ns 0) (oneV b1)), (2, .pointer (some ⟨br, 0, none⟩))] ((br, .cells (#[.slice none 0 0] : Array Value) 27) :: O3)) (by kernel_rfl) (fun _ => by kernel_rfl) (fun ac8 wd8 FF8 MM8 => then_n ?_))
  refine wp_for (fun a' w' => ∃ O1 : Blks, ∃ i : Nat, ∃ v : Value, i ≤ ns.length ∧ (∀ x ∈ O, x ∈ O1) ∧ Nats O1 [(nv (prI ns i) v, prI ns i)] ∧ (∀ g, (nv (prI ns i) v).ownBlock = some g → w0.heap.size ≤ g) ∧ Fr 20 a' [(9, .int .i64 (i : Nat)), (8, .int .i64 (ns.length : Nat)), (7, .slice p ns.length cp), (3, nv (prI ns i) v), (2, .pointer (some ⟨br, 0, none⟩))] ∧ MemS (fun k => k < w0.heap.size ∧ ∀ x ∈ O, x.1 ≠ k) w0 w' ((br, .cells (#[.slice none 0 0] : Array Value) 27) :: O1) []) (fun a' _ => (ns.length - cnt 9 a').toNat) ⟨O3, 0, (oneV b1), by omega, hs6, hN5, (fun g hg => own_one hg ▸ hb1), FF8.pick [0, 1, 2, 3, 4], MM8⟩ ?_
  rintro ac9 wd9 ⟨O1, i, v, hi, hsb, hN1, hfr, FF9, MM9⟩
  have hA1 := hA.mono hsb
  have hc := cnt_of (FF9.get 0 rfl)
  refine rg_seq FF9 MM9 [o_] [9, 8, 7, 3, 2, 10] (fun Kt => Kt [(10, .bool (decide (i < ns.length))), (9, .int .i64 (i : Nat)), (8, .int .i64 (ns.length : Nat)), (7, .slice p ns.length cp), (3, nv (prI ns i) v), (2, .pointer (some ⟨br, 0, none⟩))] ((br, .cells (#[.slice none 0 0] : Array Value) 27) :: O1)) (by kernel_rfl) (fun _ => by kernel_rfl) (fun ac10 wd10 FF10 MM10 => ?_)
  by_cases hlt : i < ns.length
  · skip
    refine then_n (.inl ⟨(FF10.ev 0 rfl).trans (dec_t hlt), ?_⟩)
    refine wp_seq (rg_seq FF10 MM10 [f_ (.pointer (some ⟨gOf p, i, none⟩)), f_ (.agg (#[nv (ns.getD i 0) (xs.getD i undef)] : Array Value)), o_, b_ 0] [9, 8, 7, 3, 2, 5] (fun Kt => RunV Tryd.prog [(10, .bool (decide (i < ns.length))), (9, .int .i64 (i : Nat)), (8, .int .i64 (ns.length : Nat)), (7, .slice p ns.length cp), (3, nv (prI ns i) v), (2, .pointer (some ⟨br, 0, none⟩))] ((br, .cells (#[.slice none 0 0] : Array Value) 27) :: O1) (opAt Tryd.f25 4 0) (.pointer (some ⟨gOf p, i, none⟩)) ∧ RunV Tryd.prog [(11, .pointer (some ⟨gOf p, i, none⟩)), (10, .bool (decide (i < ns.length))), (9, .int .i64 (i : Nat)), (8, .int .i64 (ns.length : Nat)), (7, .slice p ns.length cp), (3, nv (prI ns i) v), (2, .pointer (some ⟨br, 0, none⟩))] ((br, .cells (#[.slice none 0 0] : Array Value) 27) :: O1) (opAt Tryd.f25 4 1) (.agg (#[nv (ns.getD i 0) (xs.getD i undef)] : Array Value)) ∧ ∀ b1, b1 = b1 ∧ (#[.slice none 0 0] : Array Value).size = 1 ∧ (#[nv (ns.getD i 0) (xs.getD i undef)] : Array Value).size = 1 ∧ (#[nv (ns.getD i 0) (xs.getD i undef)] : Array Value).all (·.oneCell') = true ∧ (0, 0).2 = 0 ∧ Kt [(5, .pointer (some ⟨b1, 0, none⟩)), (9, .int .i64 (i : Nat)), (8, .int .i64 (ns.length : Nat)), (7, .slice p ns.length cp), (3, nv (prI ns i) v), (2, .pointer (some ⟨br, 0, none⟩))] ((b1, .cells (#[nv (ns.getD i 0) (xs.getD i undef)] : Array Value) 27) :: (br, .cells (#[.slice none 0 0] : Array Value) 27) :: O1)) (by kernel_rfl) (fun _ => by kernel_rfl) (⟨(rowAddr_ok (x := (.tmp 7)) (y := (.tmp 9)) (by kernel_rfl) rfl rfl Tryd.underlying45 (by kernel_rfl) hA1.1 (by omega)), (rowLoadA_ok (x := (.tmp 11)) (i := i) (by kernel_rfl) rfl Tryd.underlying27 rfl (by kernel_rfl) hA1.1 (fun _ hx => List.mem_cons_of_mem _ (hx)) (by omega)), fun b1 => ⟨rfl, rfl, rfl, (by kernel_rfl), rfl, fun ac11 wd11 FF11 MM11 => then_n ?_⟩⟩))
    refine wp_region_list ?_
    refine rg_part 3 FF11 MM11 [o_, o_, l_ 0 (nv (ns.getD i 0) (xs.getD i undef))] [5, 9, 8, 7, 3, 2, 13, 15] (fun Kt => b1 = b1 ∧ (#[nv (ns.getD i 0) (xs.getD i undef)] : Array Value)[0]? = some (nv (ns.getD i 0) (xs.getD i undef)) ∧ Kt [(15, nv (ns.getD i 0) (xs.getD i undef)), (13, nv (prI ns i) v), (5, .pointer (some ⟨b1, 0, none⟩)), (9, .int .i64 (i : Nat)), (8, .int .i64 (ns.length : Nat)), (7, .slice p ns.length cp), (3, nv (prI ns i) v), (2, .pointer (some ⟨br, 0, none⟩))] ((b1, .cells (#[nv (ns.getD i 0) (xs.getD i undef)] : Array Value) 27) :: (br, .cells (#[.slice none 0 0] : Array Value) 27) :: O1)) (by kernel_rfl) (fun _ => by kernel_rfl) (⟨rfl, rfl, fun ac12 wd12 FF12 MM12 => ?_⟩)
    refine st_callE [5, 9, 8, 7, 3, 2, 16] FF12 (d := 16) (mk := fun v => nv ((prI ns i) * (ns.getD i 0)) v) en_times rfl rfl (times_any (prI ns i) (ns.getD i 0) v (xs.getD i undef) (by have := prI_sz h1 i (by omega); have := h1 i (by omega); omega) _ ((hN1.get 0 rfl).at (Has.tl (Has.tl MM12.hasL))) ((hA1.2 i (by omega)).at (Has.tl (Has.tl MM12.hasL)))) rfl (by kernel_rfl) (by decide) fun ac14 wd14 lv13 (FF14 : Fr 20 ac14 [(16, nv ((prI ns i) * (ns.getD i 0)) lv13), (5, .pointer (some ⟨b1, 0, none⟩)), (9, .int .i64 (i : Nat)), (8, .int .i64 (ns.length : Nat)), (7, .slice p ns.length cp), (3, nv (prI ns i) v), (2, .pointer (some ⟨br, 0, none⟩))]) hr15 => ?_
    rw [prI_step ns i (by omega)] at FF14 hr15
    have hfr2 : ∀ g, (nv (prI ns (i + 1)) lv13).ownBlock = some g → w0.heap.size ≤ g := fun g hg => Nat.le_trans MM12.size (hr15.2.2 g hg)
    obtain ⟨O16, MM170, hN18, hs19⟩ := MemS.addNats (K := [(b1, .cells (#[nv (ns.getD i 0) (xs.getD i undef)] : Array Value) 27), (br, .cells (#[.slice none 0 0] : Array Value) 27)]) (O := O1) MM12 hr15.1 hr15.2 hN1
    have MM17 : MemS (fun k => k < w0.heap.size ∧ ∀ x ∈ O, x.1 ≠ k) w0 wd14 ((b1, .cells (#[nv (ns.getD i 0) (xs.getD i undef)] : Array Value) 27) :: (br, .cells (#[.slice none 0 0] : Array Value) 27) :: O16) [] := MM170
    have hA_20 := hA1.mono hs19
    have hz21 : ∀ x ∈ O, x ∈ O16 := fun x hx => hs19 x (hsb x hx)
    have hN9 : Nats O16 [(nv (prI ns (i + 1)) lv13, prI ns (i + 1))] := .cons (hN18.get 0 rfl) (.nil _)
    refine rg_part 1 FF14 MM17 [o_] [5, 9, 8, 7, 3, 2] (fun Kt => Kt [(3, nv (prI ns (i + 1)) lv13), (5, .pointer (some ⟨b1, 0, none⟩)), (9, .int .i64 (i : Nat)), (8, .int .i64 (ns.length : Nat)), (7, .slice p ns.length cp), (2, .pointer (some ⟨br, 0, none⟩))] ((b1, .cells (#[nv (ns.getD i 0) (xs.getD i undef)] : Array Value) 27) :: (br, .cells (#[.slice none 0 0] : Array Value) 27) :: O16)) (by kernel_rfl) (fun _ => by kernel_rfl) (fun ac22 wd22 FF22 MM22 => ?_)
    refine wpl_nil ?_
    refine inb_n (then_n ?_)
    refine rg_seq FF22 MM22 [o_, o_] [3, 5, 9, 8, 7, 2] (fun Kt => i + 1 < 9223372036854775808 ∧ Kt [(9, .int .i64 (i + 1 : Nat)), (3, nv (prI ns (i + 1)) lv13), (5, .pointer (some ⟨b1, 0, none⟩)), (8, .int .i64 (ns.length : Nat)), (7, .slice p ns.length cp), (2, .pointer (some ⟨br, 0, none⟩))] ((b1, .cells (#[nv (ns.getD i 0) (xs.getD i undef)] : Array Value) 27) :: (br, .cells (#[.slice none 0 0] : Array Value) 27) :: O16)) (by kernel_rfl) (fun _ => by kernel_rfl) (⟨(by omega), fun ac23 wd23 FF23 MM23 => ?_⟩)
    have hd := cnt_of (FF23.get 0 rfl)
    refine then_n ⟨⟨O16, i + 1, lv13, by omega, hz21, hN9, hfr2, FF23.pick [0, 3, 4, 1, 5], (MM23.dropAt 0)⟩, ?_⟩
    rw [hc, hd]; omega
  · skip
    refine then_n (.inr ⟨(FF10.ev 0 rfl).trans (dec_f hlt), ?_⟩)
    obtain rfl : i = ns.length := by omega
    refine then_n ?_
    refine wp_seq (rg_seq FF10 MM10 [o_, o_, b_ 0] [9, 8, 7, 3, 2] (fun Kt => br = br ∧ (#[.slice none 0 0] : Array Value).size = 1 ∧ (#[nv (prI ns ns.length) v] : Array Value).size = 1 ∧ (#[nv (prI ns ns.length) v] : Array Value).all (·.oneCell') = true ∧ (0, 0).2 = 0 ∧ Kt [(9, .int .i64 (ns.length : Nat)), (8, .int .i64 (ns.length : Nat)), (7, .slice p ns.length cp), (3, nv (prI ns ns.length) v), (2, .pointer (some ⟨br, 0, none⟩))] ((br, .cells (#[nv (prI ns ns.length) v] : Array Value) 27) :: O1)) (by kernel_rfl) (fun _ => by kernel_rfl) (⟨rfl, rfl, rfl, (by kernel_rfl), rfl, fun ac24 wd24 FF24 MM24 => then_n ?_⟩))
    refine wp_ret ?_
    repeat first | refine then_ret ?_ | refine inb_ret ?_
    exact (retc FF24 MM24 (k := 1) (i := 0) (j := 4) Tryd.results25 rfl rfl Tryd.underlying27 rfl (by kernel_rfl) rfl (by have h9 : NatNew w0.heap.size _ (nv (prI ns ns.length) v) (prI ns ns.length) := ⟨(hN1.get 0 rfl).at (Has.tl MM24.hasL), hfr⟩; rw [prI_all] at h9 ⊢; exact ⟨v, rfl, MM24.belowN H (fun _ hx => List.mem_cons_of_mem _ (hsb _ hx)), h9⟩))
theorem nmul_any (p : Option Addr) (cp : Nat) (ns : List Nat) (xs : List Value) (h1 : ∀ j, j < ns.length → qsz (ns.getD j 0) ≤ 1000) (hl : ns.length ≤ 100) (w0 : World) (hA : NatsIn w0 p ns xs) : Calls Tryd.prog 25 #[.slice p ns.length cp] w0 fun e w' => ∃ v, e = .returned (.agg #[nv (prN ns) v]) ∧ Below w0.heap.size w0 w' ∧ NatNew w0.heap.size w' (nv (prN ns) v) (prN ns) := by
  obtain ⟨O, g1, g2, g3⟩ := natsIn_O hA
  exact nmul_O O g2 p cp ns xs g3 h1 hl w0 g1

end Go.Proofs.YtcannnmpemnklaaDoor
