/- The walk of 'wakes' of the statements of layer 3. -/
import Derived.Test.YtlpoimmpjcldjaaW6
namespace Go.Proofs.Ytlpoimmpjcldjaa
open Go.RowKit

set_option maxRecDepth 100000 in
set_option maxHeartbeats 1000000 in
theorem wakes_any (w0 : World) : Calls Try.prog 7 #[] w0 fun e w' => e = .returned (.bool true) ∧ Below w0.heap.size w0 w' := by
  refine enter_fr Try.func7 rfl Try.ntmps7 (by simp) fun a (F : Fr 31 a []) => ?_
  have M := Mem.start w0
  refine wp_seq (wp_region_list ?_)
  refine st_val [] F (d := 0) (v := (.bool false)) rfl rfl (by decide) (ex_assign rfl rfl) fun a1 (F2 : Fr 31 a1 []) => ?_
  refine wpl_nil (then_n ?_)
  refine wp_seq (wp_region_list ?_)
  refine st_val [0] F2 (d := 4) (v := (.agg (cn .u8 (riseTo 0)))) rfl rfl (by decide) (by simp [execOp, Act.eval, cn, riseTo, go_sem]) fun a3 (F4 : Fr 31 a3 [(4, (.agg (cn .u8 (riseTo 0))))]) => ?_
  refine st_alloc [0, 1] F4 M (d := 1) (.cells (cn .u8 (riseTo 0)) 23) (fun b => .pointer (some ⟨b, 0, none⟩)) rfl rfl (by decide) (by simp [execOp, go_sem, cn, riseTo]) fun a5 w7 b (F6 : Fr 31 a5 [(1, (.pointer (some ⟨b, 0, none⟩))), (4, (.agg (cn .u8 (riseTo 0))))]) (M8 : Mem w0.heap.size w0 w7 [(b, .cells (cn .u8 (riseTo 0)) 23)]) => ?_
  refine st_store F6 M8 (k := 32) (t := 1) (s := 4) (b := b) (i := 0) (j := 0) (m := 1) rfl rfl rfl rfl (by kernel_rfl) (by rw [cn_size]; rfl) (by rw [cn_size]; rfl) (cn_one _ _) rfl rfl fun w9 (M10 : Mem w0.heap.size w0 w9 [(b, .cells (cn .u8 (riseTo 0)) 23)]) => ?_
  refine wpl_nil (then_n ?_)
  refine wp_seq (wp_seq (wp_region_list ?_))
  refine st_val [0, 1] F6 (d := 2) (v := (.int .i64 0)) rfl rfl (by decide) (ex_assign rfl rfl) fun a11 (F12 : Fr 31 a11 [(2, (.int .i64 0)), (1, (.pointer (some ⟨b, 0, none⟩)))]) => ?_
  refine wpl_nil (then_n ?_)
  refine wp_for2 (fun a' w' => ∃ i : Nat, i ≤ 32 ∧ Fr 31 a' [(1, (.pointer (some ⟨b, 0, none⟩))), (2, .int .i64 (i : Nat))] ∧ Mem w0.heap.size w0 w' [(b, .cells (cn .u8 (riseTo i)) 23)]) (fun a' _ => (32 - cnt 2 a').toNat) ⟨0, by omega, F12.pick [1, 0], M10⟩ ?_
  rintro a w ⟨i, hr, F, M⟩
  have hc := cnt_of (F.get 1 rfl)
  by_cases hlt : i < 32
  · refine wp_region_list ?_
    refine st_val [0, 1, 2] F (d := 5) (v := .int .i64 (i : Nat)) rfl rfl (by decide) (ex_move rfl (F.ev 1 rfl)) fun a13 (F14 : Fr 31 a13 [(5, .int .i64 (i : Nat)), (1, (.pointer (some ⟨b, 0, none⟩))), (2, .int .i64 (i : Nat))]) => ?_
    refine st_val [0, 2, 3] F14 (d := 6) (v := (.bool true)) rfl rfl (by decide) (by simp [execOp, Act.eval, (F14.get 0 rfl), go_sem]; omega) fun a15 (F16 : Fr 31 a15 [(6, (.bool true)), (1, (.pointer (some ⟨b, 0, none⟩))), (2, .int .i64 (i : Nat))]) => ?_
    refine wpl_nil (then_n (.inl ⟨F16.ev 0 rfl, ?_⟩))
    refine wp_region_list ?_
    refine st_val [0, 2, 3] F16 (d := 9) (v := .int .i64 (i : Nat)) rfl rfl (by decide) (ex_move rfl (F16.ev 2 rfl)) fun a17 (F18 : Fr 31 a17 [(9, .int .i64 (i : Nat)), (1, (.pointer (some ⟨b, 0, none⟩))), (2, .int .i64 (i : Nat))]) => ?_
    refine st_val [0, 1, 2, 3] F18 (d := 10) (v := .int .i64 (i : Nat)) rfl rfl (by decide) (ex_move rfl (F18.ev 2 rfl)) fun a19 (F20 : Fr 31 a19 [(10, .int .i64 (i : Nat)), (9, .int .i64 (i : Nat)), (1, (.pointer (some ⟨b, 0, none⟩))), (2, .int .i64 (i : Nat))]) => ?_
    refine st_val [0, 2, 3, 4] F20 (d := 11) (v := (.int .u8 (i : Nat))) rfl rfl (by decide) (by simp [execOp, Act.eval, (F20.get 0 rfl), go_sem]; rw [wrapB]; omega) fun a21 (F22 : Fr 31 a21 [(11, (.int .u8 (i : Nat))), (9, .int .i64 (i : Nat)), (1, (.pointer (some ⟨b, 0, none⟩))), (2, .int .i64 (i : Nat))]) => ?_
    refine st_val [0, 1, 3, 4] F22 (d := 12) (v := (.pointer (some ⟨b, i, none⟩))) rfl rfl (by decide) (ex_idx (i := i) rfl (F22.get 2 rfl) (F22.ev 1 rfl) Try.underlying23 hlt (by kernel_rfl)) fun a23 (F24 : Fr 31 a23 [(12, (.pointer (some ⟨b, i, none⟩))), (11, (.int .u8 (i : Nat))), (1, (.pointer (some ⟨b, 0, none⟩))), (2, .int .i64 (i : Nat))]) => ?_
    refine st_put F24 M (t := 12) (s := 11) (b := b) (o := i) (i := 0) (j := 0) (m := 1) rfl rfl rfl rfl (by kernel_rfl) (by rw [cn_size, riseTo_len]; exact hlt) rfl rfl rfl fun w25 h27 => ?_
    have M26 : Mem w0.heap.size w0 w25 [(b, .cells (cn .u8 (riseTo (i + 1))) 23)] := by rw [cn_set] at h27; exact h27
    clear h27
    refine wpl_nil (inb_n (then_n ?_))
    refine wp_region_list ?_
    refine st_val [0, 3, 4] F24 (d := 7) (v := .int .i64 (i : Nat)) rfl rfl (by decide) (ex_move rfl (F24.ev 3 rfl)) fun a28 (F29 : Fr 31 a28 [(7, .int .i64 (i : Nat)), (1, (.pointer (some ⟨b, 0, none⟩))), (2, .int .i64 (i : Nat))]) => ?_
    refine st_val [0, 2, 3] F29 (d := 8) (v := (.int .i64 ((i + 1 : Nat) : Int))) rfl rfl (by decide) (by simp [execOp, Act.eval, (F29.get 0 rfl), go_sem]; rw [IntKind.wrap_i64]; omega) fun a30 (F31 : Fr 31 a30 [(8, (.int .i64 ((i + 1 : Nat) : Int))), (1, (.pointer (some ⟨b, 0, none⟩))), (2, .int .i64 (i : Nat))]) => ?_
    refine st_val [0, 2] F31 (d := 2) (v := (.int .i64 ((i + 1 : Nat) : Int))) rfl rfl (by decide) (ex_assign rfl (F31.ev 0 rfl)) fun a32 (F33 : Fr 31 a32 [(2, (.int .i64 ((i + 1 : Nat) : Int))), (1, (.pointer (some ⟨b, 0, none⟩)))]) => ?_
    refine wpl_nil (then_n ⟨⟨i + 1, by omega, F33.pick [1, 0], M26⟩, ?_⟩)
    rw [cnt_of (F33.get 0 rfl), hc]; omega
  · obtain rfl : i = 32 := by omega
    rw [riseTo_all] at M
    have sR : (cn .u8 rise).size = 32 := by rw [cn_size]; rfl
    have KB := Block_any rise wakeN 1 rise_bytes (by decide) wakeN_bytes
    have KM := Mask_any rise (List.replicate 12 0) [97, 98, 99] 0 rise_bytes (by decide) zero12_bytes abc_lt
    have lB : (blockN rise 1 wakeN).length = 64 := blockW_len _
    have tB : ((blockN rise 1 wakeN).take 4).drop 0 = [16, 241, 231, 228] := by rw [wakes_1]; rfl
    have lM : (maskN rise 0 (List.replicate 12 0) [97, 98, 99]).length = 3 := by rw [maskN_len]; rfl
    generalize blockN rise 1 wakeN = B at *
    generalize maskN rise 0 (List.replicate 12 0) [97, 98, 99] = Y at *
    refine wp_region_list ?_
    refine st_val [0, 1] F (d := 5) (v := .int .i64 (32 : Nat)) rfl rfl (by decide) (ex_move rfl (F.ev 1 rfl)) fun a34 (F35 : Fr 31 a34 [(5, .int .i64 (32 : Nat)), (1, (.pointer (some ⟨b, 0, none⟩)))]) => ?_
    refine st_val [0, 2] F35 (d := 6) (v := (.bool false)) rfl rfl (by decide) (by simp [execOp, Act.eval, (F35.get 0 rfl), go_sem]) fun a36 (F37 : Fr 31 a36 [(6, (.bool false)), (1, (.pointer (some ⟨b, 0, none⟩)))]) => ?_
    refine wpl_nil (then_n (.inr ⟨F37.ev 0 rfl, then_n ?_⟩))
    refine wp_seq (wp_region_list ?_)
    refine st_load [0, 2] F37 M (k := 32) (d := 13) (t := 1) (b := b) (i := 0) (j := 1) rfl rfl rfl Try.underlying23 rfl (by kernel_rfl) sR rfl rfl (by decide) fun a38 (F39 : Fr 31 a38 [(13, (.agg (cn .u8 rise))), (1, (.pointer (some ⟨b, 0, none⟩)))]) => ?_
    refine st_val [0, 1, 2] F39 (d := 14) (v := (.agg (cn .u8 wakeN))) rfl rfl (by decide) (by simp [execOp, Act.eval, cn, wakeN, go_sem]) fun a40 (F41 : Fr 31 a40 [(14, (.agg (cn .u8 wakeN))), (13, (.agg (cn .u8 rise))), (1, (.pointer (some ⟨b, 0, none⟩)))]) => ?_
    refine st_call [0, 3] F41 M (d := 15) (f := 8) (args := #[.agg (cn .u8 rise), .int .u32 1, .agg (cn .u8 wakeN)]) (v := (.string (bs B))) rfl rfl (by decide) (by simp [Act.eval, (F41.get 1 rfl), (F41.get 0 rfl), go_sem]) (KB w) fun a42 w44 (F43 : Fr 31 a42 [(15, (.string (bs B))), (1, (.pointer (some ⟨b, 0, none⟩)))]) (M45 : Mem w0.heap.size w0 w44 [(b, .cells (cn .u8 rise) 23)]) => ?_
    refine st_val [0, 2] F43 (d := 3) (v := (.string (bs B))) rfl rfl (by decide) (ex_assign rfl (F43.ev 0 rfl)) fun a46 (F47 : Fr 31 a46 [(3, (.string (bs B))), (1, (.pointer (some ⟨b, 0, none⟩)))]) => ?_
    refine wpl_nil (then_n ?_)
    refine wp_seq (wp_region_list ?_)
    refine st_val [0, 1, 2] F47 (d := 16) (v := (.string (bs B))) rfl rfl (by decide) (ex_move rfl (F47.ev 0 rfl)) fun a48 (F49 : Fr 31 a48 [(16, (.string (bs B))), (3, (.string (bs B))), (1, (.pointer (some ⟨b, 0, none⟩)))]) => ?_
    refine st_val [0, 2, 3] F49 (d := 17) (v := (.int .i64 64)) rfl rfl (by decide) (by simp [Act.eval, (F49.get 0 rfl), bs_size, lB, go_sem]) fun a50 (F51 : Fr 31 a50 [(17, (.int .i64 64)), (3, (.string (bs B))), (1, (.pointer (some ⟨b, 0, none⟩)))]) => ?_
    refine st_val [0, 2, 3] F51 (d := 18) (v := (.bool true)) rfl rfl (by decide) (by simp [execOp, Act.eval, (F51.get 0 rfl), go_sem]) fun a52 (F53 : Fr 31 a52 [(18, (.bool true)), (3, (.string (bs B))), (1, (.pointer (some ⟨b, 0, none⟩)))]) => ?_
    refine st_val [0, 2, 3] F53 (d := 19) (v := (.bool true)) rfl rfl (by decide) (ex_move rfl (F53.ev 0 rfl)) fun a54 (F55 : Fr 31 a54 [(19, (.bool true)), (3, (.string (bs B))), (1, (.pointer (some ⟨b, 0, none⟩)))]) => ?_
    refine st_ok [0, 1, 3] F55 M45 (d := 20) (v := (.string (bs B))) rfl (by decide) (ok_value (wanted_of rfl rfl (F55.get 0 rfl)) (ex_move rfl (F55.ev 1 rfl))) fun a56 w58 (F57 : Fr 31 a56 [(20, (.string (bs B))), (19, (.bool true)), (1, (.pointer (some ⟨b, 0, none⟩)))]) (M59 : Mem w0.heap.size w0 w58 [(b, .cells (cn .u8 rise) 23)]) => ?_
    refine st_ok [0, 2, 3] F57 M59 (d := 21) (v := (.string (bs [16, 241, 231, 228]))) rfl (by decide) (ok_value (wanted_of rfl rfl (F57.get 1 rfl)) (by rw [← tB]; exact ex_sliceStr none (some 4) rfl (F57.get 0 rfl) rfl rfl Try.underlying9 (Nat.zero_le _) (by rw [lB]; decide))) fun a60 w62 (F61 : Fr 31 a60 [(21, (.string (bs [16, 241, 231, 228]))), (19, (.bool true)), (1, (.pointer (some ⟨b, 0, none⟩)))]) (M63 : Mem w0.heap.size w0 w62 [(b, .cells (cn .u8 rise) 23)]) => ?_
    refine st_ok [0, 2, 3] F61 M63 (d := 22) (v := (.bool true)) rfl (by decide) (ok_value (wanted_of rfl rfl (F61.get 1 rfl)) (by simp [execOp, Act.eval, (F61.get 0 rfl), bs, go_sem])) fun a64 w66 (F65 : Fr 31 a64 [(22, (.bool true)), (19, (.bool true)), (1, (.pointer (some ⟨b, 0, none⟩)))]) (M67 : Mem w0.heap.size w0 w66 [(b, .cells (cn .u8 rise) 23)]) => ?_
    refine st_ok [0, 3] F65 M67 (d := 23) (v := (.bool true)) rfl (by decide) (ok_value rfl (by simp [execOp, Act.eval, (F65.get 1 rfl), (F65.get 0 rfl), go_sem])) fun a68 w70 (F69 : Fr 31 a68 [(23, (.bool true)), (1, (.pointer (some ⟨b, 0, none⟩)))]) (M71 : Mem w0.heap.size w0 w70 [(b, .cells (cn .u8 rise) 23)]) => ?_
    refine st_val [0, 2] F69 (d := 24) (v := (.bool true)) rfl rfl (by decide) (ex_move rfl (F69.ev 0 rfl)) fun a72 (F73 : Fr 31 a72 [(24, (.bool true)), (1, (.pointer (some ⟨b, 0, none⟩)))]) => ?_
    refine st_ok [0, 1] F73 M71 (d := 25) (v := (.agg (cn .u8 rise))) rfl (by decide) (ok_load (wanted_of rfl rfl (F73.get 0 rfl)) rfl (F73.get 1 rfl) (M71.get 0 rfl) Try.underlying23 rfl (by kernel_rfl) sR) fun a74 w76 (F75 : Fr 31 a74 [(25, (.agg (cn .u8 rise))), (24, (.bool true))]) (M77 : Mem w0.heap.size w0 w76 [(b, .cells (cn .u8 rise) 23)]) => ?_
    refine st_ok [0, 1, 2] F75 M77 (d := 26) (v := (.agg (cn .u8 (List.replicate 12 0)))) rfl (by decide) (ok_value (wanted_of rfl rfl (F75.get 1 rfl)) (by simp [execOp, Act.eval, cn, go_sem])) fun a78 w80 (F79 : Fr 31 a78 [(26, (.agg (cn .u8 (List.replicate 12 0)))), (25, (.agg (cn .u8 rise))), (24, (.bool true))]) (M81 : Mem w0.heap.size w0 w80 [(b, .cells (cn .u8 rise) 23)]) => ?_
    refine st_ok [0, 3] F79 M81 (d := 27) (v := (.string (bs Y))) rfl (by decide) (ok_call (wanted_of rfl rfl (F79.get 2 rfl)) (by simp [Act.eval, (F79.get 1 rfl), (F79.get 0 rfl), go_sem, bs]) (KM w80)) fun a82 w84 (F83 : Fr 31 a82 [(27, (.string (bs Y))), (24, (.bool true))]) (M85 : Mem w0.heap.size w0 w84 [(b, .cells (cn .u8 rise) 23)]) => ?_
    refine st_ok [0, 2] F83 M85 (d := 28) (v := (.int .i64 3)) rfl (by decide) (ok_value (wanted_of rfl rfl (F83.get 1 rfl)) (by simp [Act.eval, (F83.get 0 rfl), bs_size, lM, go_sem])) fun a86 w88 (F87 : Fr 31 a86 [(28, (.int .i64 3)), (24, (.bool true))]) (M89 : Mem w0.heap.size w0 w88 [(b, .cells (cn .u8 rise) 23)]) => ?_
    refine st_ok [0, 2] F87 M89 (d := 29) (v := (.bool true)) rfl (by decide) (ok_value (wanted_of rfl rfl (F87.get 1 rfl)) (by simp [execOp, Act.eval, (F87.get 0 rfl), go_sem])) fun a90 w92 (F91 : Fr 31 a90 [(29, (.bool true)), (24, (.bool true))]) (M93 : Mem w0.heap.size w0 w92 [(b, .cells (cn .u8 rise) 23)]) => ?_
    refine st_ok [0] F91 M93 (d := 30) (v := (.bool true)) rfl (by decide) (ok_value rfl (by simp [execOp, Act.eval, (F91.get 1 rfl), (F91.get 0 rfl), go_sem])) fun a94 w96 (F95 : Fr 31 a94 [(30, (.bool true))]) (M97 : Mem w0.heap.size w0 w96 [(b, .cells (cn .u8 rise) 23)]) => ?_
    refine st_val [0] F95 (d := 0) (v := (.bool true)) rfl rfl (by decide) (ex_assign rfl (F95.ev 0 rfl)) fun a98 (F99 : Fr 31 a98 [(0, (.bool true))]) => ?_
    refine wpl_nil (then_n ?_)
    exact wp_ret (ret_fr F99 0 Try.results7 rfl ⟨rfl, M97.below⟩)

end Go.Proofs.Ytlpoimmpjcldjaa
