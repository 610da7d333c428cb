/- ChachaBlocks: the walk. -/
import Derived.Test.YtlpoimmpjcldjaaW7
import Derived.Test.YtlpoimmpjcldjaaLay
namespace Go.Proofs.Ytlpoimmpjcldjaa
open Go.RowKit

set_option maxRecDepth 100000 in
set_option maxHeartbeats 1000000 in
theorem blocks_any (cp : Array Value) (ks ns X : List Nat) (c : Nat) (u : Nat) (hu : u < 256) (hks : Bytes 32 ks) (hc : c < 4294967296) (hns : Bytes 12 ns) (hX : ∀ i, X.getD i 0 < 256)
    (p1 : ∀ j v, (cn .u8 ks)[j]? = some v → cp[0 + j]? = some v) (pc : cp[32]? = some (.int .u32 (c : Nat))) (p2 : ∀ j v, (cn .u8 ns)[j]? = some v → cp[33 + j]? = some v) (pt : cp[45]? = some (.string (bs X))) (pu : cp[46]? = some (.int .u8 (u : Nat))) (w0 : World) :
    Calls Try.prog 6 #[.agg cp] w0 fun e w' => e = .returned (.bool true) ∧ Below w0.heap.size w0 w' := by
  have sk : (cn .u8 ks).size = 32 := by rw [cn_size, hks.len]
  have sn : (cn .u8 ns).size = 12 := by rw [cn_size, hns.len]
  refine enter_fr Try.func6 rfl Try.ntmps6 (by simp) fun a (F : Fr 77 a [(0, .agg cp)]) => ?_
  have M := Mem.start w0
  refine wp_seq (wp_region_list ?_)
  refine st_alloc [0] F M (d := 1) (.cells cp 41) (fun b => .pointer (some ⟨b, 0, none⟩)) rfl rfl (by decide) (by simp [execOp, Act.eval, (F.get 0 rfl), go_sem]) fun a1 w3 bi (F2 : Fr 77 a1 [(1, (.pointer (some ⟨bi, 0, none⟩)))]) (M4 : Mem w0.heap.size w0 w3 [(bi, .cells cp 41)]) => ?_
  refine st_val [1] F2 (d := 2) (v := (.bool false)) rfl rfl (by decide) (ex_assign rfl rfl) fun a5 (F6 : Fr 77 a5 [(1, (.pointer (some ⟨bi, 0, none⟩)))]) => ?_
  refine wpl_nil (then_n ?_)
  refine wp_seq (region_lay [lval (.pointer (some ⟨bi, 0, none⟩)), lval (.agg (cn .u8 ks)), lval (.pointer (some ⟨bi, 32, none⟩)), lval (.int .u32 (c : Nat)), lval (.pointer (some ⟨bi, 33, none⟩)), lval (.agg (cn .u8 ns)), lval (.pointer (some ⟨bi, 45, none⟩)), lval (.string (bs X)), lval (.pointer (some ⟨bi, 46, none⟩)), lval (.int .u8 (u : Nat)), lnew (.cells (cn .u8 (List.replicate 32 0)) 23) (fun b => .pointer (some ⟨b, 0, none⟩)) (some (12, .cells (cn .u8 ks) 23)), lnew (.cells (cn .u8 (List.replicate 12 0)) 26) (fun b => .pointer (some ⟨b, 0, none⟩)) (some (14, .cells (cn .u8 ns) 26)), lsto 10, lval (.int .u32 (c : Nat)), lsto 11, lval (.string (bs X)), lval (.int .u8 (u : Nat))] (by kernel_rfl) (by rw [F6.size]; kernel_rfl) ?_ ?_)
  · refine ⟨?_, ?_, ?_, ?_, ?_, ?_, ?_, ?_, ?_, ?_, ?_, ?_, ?_, ?_, ?_, ?_, ?_, trivial⟩
    · intro s v hC hk hd
      have h1 : s.tmps[1]? = some ((.pointer (some ⟨bi, 0, none⟩))) := (hk 1 (by kernel_rfl)).trans (F6.get 0 rfl)
      exact ok_value rfl (by simp [execOp, Act.eval, h1, go_sem])
    · intro s v hC hk hd
      have h11 : s.tmps[11]? = some (.pointer (some ⟨bi, 0, none⟩)) := hd 0 (by kernel_rfl)
      exact ok_load_at rfl rfl h11 ((M4.keep hC).get 0 rfl) p1 Try.underlying23 rfl (by rw [sk]; kernel_rfl)
    · intro s v hC hk hd
      have h1 : s.tmps[1]? = some ((.pointer (some ⟨bi, 0, none⟩))) := (hk 1 (by kernel_rfl)).trans (F6.get 0 rfl)
      exact ok_value rfl (by simp [execOp, Act.eval, h1, go_sem])
    · intro s v hC hk hd
      have h13 : s.tmps[13]? = some (.pointer (some ⟨bi, 32, none⟩)) := hd 2 (by kernel_rfl)
      exact ok_value rfl (ex_load1 rfl h13 ((M4.keep hC).get 0 rfl) pc Try.underlying24 rfl)
    · intro s v hC hk hd
      have h1 : s.tmps[1]? = some ((.pointer (some ⟨bi, 0, none⟩))) := (hk 1 (by kernel_rfl)).trans (F6.get 0 rfl)
      exact ok_value rfl (by simp [execOp, Act.eval, h1, go_sem])
    · intro s v hC hk hd
      have h15 : s.tmps[15]? = some (.pointer (some ⟨bi, 33, none⟩)) := hd 4 (by kernel_rfl)
      exact ok_load_at rfl rfl h15 ((M4.keep hC).get 0 rfl) p2 Try.underlying26 rfl (by rw [sn]; kernel_rfl)
    · intro s v hC hk hd
      have h1 : s.tmps[1]? = some ((.pointer (some ⟨bi, 0, none⟩))) := (hk 1 (by kernel_rfl)).trans (F6.get 0 rfl)
      exact ok_value rfl (by simp [execOp, Act.eval, h1, go_sem])
    · intro s v hC hk hd
      have h17 : s.tmps[17]? = some (.pointer (some ⟨bi, 45, none⟩)) := hd 6 (by kernel_rfl)
      exact ok_value rfl (ex_load1 rfl h17 ((M4.keep hC).get 0 rfl) pt Try.underlying9 rfl)
    · intro s v hC hk hd
      have h1 : s.tmps[1]? = some ((.pointer (some ⟨bi, 0, none⟩))) := (hk 1 (by kernel_rfl)).trans (F6.get 0 rfl)
      exact ok_value rfl (by simp [execOp, Act.eval, h1, go_sem])
    · intro s v hC hk hd
      have h19 : s.tmps[19]? = some (.pointer (some ⟨bi, 46, none⟩)) := hd 8 (by kernel_rfl)
      exact ok_value rfl (ex_load1 rfl h19 ((M4.keep hC).get 0 rfl) pu Try.underlying5 rfl)
    · intro s v hC hk hd
      exact ⟨rfl, by simp [execOp, go_sem, cn]⟩
    · intro s v hC hk hd
      exact ⟨rfl, by simp [execOp, go_sem, cn]⟩
    · intro s v hC hk hd
      exact ⟨3, 12, 23, (cn .u8 (List.replicate 32 0)), (cn .u8 ks), 1, rfl, rfl, rfl, by kernel_rfl, rfl, rfl, by kernel_rfl, rfl, rfl, (by rw [sk, cn_size]; rfl), (cn_one _ _), (by rw [sk]; kernel_rfl)⟩
    · intro s v hC hk hd
      have h14 : s.tmps[14]? = some (.int .u32 (c : Nat)) := hd 3 (by kernel_rfl)
      exact ok_value rfl (ex_assign rfl (eval_tmp h14))
    · intro s v hC hk hd
      exact ⟨5, 16, 26, (cn .u8 (List.replicate 12 0)), (cn .u8 ns), 5, rfl, rfl, rfl, by kernel_rfl, rfl, rfl, by kernel_rfl, rfl, rfl, (by rw [sn, cn_size]; rfl), (cn_one _ _), (by rw [sn]; kernel_rfl)⟩
    · intro s v hC hk hd
      have h18 : s.tmps[18]? = some (.string (bs X)) := hd 7 (by kernel_rfl)
      exact ok_value rfl (ex_assign rfl (eval_tmp h18))
    · intro s v hC hk hd
      have h20 : s.tmps[20]? = some (.int .u8 (u : Nat)) := hd 9 (by kernel_rfl)
      exact ok_value rfl (ex_assign rfl (eval_tmp h20))
  · intro nb w7 hC hf hne
    obtain ⟨⟨l3, f3⟩, ⟨l5, f5⟩, _⟩ := hf
    simp only [Nat.zero_add, Nat.reduceAdd] at l3 f3
    simp only [Nat.zero_add, Nat.reduceAdd] at l5 f5
    have n10_11 := hne 10 11 rfl rfl (by decide)
    have M10 : Mem w0.heap.size w0 w7 [((nb 11), .cells (cn .u8 ns) 26), ((nb 10), .cells (cn .u8 ks) 23), (bi, .cells cp 41)] := (((M4.keep hC).also (M4.ne_new l3) (Nat.le_trans M4.size l3) f3).also (Mem.ne_cons n10_11 (M4.ne_new l5)) (Nat.le_trans M4.size l5) f5)
    refine fr_norm [0, 1, 2, 3, 4] F6 (by kernel_rfl) fun a8 (F9 : Fr 77 a8 [(7, (.int .u8 (u : Nat))), (6, (.string (bs X))), (4, (.int .u32 (c : Nat))), (5, (.pointer (some ⟨nb 11, 0, none⟩))), (3, (.pointer (some ⟨nb 10, 0, none⟩)))]) => ?_
    clear hC
    generalize nb 10 = bk at *
    generalize nb 11 = bn at *
    refine then_n ?_
    by_cases hlen : 300 < X.length
    · refine wp_seq (wp_seq (wp_region_list ?_))
      refine st_val [0] F9 (d := 21) (v := (.string (bs X))) rfl rfl (by decide) (ex_move rfl (F9.ev 1 rfl)) fun a11 (F12 : Fr 77 a11 [(21, (.string (bs X)))]) => ?_
      refine st_val [0] F12 (d := 22) (v := (.int .i64 (X.length : Nat))) rfl rfl (by decide) (by simp [Act.eval, (F12.get 0 rfl), bs_size, go_sem]) fun a13 (F14 : Fr 77 a13 [(22, (.int .i64 (X.length : Nat)))]) => ?_
      refine st_val [0] F14 (d := 23) (v := (.bool true)) rfl rfl (by decide) (by simp [execOp, Act.eval, (F14.get 0 rfl), go_sem]; omega) fun a15 (F16 : Fr 77 a15 [(23, (.bool true))]) => ?_
      refine wpl_nil (then_n ?_)
      refine wp_cond_true (F16.ev 0 rfl) ?_
      refine wp_seq (wp_region_list ?_)
      refine st_call [0] F16 M10 (d := 24) (f := 7) (args := #[]) (v := (.bool true)) rfl rfl (by decide) (by simp [go_sem]) (wakes_any w7) fun a17 w19 (F18 : Fr 77 a17 [(24, (.bool true))]) (M20 : Mem w0.heap.size w0 w19 [(bn, .cells (cn .u8 ns) 26), (bk, .cells (cn .u8 ks) 23), (bi, .cells cp 41)]) => ?_
      refine st_val [0] F18 (d := 2) (v := (.bool true)) rfl rfl (by decide) (ex_assign rfl (F18.ev 0 rfl)) fun a21 (F22 : Fr 77 a21 [(2, (.bool true))]) => ?_
      refine wpl_nil (then_n ?_)
      exact wp_ret (then_ret (ret_fr F22 0 Try.results6 rfl ⟨rfl, M20.below⟩))
    · refine wp_seq (wp_seq (wp_region_list ?_))
      refine st_val [0, 1, 2, 3, 4, 5] F9 (d := 21) (v := (.string (bs X))) rfl rfl (by decide) (ex_move rfl (F9.ev 1 rfl)) fun a23 (F24 : Fr 77 a23 [(21, (.string (bs X))), (7, (.int .u8 (u : Nat))), (6, (.string (bs X))), (4, (.int .u32 (c : Nat))), (5, (.pointer (some ⟨bn, 0, none⟩))), (3, (.pointer (some ⟨bk, 0, none⟩)))]) => ?_
      refine st_val [0, 2, 3, 4, 5, 6] F24 (d := 22) (v := (.int .i64 (X.length : Nat))) rfl rfl (by decide) (by simp [Act.eval, (F24.get 0 rfl), bs_size, go_sem]) fun a25 (F26 : Fr 77 a25 [(22, (.int .i64 (X.length : Nat))), (7, (.int .u8 (u : Nat))), (6, (.string (bs X))), (4, (.int .u32 (c : Nat))), (5, (.pointer (some ⟨bn, 0, none⟩))), (3, (.pointer (some ⟨bk, 0, none⟩)))]) => ?_
      refine st_val [0, 2, 3, 4, 5, 6] F26 (d := 23) (v := (.bool false)) rfl rfl (by decide) (by simp [execOp, Act.eval, (F26.get 0 rfl), go_sem]; omega) fun a27 (F28 : Fr 77 a27 [(23, (.bool false)), (7, (.int .u8 (u : Nat))), (6, (.string (bs X))), (4, (.int .u32 (c : Nat))), (5, (.pointer (some ⟨bn, 0, none⟩))), (3, (.pointer (some ⟨bk, 0, none⟩)))]) => ?_
      refine wpl_nil (then_n ?_)
      refine wp_cond_false (F28.ev 0 rfl) (wp_skip (then_n ?_))
      have KX := Mask_any ks ns X c hks hc hns hX
      have lM := maskN_len ks c ns X
      have KB1 := Block_any ks ns c hks hc hns
      have KB2 := Block_any ks ns ((c + 1) % 4294967296) hks (Nat.mod_lt _ (by decide)) hns
      have KZ := Mask_any ks ns (List.replicate 128 0) c hks hc hns (pad_lt [] (fun i => by simp) 128)
      rw [maskN_zero _ _ _ hc] at KZ
      have eBB := bs_app (blockN ks c ns) (blockN ks ((c + 1) % 4294967296) ns)
      have szB : (bs (blockN ks c ns)).size + (bs (blockN ks ((c + 1) % 4294967296) ns)).size ≤ 9223372036854775807 := by rw [bs_size, bs_size, blockN, blockN, blockW_len, blockW_len]; decide
      obtain ⟨k, hk⟩ : ∃ k, u % (X.length + 1) = k := ⟨_, rfl⟩
      have hk2 : k < X.length + 1 := by rw [← hk]; exact Nat.mod_lt _ (by omega)
      have KK := Mask_any ks ns ((X.take k).drop 0) c hks hc hns (cut_lt X hX _ _)
      have eK : maskN ks c ns ((X.take k).drop 0) = ((maskN ks c ns X).take k).drop 0 := by rw [List.drop_zero, List.drop_zero, maskN_take]
      rw [eK] at KK
      clear eK
      generalize maskN ks c ns X = Y at *
      generalize blockN ks c ns = B1 at *
      generalize blockN ks ((c + 1) % 4294967296) ns = B2 at *
      refine wp_seq (wp_region_list ?_)
      refine st_load [0, 2, 3, 4, 5, 6] F28 M10 (k := 32) (d := 25) (t := 3) (b := bk) (i := 1) (j := 5) rfl rfl rfl Try.underlying23 rfl (by kernel_rfl) sk rfl rfl (by decide) fun a29 (F30 : Fr 77 a29 [(25, (.agg (cn .u8 ks))), (7, (.int .u8 (u : Nat))), (6, (.string (bs X))), (4, (.int .u32 (c : Nat))), (5, (.pointer (some ⟨bn, 0, none⟩))), (3, (.pointer (some ⟨bk, 0, none⟩)))]) => ?_
      refine st_val [0, 1, 2, 3, 4, 5, 6] F30 (d := 26) (v := (.int .u32 (c : Nat))) rfl rfl (by decide) (ex_move rfl (F30.ev 3 rfl)) fun a31 (F32 : Fr 77 a31 [(26, (.int .u32 (c : Nat))), (25, (.agg (cn .u8 ks))), (7, (.int .u8 (u : Nat))), (6, (.string (bs X))), (4, (.int .u32 (c : Nat))), (5, (.pointer (some ⟨bn, 0, none⟩))), (3, (.pointer (some ⟨bk, 0, none⟩)))]) => ?_
      refine st_load [0, 1, 2, 3, 4, 5, 6, 7] F32 M10 (k := 12) (d := 27) (t := 5) (b := bn) (i := 0) (j := 5) rfl rfl rfl Try.underlying26 rfl (by kernel_rfl) sn rfl rfl (by decide) fun a33 (F34 : Fr 77 a33 [(27, (.agg (cn .u8 ns))), (26, (.int .u32 (c : Nat))), (25, (.agg (cn .u8 ks))), (7, (.int .u8 (u : Nat))), (6, (.string (bs X))), (4, (.int .u32 (c : Nat))), (5, (.pointer (some ⟨bn, 0, none⟩))), (3, (.pointer (some ⟨bk, 0, none⟩)))]) => ?_
      refine st_val [0, 1, 2, 3, 4, 5, 6, 7, 8] F34 (d := 28) (v := (.string (bs X))) rfl rfl (by decide) (ex_move rfl (F34.ev 4 rfl)) fun a35 (F36 : Fr 77 a35 [(28, (.string (bs X))), (27, (.agg (cn .u8 ns))), (26, (.int .u32 (c : Nat))), (25, (.agg (cn .u8 ks))), (7, (.int .u8 (u : Nat))), (6, (.string (bs X))), (4, (.int .u32 (c : Nat))), (5, (.pointer (some ⟨bn, 0, none⟩))), (3, (.pointer (some ⟨bk, 0, none⟩)))]) => ?_
      refine st_call [0, 5, 6, 7, 8, 9] F36 M10 (d := 29) (f := 10) (args := #[.agg (cn .u8 ks), .int .u32 (c : Nat), .agg (cn .u8 ns), .string (bs X)]) (v := (.string (bs Y))) rfl rfl (by decide) (by simp [Act.eval, (F36.get 3 rfl), (F36.get 2 rfl), (F36.get 1 rfl), (F36.get 0 rfl), go_sem]) (KX w7) fun a37 w39 (F38 : Fr 77 a37 [(29, (.string (bs Y))), (7, (.int .u8 (u : Nat))), (6, (.string (bs X))), (4, (.int .u32 (c : Nat))), (5, (.pointer (some ⟨bn, 0, none⟩))), (3, (.pointer (some ⟨bk, 0, none⟩)))]) (M40 : Mem w0.heap.size w0 w39 [(bn, .cells (cn .u8 ns) 26), (bk, .cells (cn .u8 ks) 23), (bi, .cells cp 41)]) => ?_
      refine st_val [0, 2, 3, 4, 5, 6] F38 (d := 8) (v := (.string (bs Y))) rfl rfl (by decide) (ex_assign rfl (F38.ev 0 rfl)) fun a41 (F42 : Fr 77 a41 [(8, (.string (bs Y))), (7, (.int .u8 (u : Nat))), (6, (.string (bs X))), (4, (.int .u32 (c : Nat))), (5, (.pointer (some ⟨bn, 0, none⟩))), (3, (.pointer (some ⟨bk, 0, none⟩)))]) => ?_
      refine wpl_nil (then_n ?_)
      refine wp_seq (wp_region_list ?_)
      refine st_val [0, 1, 3, 4, 5, 6] F42 (d := 30) (v := (.int .u8 (u : Nat))) rfl rfl (by decide) (ex_move rfl (F42.ev 1 rfl)) fun a43 (F44 : Fr 77 a43 [(30, (.int .u8 (u : Nat))), (8, (.string (bs Y))), (6, (.string (bs X))), (4, (.int .u32 (c : Nat))), (5, (.pointer (some ⟨bn, 0, none⟩))), (3, (.pointer (some ⟨bk, 0, none⟩)))]) => ?_
      refine st_val [0, 2, 3, 4, 5, 6] F44 (d := 31) (v := (.int .i64 (u : Nat))) rfl rfl (by decide) (by simp [execOp, Act.eval, (F44.get 0 rfl), go_sem]; rw [IntKind.wrap_i64]; omega) fun a45 (F46 : Fr 77 a45 [(31, (.int .i64 (u : Nat))), (8, (.string (bs Y))), (6, (.string (bs X))), (4, (.int .u32 (c : Nat))), (5, (.pointer (some ⟨bn, 0, none⟩))), (3, (.pointer (some ⟨bk, 0, none⟩)))]) => ?_
      refine st_val [0, 1, 2, 3, 4, 5, 6] F46 (d := 32) (v := (.string (bs X))) rfl rfl (by decide) (ex_move rfl (F46.ev 2 rfl)) fun a47 (F48 : Fr 77 a47 [(32, (.string (bs X))), (31, (.int .i64 (u : Nat))), (8, (.string (bs Y))), (6, (.string (bs X))), (4, (.int .u32 (c : Nat))), (5, (.pointer (some ⟨bn, 0, none⟩))), (3, (.pointer (some ⟨bk, 0, none⟩)))]) => ?_
      refine st_val [0, 2, 3, 4, 5, 6, 7] F48 (d := 33) (v := (.int .i64 (X.length : Nat))) rfl rfl (by decide) (by simp [Act.eval, (F48.get 0 rfl), bs_size, go_sem]) fun a49 (F50 : Fr 77 a49 [(33, (.int .i64 (X.length : Nat))), (31, (.int .i64 (u : Nat))), (8, (.string (bs Y))), (6, (.string (bs X))), (4, (.int .u32 (c : Nat))), (5, (.pointer (some ⟨bn, 0, none⟩))), (3, (.pointer (some ⟨bk, 0, none⟩)))]) => ?_
      refine st_val [0, 2, 3, 4, 5, 6, 7] F50 (d := 34) (v := (.int .i64 (X.length + 1 : Nat))) rfl rfl (by decide) (by simp [execOp, Act.eval, (F50.get 0 rfl), go_sem]; rw [IntKind.wrap_i64]; omega) fun a51 (F52 : Fr 77 a51 [(34, (.int .i64 (X.length + 1 : Nat))), (31, (.int .i64 (u : Nat))), (8, (.string (bs Y))), (6, (.string (bs X))), (4, (.int .u32 (c : Nat))), (5, (.pointer (some ⟨bn, 0, none⟩))), (3, (.pointer (some ⟨bk, 0, none⟩)))]) => ?_
      refine st_val [0, 3, 4, 5, 6, 7] F52 (d := 35) (v := (.int .i64 (u % (X.length + 1) : Nat))) rfl rfl (by decide) (by simp [execOp, Act.eval, (F52.get 1 rfl), (F52.get 0 rfl), go_sem]; rw [if_neg (by omega), Int.tmod_eq_emod_of_nonneg (by omega)]) fun a53 (F54 : Fr 77 a53 [(35, (.int .i64 (u % (X.length + 1) : Nat))), (8, (.string (bs Y))), (6, (.string (bs X))), (4, (.int .u32 (c : Nat))), (5, (.pointer (some ⟨bn, 0, none⟩))), (3, (.pointer (some ⟨bk, 0, none⟩)))]) => ?_
      refine st_val [0, 2, 3, 4, 5, 6] F54 (d := 9) (v := (.int .i64 (u % (X.length + 1) : Nat))) rfl rfl (by decide) (ex_assign rfl (F54.ev 0 rfl)) fun a55 (F56 : Fr 77 a55 [(9, (.int .i64 (u % (X.length + 1) : Nat))), (8, (.string (bs Y))), (6, (.string (bs X))), (4, (.int .u32 (c : Nat))), (5, (.pointer (some ⟨bn, 0, none⟩))), (3, (.pointer (some ⟨bk, 0, none⟩)))]) => ?_
      refine wpl_nil (then_n ?_)
      rw [hk] at F56
      refine wp_seq (region_list w39.heap.size (C := fun w' => Below w39.heap.size w39 w') [.inl (.agg (cn .u8 ks)), .inl ((.int .u32 (c : Nat))), .inl (.agg (cn .u8 ns)), .inl (.string (bs B1)), .inl (.agg (cn .u8 ks)), .inl ((.int .u32 (c : Nat))), .inl (.int .u32 ((c + 1) % 4294967296 : Nat)), .inl (.agg (cn .u8 ns)), .inl (.string (bs B2)), .inl (.string (bs (B1 ++ B2))), .inl (.string (bs (B1 ++ B2)))] [] (by kernel_rfl) (by rw [F56.size]; kernel_rfl) ⟨rfl, rfl, rfl, Nat.le_refl _, fun _ _ => rfl⟩ (fun w1 w2 h1 h2 => h1.trans (h2.mono h1.size)) (fun i h => by simp at h) ?_ ?_)
      · refine ⟨?_, ?_, ?_, ?_, ?_, ?_, ?_, ?_, ?_, ?_, ?_, trivial⟩
        · intro s v hC hk hd
          have h3 : s.tmps[3]? = some ((.pointer (some ⟨bk, 0, none⟩))) := (hk 3 (by kernel_rfl)).trans (F56.get 5 rfl)
          exact ok_load rfl rfl h3 ((M40.keep hC).get 1 rfl) Try.underlying23 rfl (by kernel_rfl) sk
        · intro s v hC hk hd
          have h4 : s.tmps[4]? = some ((.int .u32 (c : Nat))) := (hk 4 (by kernel_rfl)).trans (F56.get 3 rfl)
          exact ok_value rfl (ex_move rfl (eval_tmp h4))
        · intro s v hC hk hd
          have h5 : s.tmps[5]? = some ((.pointer (some ⟨bn, 0, none⟩))) := (hk 5 (by kernel_rfl)).trans (F56.get 4 rfl)
          exact ok_load rfl rfl h5 ((M40.keep hC).get 0 rfl) Try.underlying26 rfl (by kernel_rfl) sn
        · intro s v hC hk hd
          have h36 : s.tmps[36]? = some (.agg (cn .u8 ks)) := hd 0 (by kernel_rfl)
          have h37 : s.tmps[37]? = some ((.int .u32 (c : Nat))) := hd 1 (by kernel_rfl)
          have h38 : s.tmps[38]? = some (.agg (cn .u8 ns)) := hd 2 (by kernel_rfl)
          exact ok_call rfl (by simp [Act.eval, h36, h37, h38, go_sem]) (KB1 v)
        · intro s v hC hk hd
          have h3 : s.tmps[3]? = some ((.pointer (some ⟨bk, 0, none⟩))) := (hk 3 (by kernel_rfl)).trans (F56.get 5 rfl)
          exact ok_load rfl rfl h3 ((M40.keep hC).get 1 rfl) Try.underlying23 rfl (by kernel_rfl) sk
        · intro s v hC hk hd
          have h4 : s.tmps[4]? = some ((.int .u32 (c : Nat))) := (hk 4 (by kernel_rfl)).trans (F56.get 3 rfl)
          exact ok_value rfl (ex_move rfl (eval_tmp h4))
        · intro s v hC hk hd
          have h41 : s.tmps[41]? = some ((.int .u32 (c : Nat))) := hd 5 (by kernel_rfl)
          exact ok_value rfl (by simp [execOp, Act.eval, h41, go_sem]; rw [IntKind.wrap_u32'])
        · intro s v hC hk hd
          have h5 : s.tmps[5]? = some ((.pointer (some ⟨bn, 0, none⟩))) := (hk 5 (by kernel_rfl)).trans (F56.get 4 rfl)
          exact ok_load rfl rfl h5 ((M40.keep hC).get 0 rfl) Try.underlying26 rfl (by kernel_rfl) sn
        · intro s v hC hk hd
          have h40 : s.tmps[40]? = some (.agg (cn .u8 ks)) := hd 4 (by kernel_rfl)
          have h42 : s.tmps[42]? = some (.int .u32 ((c + 1) % 4294967296 : Nat)) := hd 6 (by kernel_rfl)
          have h43 : s.tmps[43]? = some (.agg (cn .u8 ns)) := hd 7 (by kernel_rfl)
          exact ok_call rfl (by simp [Act.eval, h40, h42, h43, go_sem]) (KB2 v)
        · intro s v hC hk hd
          have h39 : s.tmps[39]? = some (.string (bs B1)) := hd 3 (by kernel_rfl)
          have h44 : s.tmps[44]? = some (.string (bs B2)) := hd 8 (by kernel_rfl)
          exact ok_value rfl (by simp [execOp, Act.eval, h39, h44, eBB, go_sem]; exact szB)
        · intro s v hC hk hd
          have h45 : s.tmps[45]? = some (.string (bs (B1 ++ B2))) := hd 9 (by kernel_rfl)
          exact ok_value rfl (ex_assign rfl (eval_tmp h45))
      · intro nb w57 hC hf hne
        have M60 := M40.keep hC
        refine fr_all [0, 11, 12, 13, 14, 15, 16] F56 (by kernel_rfl) fun a58 (F59 : Fr 77 a58 [(10, (.string (bs (B1 ++ B2)))), (9, (.int .i64 (k : Nat))), (8, (.string (bs Y))), (6, (.string (bs X))), (4, (.int .u32 (c : Nat))), (5, (.pointer (some ⟨bn, 0, none⟩))), (3, (.pointer (some ⟨bk, 0, none⟩)))]) => ?_
        refine wpl_nil (then_n ?_)
        refine wp_seq (region_list w57.heap.size (C := fun w' => Below w57.heap.size w57 w') [.inl ((.string (bs Y))), .inl (.int .i64 (X.length : Nat)), .inl ((.string (bs X))), .inl (.int .i64 (X.length : Nat)), .inl (.bool true), .inl (.bool true), .inl ((.string (bs Y))), .inl ((.int .i64 (k : Nat))), .inl (.string (bs ((Y.take k).drop 0))), .inl (.agg (cn .u8 ks)), .inl ((.int .u32 (c : Nat))), .inl (.agg (cn .u8 ns)), .inl ((.string (bs X))), .inl ((.int .i64 (k : Nat))), .inl (.string (bs ((X.take k).drop 0))), .inl (.string (bs ((Y.take k).drop 0))), .inl (.bool true), .inl (.bool true), .inl (.bool true), .inl ((.string (bs (B1 ++ B2)))), .inl (.agg (cn .u8 ks)), .inl ((.int .u32 (c : Nat))), .inl (.agg (cn .u8 ns)), .inr (.cells (cn .u8 (List.replicate 128 0)) 5, fun b => .slice (some ⟨b, 0, none⟩) 128 128), .inl (.string (bs (List.replicate 128 0))), .inl (.string (bs (B1 ++ B2))), .inl (.bool true), .inl (.bool true), .inl (.bool true), .inl (.bool true), .inl (.bool true), .inl (.bool true)] [] (by kernel_rfl) (by rw [F59.size]; kernel_rfl) ⟨rfl, rfl, rfl, Nat.le_refl _, fun _ _ => rfl⟩ (fun w1 w2 h1 h2 => h1.trans (h2.mono h1.size)) (fun i h => by simp at h) ?_ ?_)
        · refine ⟨?_, ?_, ?_, ?_, ?_, ?_, ?_, ?_, ?_, ?_, ?_, ?_, ?_, ?_, ?_, ?_, ?_, ?_, ?_, ?_, ?_, ?_, ?_, ?_, ?_, ?_, ?_, ?_, ?_, ?_, ?_, ?_, trivial⟩
          · intro s v hC hk hd
            have h8 : s.tmps[8]? = some ((.string (bs Y))) := (hk 8 (by kernel_rfl)).trans (F59.get 2 rfl)
            exact ok_value rfl (ex_move rfl (eval_tmp h8))
          · intro s v hC hk hd
            have h46 : s.tmps[46]? = some ((.string (bs Y))) := hd 0 (by kernel_rfl)
            exact ok_value rfl (by simp [Act.eval, h46, bs_size, lM, go_sem])
          · intro s v hC hk hd
            have h6 : s.tmps[6]? = some ((.string (bs X))) := (hk 6 (by kernel_rfl)).trans (F59.get 3 rfl)
            exact ok_value rfl (ex_move rfl (eval_tmp h6))
          · intro s v hC hk hd
            have h48 : s.tmps[48]? = some ((.string (bs X))) := hd 2 (by kernel_rfl)
            exact ok_value rfl (by simp [Act.eval, h48, bs_size, go_sem])
          · intro s v hC hk hd
            have h47 : s.tmps[47]? = some (.int .i64 (X.length : Nat)) := hd 1 (by kernel_rfl)
            have h49 : s.tmps[49]? = some (.int .i64 (X.length : Nat)) := hd 3 (by kernel_rfl)
            exact ok_value rfl (by simp [execOp, Act.eval, h47, h49, go_sem])
          · intro s v hC hk hd
            have h50 : s.tmps[50]? = some (.bool true) := hd 4 (by kernel_rfl)
            exact ok_value rfl (ex_move rfl (eval_tmp h50))
          · intro s v hC hk hd
            have h8 : s.tmps[8]? = some ((.string (bs Y))) := (hk 8 (by kernel_rfl)).trans (F59.get 2 rfl)
            exact ok_value (wanted_of rfl rfl (hd 5 (by kernel_rfl))) (ex_move rfl (eval_tmp h8))
          · intro s v hC hk hd
            have h9 : s.tmps[9]? = some ((.int .i64 (k : Nat))) := (hk 9 (by kernel_rfl)).trans (F59.get 1 rfl)
            exact ok_value (wanted_of rfl rfl (hd 5 (by kernel_rfl))) (ex_move rfl (eval_tmp h9))
          · intro s v hC hk hd
            have h52 : s.tmps[52]? = some ((.string (bs Y))) := hd 6 (by kernel_rfl)
            have h53 : s.tmps[53]? = some ((.int .i64 (k : Nat))) := hd 7 (by kernel_rfl)
            exact ok_value (wanted_of rfl rfl (hd 5 (by kernel_rfl))) (ex_sliceStr none (some k) rfl h52 rfl (by simp [optI, eval_tmp h53]) Try.underlying9 (Nat.zero_le _) (show k ≤ Y.length by omega))
          · intro s v hC hk hd
            have h3 : s.tmps[3]? = some ((.pointer (some ⟨bk, 0, none⟩))) := (hk 3 (by kernel_rfl)).trans (F59.get 6 rfl)
            exact ok_load (wanted_of rfl rfl (hd 5 (by kernel_rfl))) rfl h3 ((M60.keep hC).get 1 rfl) Try.underlying23 rfl (by kernel_rfl) sk
          · intro s v hC hk hd
            have h4 : s.tmps[4]? = some ((.int .u32 (c : Nat))) := (hk 4 (by kernel_rfl)).trans (F59.get 4 rfl)
            exact ok_value (wanted_of rfl rfl (hd 5 (by kernel_rfl))) (ex_move rfl (eval_tmp h4))
          · intro s v hC hk hd
            have h5 : s.tmps[5]? = some ((.pointer (some ⟨bn, 0, none⟩))) := (hk 5 (by kernel_rfl)).trans (F59.get 5 rfl)
            exact ok_load (wanted_of rfl rfl (hd 5 (by kernel_rfl))) rfl h5 ((M60.keep hC).get 0 rfl) Try.underlying26 rfl (by kernel_rfl) sn
          · intro s v hC hk hd
            have h6 : s.tmps[6]? = some ((.string (bs X))) := (hk 6 (by kernel_rfl)).trans (F59.get 3 rfl)
            exact ok_value (wanted_of rfl rfl (hd 5 (by kernel_rfl))) (ex_move rfl (eval_tmp h6))
          · intro s v hC hk hd
            have h9 : s.tmps[9]? = some ((.int .i64 (k : Nat))) := (hk 9 (by kernel_rfl)).trans (F59.get 1 rfl)
            exact ok_value (wanted_of rfl rfl (hd 5 (by kernel_rfl))) (ex_move rfl (eval_tmp h9))
          · intro s v hC hk hd
            have h58 : s.tmps[58]? = some ((.string (bs X))) := hd 12 (by kernel_rfl)
            have h59 : s.tmps[59]? = some ((.int .i64 (k : Nat))) := hd 13 (by kernel_rfl)
            exact ok_value (wanted_of rfl rfl (hd 5 (by kernel_rfl))) (ex_sliceStr none (some k) rfl h58 rfl (by simp [optI, eval_tmp h59]) Try.underlying9 (Nat.zero_le _) (show k ≤ X.length by omega))
          · intro s v hC hk hd
            have h55 : s.tmps[55]? = some (.agg (cn .u8 ks)) := hd 9 (by kernel_rfl)
            have h56 : s.tmps[56]? = some ((.int .u32 (c : Nat))) := hd 10 (by kernel_rfl)
            have h57 : s.tmps[57]? = some (.agg (cn .u8 ns)) := hd 11 (by kernel_rfl)
            have h60 : s.tmps[60]? = some (.string (bs ((X.take k).drop 0))) := hd 14 (by kernel_rfl)
            exact ok_call (wanted_of rfl rfl (hd 5 (by kernel_rfl))) (by simp [Act.eval, h55, h56, h57, h60, go_sem]) (KK v)
          · intro s v hC hk hd
            have h54 : s.tmps[54]? = some (.string (bs ((Y.take k).drop 0))) := hd 8 (by kernel_rfl)
            have h61 : s.tmps[61]? = some (.string (bs ((Y.take k).drop 0))) := hd 15 (by kernel_rfl)
            exact ok_value (wanted_of rfl rfl (hd 5 (by kernel_rfl))) (by simp [execOp, Act.eval, h54, h61, go_sem])
          · intro s v hC hk hd
            have h51 : s.tmps[51]? = some (.bool true) := hd 5 (by kernel_rfl)
            have h62 : s.tmps[62]? = some (.bool true) := hd 16 (by kernel_rfl)
            exact ok_value rfl (by simp [execOp, Act.eval, h51, h62, go_sem])
          · intro s v hC hk hd
            have h63 : s.tmps[63]? = some (.bool true) := hd 17 (by kernel_rfl)
            exact ok_value rfl (ex_move rfl (eval_tmp h63))
          · intro s v hC hk hd
            have h10 : s.tmps[10]? = some ((.string (bs (B1 ++ B2)))) := (hk 10 (by kernel_rfl)).trans (F59.get 0 rfl)
            exact ok_value (wanted_of rfl rfl (hd 18 (by kernel_rfl))) (ex_move rfl (eval_tmp h10))
          · intro s v hC hk hd
            have h3 : s.tmps[3]? = some ((.pointer (some ⟨bk, 0, none⟩))) := (hk 3 (by kernel_rfl)).trans (F59.get 6 rfl)
            exact ok_load (wanted_of rfl rfl (hd 18 (by kernel_rfl))) rfl h3 ((M60.keep hC).get 1 rfl) Try.underlying23 rfl (by kernel_rfl) sk
          · intro s v hC hk hd
            have h4 : s.tmps[4]? = some ((.int .u32 (c : Nat))) := (hk 4 (by kernel_rfl)).trans (F59.get 4 rfl)
            exact ok_value (wanted_of rfl rfl (hd 18 (by kernel_rfl))) (ex_move rfl (eval_tmp h4))
          · intro s v hC hk hd
            have h5 : s.tmps[5]? = some ((.pointer (some ⟨bn, 0, none⟩))) := (hk 5 (by kernel_rfl)).trans (F59.get 5 rfl)
            exact ok_load (wanted_of rfl rfl (hd 18 (by kernel_rfl))) rfl h5 ((M60.keep hC).get 0 rfl) Try.underlying26 rfl (by kernel_rfl) sn
          · intro s v hC hk hd
            exact ok_new hC.size (wanted_of rfl rfl (hd 18 (by kernel_rfl))) (ex_make (l := 128) (c := 128) (k := .u8) (bb := 1) rfl rfl rfl Try.underlying42 (by kernel_rfl) (by decide) (by decide) (by decide))
          · intro s v hC hk hd
            obtain ⟨hb69, h69, hl69, hh69⟩ := holds_new (s.tmps[69]?) v (.cells (cn .u8 (List.replicate 128 0)) 5) (fun b => .slice (some ⟨b, 0, none⟩) 128 128) (hd 23 (by kernel_rfl))
            exact ok_value (wanted_of rfl rfl (hd 18 (by kernel_rfl))) (ex_strAll rfl h69 hh69 (by simp) Try.underlying42 Try.underlying5 Try.underlying9)
          · intro s v hC hk hd
            have h66 : s.tmps[66]? = some (.agg (cn .u8 ks)) := hd 20 (by kernel_rfl)
            have h67 : s.tmps[67]? = some ((.int .u32 (c : Nat))) := hd 21 (by kernel_rfl)
            have h68 : s.tmps[68]? = some (.agg (cn .u8 ns)) := hd 22 (by kernel_rfl)
            have h70 : s.tmps[70]? = some (.string (bs (List.replicate 128 0))) := hd 24 (by kernel_rfl)
            exact ok_call (wanted_of rfl rfl (hd 18 (by kernel_rfl))) (by simp [Act.eval, h66, h67, h68, h70, go_sem]) (KZ v)
          · intro s v hC hk hd
            have h65 : s.tmps[65]? = some ((.string (bs (B1 ++ B2)))) := hd 19 (by kernel_rfl)
            have h71 : s.tmps[71]? = some (.string (bs (B1 ++ B2))) := hd 25 (by kernel_rfl)
            exact ok_value (wanted_of rfl rfl (hd 18 (by kernel_rfl))) (by simp [execOp, Act.eval, h65, h71, go_sem])
          · intro s v hC hk hd
            have h64 : s.tmps[64]? = some (.bool true) := hd 18 (by kernel_rfl)
            have h72 : s.tmps[72]? = some (.bool true) := hd 26 (by kernel_rfl)
            exact ok_value rfl (by simp [execOp, Act.eval, h64, h72, go_sem])
          · intro s v hC hk hd
            have h73 : s.tmps[73]? = some (.bool true) := hd 27 (by kernel_rfl)
            exact ok_value rfl (ex_move rfl (eval_tmp h73))
          · intro s v hC hk hd
            exact ok_call (wanted_of rfl rfl (hd 28 (by kernel_rfl))) (by simp [go_sem]) (wakes_any v)
          · intro s v hC hk hd
            have h74 : s.tmps[74]? = some (.bool true) := hd 28 (by kernel_rfl)
            have h75 : s.tmps[75]? = some (.bool true) := hd 29 (by kernel_rfl)
            exact ok_value rfl (by simp [execOp, Act.eval, h74, h75, go_sem])
          · intro s v hC hk hd
            have h76 : s.tmps[76]? = some (.bool true) := hd 30 (by kernel_rfl)
            exact ok_value rfl (ex_assign rfl (eval_tmp h76))
        · intro nb w61 hC hf hne
          have M64 := M60.keep hC
          obtain ⟨⟨l69, f69⟩, _⟩ := hf
          refine fr_all [0] F59 (by kernel_rfl) fun a62 (F63 : Fr 77 a62 [(2, (.bool true))]) => ?_
          refine wpl_nil (then_n ?_)
          exact wp_ret (ret_fr F63 0 Try.results6 rfl ⟨rfl, M64.below⟩)

end Go.Proofs.Ytlpoimmpjcldjaa
