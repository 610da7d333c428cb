/- ChachaTwice: the walk. -/
import Derived.Test.YtlpoimmpjcldjaaW7
import Derived.Test.YtlpoimmpjcldjaaLay
namespace Go.Proofs.Ytlpoimmpjcldjaa
open Go.RowKit

set_option maxRecDepth 100000 in
set_option maxHeartbeats 1000000 in
theorem twice_any (cp : Array Value) (ks ns X : List Nat) (c : Nat) (hks : Bytes 32 ks) (hc : c < 4294967296) (hns : Bytes 12 ns) (hX : ∀ i, X.getD i 0 < 256)
    (p1 : ∀ j v, (cn .u8 ks)[j]? = some v → cp[0 + j]? = some v) (pc : cp[32]? = some (.int .u32 (c : Nat))) (p2 : ∀ j v, (cn .u8 ns)[j]? = some v → cp[33 + j]? = some v) (pt : cp[45]? = some (.string (bs X))) (w0 : World) :
    Calls Try.prog 4 #[.agg cp] w0 fun e w' => e = .returned (.bool true) ∧ Below w0.heap.size w0 w' := by
  have sk : (cn .u8 ks).size = 32 := by rw [cn_size, hks.len]
  have sn : (cn .u8 ns).size = 12 := by rw [cn_size, hns.len]
  refine enter_fr Try.func4 rfl Try.ntmps4 (by simp) fun a (F : Fr 42 a [(0, .agg cp)]) => ?_
  have M := Mem.start w0
  refine wp_seq (wp_region_list ?_)
  refine st_alloc [0] F M (d := 1) (.cells cp 35) (fun b => .pointer (some ⟨b, 0, none⟩)) rfl rfl (by decide) (by simp [execOp, Act.eval, (F.get 0 rfl), go_sem]) fun a1 w3 bi (F2 : Fr 42 a1 [(1, (.pointer (some ⟨bi, 0, none⟩)))]) (M4 : Mem w0.heap.size w0 w3 [(bi, .cells cp 35)]) => ?_
  refine st_val [1] F2 (d := 2) (v := (.bool false)) rfl rfl (by decide) (ex_assign rfl rfl) fun a5 (F6 : Fr 42 a5 [(1, (.pointer (some ⟨bi, 0, none⟩)))]) => ?_
  refine wpl_nil (then_n ?_)
  refine wp_seq (region_lay [lval (.pointer (some ⟨bi, 0, none⟩)), lval (.agg (cn .u8 ks)), lval (.pointer (some ⟨bi, 32, none⟩)), lval (.int .u32 (c : Nat)), lval (.pointer (some ⟨bi, 33, none⟩)), lval (.agg (cn .u8 ns)), lval (.pointer (some ⟨bi, 45, none⟩)), lval (.string (bs X)), lnew (.cells (cn .u8 (List.replicate 32 0)) 23) (fun b => .pointer (some ⟨b, 0, none⟩)) (some (10, .cells (cn .u8 ks) 23)), lnew (.cells (cn .u8 (List.replicate 12 0)) 26) (fun b => .pointer (some ⟨b, 0, none⟩)) (some (12, .cells (cn .u8 ns) 26)), lsto 8, lval (.int .u32 (c : Nat)), lsto 9, lval (.string (bs X))] (by kernel_rfl) (by rw [F6.size]; kernel_rfl) ?_ ?_)
  · refine ⟨?_, ?_, ?_, ?_, ?_, ?_, ?_, ?_, ?_, ?_, ?_, ?_, ?_, ?_, trivial⟩
    · intro s v hC hk hd
      have h1 : s.tmps[1]? = some ((.pointer (some ⟨bi, 0, none⟩))) := (hk 1 (by kernel_rfl)).trans (F6.get 0 rfl)
      exact ok_value rfl (by simp [execOp, Act.eval, h1, go_sem])
    · intro s v hC hk hd
      have h8 : s.tmps[8]? = some (.pointer (some ⟨bi, 0, none⟩)) := hd 0 (by kernel_rfl)
      exact ok_load_at rfl rfl h8 ((M4.keep hC).get 0 rfl) p1 Try.underlying23 rfl (by rw [sk]; kernel_rfl)
    · intro s v hC hk hd
      have h1 : s.tmps[1]? = some ((.pointer (some ⟨bi, 0, none⟩))) := (hk 1 (by kernel_rfl)).trans (F6.get 0 rfl)
      exact ok_value rfl (by simp [execOp, Act.eval, h1, go_sem])
    · intro s v hC hk hd
      have h10 : s.tmps[10]? = some (.pointer (some ⟨bi, 32, none⟩)) := hd 2 (by kernel_rfl)
      exact ok_value rfl (ex_load1 rfl h10 ((M4.keep hC).get 0 rfl) pc Try.underlying24 rfl)
    · intro s v hC hk hd
      have h1 : s.tmps[1]? = some ((.pointer (some ⟨bi, 0, none⟩))) := (hk 1 (by kernel_rfl)).trans (F6.get 0 rfl)
      exact ok_value rfl (by simp [execOp, Act.eval, h1, go_sem])
    · intro s v hC hk hd
      have h12 : s.tmps[12]? = some (.pointer (some ⟨bi, 33, none⟩)) := hd 4 (by kernel_rfl)
      exact ok_load_at rfl rfl h12 ((M4.keep hC).get 0 rfl) p2 Try.underlying26 rfl (by rw [sn]; kernel_rfl)
    · intro s v hC hk hd
      have h1 : s.tmps[1]? = some ((.pointer (some ⟨bi, 0, none⟩))) := (hk 1 (by kernel_rfl)).trans (F6.get 0 rfl)
      exact ok_value rfl (by simp [execOp, Act.eval, h1, go_sem])
    · intro s v hC hk hd
      have h14 : s.tmps[14]? = some (.pointer (some ⟨bi, 45, none⟩)) := hd 6 (by kernel_rfl)
      exact ok_value rfl (ex_load1 rfl h14 ((M4.keep hC).get 0 rfl) pt Try.underlying9 rfl)
    · intro s v hC hk hd
      exact ⟨rfl, by simp [execOp, go_sem, cn]⟩
    · intro s v hC hk hd
      exact ⟨rfl, by simp [execOp, go_sem, cn]⟩
    · intro s v hC hk hd
      exact ⟨3, 9, 23, (cn .u8 (List.replicate 32 0)), (cn .u8 ks), 1, rfl, rfl, rfl, by kernel_rfl, rfl, rfl, by kernel_rfl, rfl, rfl, (by rw [sk, cn_size]; rfl), (cn_one _ _), (by rw [sk]; kernel_rfl)⟩
    · intro s v hC hk hd
      have h11 : s.tmps[11]? = some (.int .u32 (c : Nat)) := hd 3 (by kernel_rfl)
      exact ok_value rfl (ex_assign rfl (eval_tmp h11))
    · intro s v hC hk hd
      exact ⟨5, 13, 26, (cn .u8 (List.replicate 12 0)), (cn .u8 ns), 5, rfl, rfl, rfl, by kernel_rfl, rfl, rfl, by kernel_rfl, rfl, rfl, (by rw [sn, cn_size]; rfl), (cn_one _ _), (by rw [sn]; kernel_rfl)⟩
    · intro s v hC hk hd
      have h15 : s.tmps[15]? = some (.string (bs X)) := hd 7 (by kernel_rfl)
      exact ok_value rfl (ex_assign rfl (eval_tmp h15))
  · intro nb w7 hC hf hne
    obtain ⟨⟨l3, f3⟩, ⟨l5, f5⟩, _⟩ := hf
    simp only [Nat.zero_add, Nat.reduceAdd] at l3 f3
    simp only [Nat.zero_add, Nat.reduceAdd] at l5 f5
    have n8_9 := hne 8 9 rfl rfl (by decide)
    have M10 : Mem w0.heap.size w0 w7 [((nb 9), .cells (cn .u8 ns) 26), ((nb 8), .cells (cn .u8 ks) 23), (bi, .cells cp 35)] := (((M4.keep hC).also (M4.ne_new l3) (Nat.le_trans M4.size l3) f3).also (Mem.ne_cons n8_9 (M4.ne_new l5)) (Nat.le_trans M4.size l5) f5)
    refine fr_norm [0, 1, 2, 3] F6 (by kernel_rfl) fun a8 (F9 : Fr 42 a8 [(6, (.string (bs X))), (4, (.int .u32 (c : Nat))), (5, (.pointer (some ⟨nb 9, 0, none⟩))), (3, (.pointer (some ⟨nb 8, 0, none⟩)))]) => ?_
    clear hC
    generalize nb 8 = bk at *
    generalize nb 9 = bn at *
    refine then_n ?_
    by_cases hlen : 300 < X.length
    · refine wp_seq (wp_seq (wp_region_list ?_))
      refine st_val [0] F9 (d := 16) (v := (.string (bs X))) rfl rfl (by decide) (ex_move rfl (F9.ev 0 rfl)) fun a11 (F12 : Fr 42 a11 [(16, (.string (bs X)))]) => ?_
      refine st_val [0] F12 (d := 17) (v := (.int .i64 (X.length : Nat))) rfl rfl (by decide) (by simp [Act.eval, (F12.get 0 rfl), bs_size, go_sem]) fun a13 (F14 : Fr 42 a13 [(17, (.int .i64 (X.length : Nat)))]) => ?_
      refine st_val [0] F14 (d := 18) (v := (.bool true)) rfl rfl (by decide) (by simp [execOp, Act.eval, (F14.get 0 rfl), go_sem]; omega) fun a15 (F16 : Fr 42 a15 [(18, (.bool true))]) => ?_
      refine wpl_nil (then_n ?_)
      refine wp_cond_true (F16.ev 0 rfl) ?_
      refine wp_seq (wp_region_list ?_)
      refine st_call [0] F16 M10 (d := 19) (f := 7) (args := #[]) (v := (.bool true)) rfl rfl (by decide) (by simp [go_sem]) (wakes_any w7) fun a17 w19 (F18 : Fr 42 a17 [(19, (.bool true))]) (M20 : Mem w0.heap.size w0 w19 [(bn, .cells (cn .u8 ns) 26), (bk, .cells (cn .u8 ks) 23), (bi, .cells cp 35)]) => ?_
      refine st_val [0] F18 (d := 2) (v := (.bool true)) rfl rfl (by decide) (ex_assign rfl (F18.ev 0 rfl)) fun a21 (F22 : Fr 42 a21 [(2, (.bool true))]) => ?_
      refine wpl_nil (then_n ?_)
      exact wp_ret (then_ret (ret_fr F22 0 Try.results4 rfl ⟨rfl, M20.below⟩))
    · refine wp_seq (wp_seq (wp_region_list ?_))
      refine st_val [0, 1, 2, 3, 4] F9 (d := 16) (v := (.string (bs X))) rfl rfl (by decide) (ex_move rfl (F9.ev 0 rfl)) fun a23 (F24 : Fr 42 a23 [(16, (.string (bs X))), (6, (.string (bs X))), (4, (.int .u32 (c : Nat))), (5, (.pointer (some ⟨bn, 0, none⟩))), (3, (.pointer (some ⟨bk, 0, none⟩)))]) => ?_
      refine st_val [0, 2, 3, 4, 5] F24 (d := 17) (v := (.int .i64 (X.length : Nat))) rfl rfl (by decide) (by simp [Act.eval, (F24.get 0 rfl), bs_size, go_sem]) fun a25 (F26 : Fr 42 a25 [(17, (.int .i64 (X.length : Nat))), (6, (.string (bs X))), (4, (.int .u32 (c : Nat))), (5, (.pointer (some ⟨bn, 0, none⟩))), (3, (.pointer (some ⟨bk, 0, none⟩)))]) => ?_
      refine st_val [0, 2, 3, 4, 5] F26 (d := 18) (v := (.bool false)) rfl rfl (by decide) (by simp [execOp, Act.eval, (F26.get 0 rfl), go_sem]; omega) fun a27 (F28 : Fr 42 a27 [(18, (.bool false)), (6, (.string (bs X))), (4, (.int .u32 (c : Nat))), (5, (.pointer (some ⟨bn, 0, none⟩))), (3, (.pointer (some ⟨bk, 0, none⟩)))]) => ?_
      refine wpl_nil (then_n ?_)
      refine wp_cond_false (F28.ev 0 rfl) (wp_skip (then_n ?_))
      have KM := Mask_any ks ns X c hks hc hns hX
      have lM := maskN_len ks c ns X
      have hM : ∀ i, (maskN ks c ns X).getD i 0 < 256 := maskN_lt ks c ns X hX
      have KT := Mask_any ks ns (maskN ks c ns X) c hks hc hns hM
      rw [maskN_twice] at KT
      generalize maskN ks c ns X = Y at *
      refine wp_seq (wp_region_list ?_)
      refine st_load [0, 2, 3, 4, 5] F28 M10 (k := 32) (d := 20) (t := 3) (b := bk) (i := 1) (j := 4) rfl rfl rfl Try.underlying23 rfl (by kernel_rfl) sk rfl rfl (by decide) fun a29 (F30 : Fr 42 a29 [(20, (.agg (cn .u8 ks))), (6, (.string (bs X))), (4, (.int .u32 (c : Nat))), (5, (.pointer (some ⟨bn, 0, none⟩))), (3, (.pointer (some ⟨bk, 0, none⟩)))]) => ?_
      refine st_val [0, 1, 2, 3, 4, 5] F30 (d := 21) (v := (.int .u32 (c : Nat))) rfl rfl (by decide) (ex_move rfl (F30.ev 2 rfl)) fun a31 (F32 : Fr 42 a31 [(21, (.int .u32 (c : Nat))), (20, (.agg (cn .u8 ks))), (6, (.string (bs X))), (4, (.int .u32 (c : Nat))), (5, (.pointer (some ⟨bn, 0, none⟩))), (3, (.pointer (some ⟨bk, 0, none⟩)))]) => ?_
      refine st_load [0, 1, 2, 3, 4, 5, 6] F32 M10 (k := 12) (d := 22) (t := 5) (b := bn) (i := 0) (j := 4) rfl rfl rfl Try.underlying26 rfl (by kernel_rfl) sn rfl rfl (by decide) fun a33 (F34 : Fr 42 a33 [(22, (.agg (cn .u8 ns))), (21, (.int .u32 (c : Nat))), (20, (.agg (cn .u8 ks))), (6, (.string (bs X))), (4, (.int .u32 (c : Nat))), (5, (.pointer (some ⟨bn, 0, none⟩))), (3, (.pointer (some ⟨bk, 0, none⟩)))]) => ?_
      refine st_val [0, 1, 2, 3, 4, 5, 6, 7] F34 (d := 23) (v := (.string (bs X))) rfl rfl (by decide) (ex_move rfl (F34.ev 3 rfl)) fun a35 (F36 : Fr 42 a35 [(23, (.string (bs X))), (22, (.agg (cn .u8 ns))), (21, (.int .u32 (c : Nat))), (20, (.agg (cn .u8 ks))), (6, (.string (bs X))), (4, (.int .u32 (c : Nat))), (5, (.pointer (some ⟨bn, 0, none⟩))), (3, (.pointer (some ⟨bk, 0, none⟩)))]) => ?_
      refine st_call [0, 5, 6, 7, 8] F36 M10 (d := 24) (f := 10) (args := #[.agg (cn .u8 ks), .int .u32 (c : Nat), .agg (cn .u8 ns), .string (bs X)]) (v := (.string (bs Y))) rfl rfl (by decide) (by simp [Act.eval, (F36.get 3 rfl), (F36.get 2 rfl), (F36.get 1 rfl), (F36.get 0 rfl), go_sem]) (KM w7) fun a37 w39 (F38 : Fr 42 a37 [(24, (.string (bs Y))), (6, (.string (bs X))), (4, (.int .u32 (c : Nat))), (5, (.pointer (some ⟨bn, 0, none⟩))), (3, (.pointer (some ⟨bk, 0, none⟩)))]) (M40 : Mem w0.heap.size w0 w39 [(bn, .cells (cn .u8 ns) 26), (bk, .cells (cn .u8 ks) 23), (bi, .cells cp 35)]) => ?_
      refine st_val [0, 2, 3, 4, 5] F38 (d := 7) (v := (.string (bs Y))) rfl rfl (by decide) (ex_assign rfl (F38.ev 0 rfl)) fun a41 (F42 : Fr 42 a41 [(7, (.string (bs Y))), (6, (.string (bs X))), (4, (.int .u32 (c : Nat))), (5, (.pointer (some ⟨bn, 0, none⟩))), (3, (.pointer (some ⟨bk, 0, none⟩)))]) => ?_
      refine wpl_nil (then_n ?_)
      refine wp_seq (wp_region_list ?_)
      refine st_val [0, 1, 2, 3, 4, 5] F42 (d := 25) (v := (.string (bs Y))) rfl rfl (by decide) (ex_move rfl (F42.ev 0 rfl)) fun a43 (F44 : Fr 42 a43 [(25, (.string (bs Y))), (7, (.string (bs Y))), (6, (.string (bs X))), (4, (.int .u32 (c : Nat))), (5, (.pointer (some ⟨bn, 0, none⟩))), (3, (.pointer (some ⟨bk, 0, none⟩)))]) => ?_
      refine st_val [0, 2, 3, 4, 5, 6] F44 (d := 26) (v := (.int .i64 (X.length : Nat))) rfl rfl (by decide) (by simp [Act.eval, (F44.get 0 rfl), bs_size, lM, go_sem]) fun a45 (F46 : Fr 42 a45 [(26, (.int .i64 (X.length : Nat))), (7, (.string (bs Y))), (6, (.string (bs X))), (4, (.int .u32 (c : Nat))), (5, (.pointer (some ⟨bn, 0, none⟩))), (3, (.pointer (some ⟨bk, 0, none⟩)))]) => ?_
      refine st_val [0, 1, 2, 3, 4, 5, 6] F46 (d := 27) (v := (.string (bs X))) rfl rfl (by decide) (ex_move rfl (F46.ev 2 rfl)) fun a47 (F48 : Fr 42 a47 [(27, (.string (bs X))), (26, (.int .i64 (X.length : Nat))), (7, (.string (bs Y))), (6, (.string (bs X))), (4, (.int .u32 (c : Nat))), (5, (.pointer (some ⟨bn, 0, none⟩))), (3, (.pointer (some ⟨bk, 0, none⟩)))]) => ?_
      refine st_val [0, 2, 3, 4, 5, 6, 7] F48 (d := 28) (v := (.int .i64 (X.length : Nat))) rfl rfl (by decide) (by simp [Act.eval, (F48.get 0 rfl), bs_size, go_sem]) fun a49 (F50 : Fr 42 a49 [(28, (.int .i64 (X.length : Nat))), (26, (.int .i64 (X.length : Nat))), (7, (.string (bs Y))), (6, (.string (bs X))), (4, (.int .u32 (c : Nat))), (5, (.pointer (some ⟨bn, 0, none⟩))), (3, (.pointer (some ⟨bk, 0, none⟩)))]) => ?_
      refine st_val [0, 3, 4, 5, 6, 7] F50 (d := 29) (v := (.bool true)) rfl rfl (by decide) (by simp [execOp, Act.eval, (F50.get 1 rfl), (F50.get 0 rfl), go_sem]) fun a51 (F52 : Fr 42 a51 [(29, (.bool true)), (7, (.string (bs Y))), (6, (.string (bs X))), (4, (.int .u32 (c : Nat))), (5, (.pointer (some ⟨bn, 0, none⟩))), (3, (.pointer (some ⟨bk, 0, none⟩)))]) => ?_
      refine st_val [0, 2, 3, 4, 5, 6] F52 (d := 30) (v := (.bool true)) rfl rfl (by decide) (ex_move rfl (F52.ev 0 rfl)) fun a53 (F54 : Fr 42 a53 [(30, (.bool true)), (7, (.string (bs Y))), (6, (.string (bs X))), (4, (.int .u32 (c : Nat))), (5, (.pointer (some ⟨bn, 0, none⟩))), (3, (.pointer (some ⟨bk, 0, none⟩)))]) => ?_
      refine st_ok [0, 1, 2, 3, 4, 5] F54 M40 (d := 31) (v := (.agg (cn .u8 ks))) rfl (by decide) (ok_load (wanted_of rfl rfl (F54.get 0 rfl)) rfl (F54.get 5 rfl) (M40.get 1 rfl) Try.underlying23 rfl (by kernel_rfl) sk) fun a55 w57 (F56 : Fr 42 a55 [(31, (.agg (cn .u8 ks))), (30, (.bool true)), (7, (.string (bs Y))), (6, (.string (bs X))), (4, (.int .u32 (c : Nat))), (5, (.pointer (some ⟨bn, 0, none⟩)))]) (M58 : Mem w0.heap.size w0 w57 [(bn, .cells (cn .u8 ns) 26), (bk, .cells (cn .u8 ks) 23), (bi, .cells cp 35)]) => ?_
      refine st_ok [0, 1, 2, 3, 4, 6] F56 M58 (d := 32) (v := (.int .u32 (c : Nat))) rfl (by decide) (ok_value (wanted_of rfl rfl (F56.get 1 rfl)) (ex_move rfl (F56.ev 4 rfl))) fun a59 w61 (F60 : Fr 42 a59 [(32, (.int .u32 (c : Nat))), (31, (.agg (cn .u8 ks))), (30, (.bool true)), (7, (.string (bs Y))), (6, (.string (bs X))), (5, (.pointer (some ⟨bn, 0, none⟩)))]) (M62 : Mem w0.heap.size w0 w61 [(bn, .cells (cn .u8 ns) 26), (bk, .cells (cn .u8 ks) 23), (bi, .cells cp 35)]) => ?_
      refine st_ok [0, 1, 2, 3, 4, 5] F60 M62 (d := 33) (v := (.agg (cn .u8 ns))) rfl (by decide) (ok_load (wanted_of rfl rfl (F60.get 2 rfl)) rfl (F60.get 5 rfl) (M62.get 0 rfl) Try.underlying26 rfl (by kernel_rfl) sn) fun a63 w65 (F64 : Fr 42 a63 [(33, (.agg (cn .u8 ns))), (32, (.int .u32 (c : Nat))), (31, (.agg (cn .u8 ks))), (30, (.bool true)), (7, (.string (bs Y))), (6, (.string (bs X)))]) (M66 : Mem w0.heap.size w0 w65 [(bn, .cells (cn .u8 ns) 26), (bk, .cells (cn .u8 ks) 23), (bi, .cells cp 35)]) => ?_
      refine st_ok [0, 1, 2, 3, 4, 6] F64 M66 (d := 34) (v := (.string (bs Y))) rfl (by decide) (ok_value (wanted_of rfl rfl (F64.get 3 rfl)) (ex_move rfl (F64.ev 4 rfl))) fun a67 w69 (F68 : Fr 42 a67 [(34, (.string (bs Y))), (33, (.agg (cn .u8 ns))), (32, (.int .u32 (c : Nat))), (31, (.agg (cn .u8 ks))), (30, (.bool true)), (6, (.string (bs X)))]) (M70 : Mem w0.heap.size w0 w69 [(bn, .cells (cn .u8 ns) 26), (bk, .cells (cn .u8 ks) 23), (bi, .cells cp 35)]) => ?_
      refine st_ok [0, 5, 6] F68 M70 (d := 35) (v := (.string (bs X))) rfl (by decide) (ok_call (wanted_of rfl rfl (F68.get 4 rfl)) (by simp [Act.eval, (F68.get 3 rfl), (F68.get 2 rfl), (F68.get 1 rfl), (F68.get 0 rfl), go_sem]) (KT w69)) fun a71 w73 (F72 : Fr 42 a71 [(35, (.string (bs X))), (30, (.bool true)), (6, (.string (bs X)))]) (M74 : Mem w0.heap.size w0 w73 [(bn, .cells (cn .u8 ns) 26), (bk, .cells (cn .u8 ks) 23), (bi, .cells cp 35)]) => ?_
      refine st_ok [0, 1, 2] F72 M74 (d := 36) (v := (.string (bs X))) rfl (by decide) (ok_value (wanted_of rfl rfl (F72.get 1 rfl)) (ex_move rfl (F72.ev 2 rfl))) fun a75 w77 (F76 : Fr 42 a75 [(36, (.string (bs X))), (35, (.string (bs X))), (30, (.bool true))]) (M78 : Mem w0.heap.size w0 w77 [(bn, .cells (cn .u8 ns) 26), (bk, .cells (cn .u8 ks) 23), (bi, .cells cp 35)]) => ?_
      refine st_ok [0, 3] F76 M78 (d := 37) (v := (.bool true)) rfl (by decide) (ok_value (wanted_of rfl rfl (F76.get 2 rfl)) (by simp [execOp, Act.eval, (F76.get 1 rfl), (F76.get 0 rfl), go_sem])) fun a79 w81 (F80 : Fr 42 a79 [(37, (.bool true)), (30, (.bool true))]) (M82 : Mem w0.heap.size w0 w81 [(bn, .cells (cn .u8 ns) 26), (bk, .cells (cn .u8 ks) 23), (bi, .cells cp 35)]) => ?_
      refine st_ok [0] F80 M82 (d := 38) (v := (.bool true)) rfl (by decide) (ok_value rfl (by simp [execOp, Act.eval, (F80.get 1 rfl), (F80.get 0 rfl), go_sem])) fun a83 w85 (F84 : Fr 42 a83 [(38, (.bool true))]) (M86 : Mem w0.heap.size w0 w85 [(bn, .cells (cn .u8 ns) 26), (bk, .cells (cn .u8 ks) 23), (bi, .cells cp 35)]) => ?_
      refine st_val [0] F84 (d := 39) (v := (.bool true)) rfl rfl (by decide) (ex_move rfl (F84.ev 0 rfl)) fun a87 (F88 : Fr 42 a87 [(39, (.bool true))]) => ?_
      refine st_ok [0, 1] F88 M86 (d := 40) (v := (.bool true)) rfl (by decide) (ok_call (wanted_of rfl rfl (F88.get 0 rfl)) (by simp [go_sem]) (wakes_any w85)) fun a89 w91 (F90 : Fr 42 a89 [(40, (.bool true)), (39, (.bool true))]) (M92 : Mem w0.heap.size w0 w91 [(bn, .cells (cn .u8 ns) 26), (bk, .cells (cn .u8 ks) 23), (bi, .cells cp 35)]) => ?_
      refine st_ok [0] F90 M92 (d := 41) (v := (.bool true)) rfl (by decide) (ok_value rfl (by simp [execOp, Act.eval, (F90.get 1 rfl), (F90.get 0 rfl), go_sem])) fun a93 w95 (F94 : Fr 42 a93 [(41, (.bool true))]) (M96 : Mem w0.heap.size w0 w95 [(bn, .cells (cn .u8 ns) 26), (bk, .cells (cn .u8 ks) 23), (bi, .cells cp 35)]) => ?_
      refine st_val [0] F94 (d := 2) (v := (.bool true)) rfl rfl (by decide) (ex_assign rfl (F94.ev 0 rfl)) fun a97 (F98 : Fr 42 a97 [(2, (.bool true))]) => ?_
      refine wpl_nil (then_n ?_)
      exact wp_ret (ret_fr F98 0 Try.results4 rfl ⟨rfl, M96.below⟩)

end Go.Proofs.Ytlpoimmpjcldjaa
