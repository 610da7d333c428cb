/- ChachaParts: the walk. -/
import Derived.Test.YtlpoimmpjcldjaaW7
import Derived.Test.YtlpoimmpjcldjaaLay
namespace Go.Proofs.Ytlpoimmpjcldjaa
open Go.RowKit

set_option maxRecDepth 100000 in
set_option maxHeartbeats 1000000 in
theorem parts_any (cp : Array Value) (ks ns X : List Nat) (c : Nat) (u : Nat) (hu : u < 256) (hks : Bytes 32 ks) (hc : c < 4294967296) (hns : Bytes 12 ns) (hX : ∀ i, X.getD i 0 < 256)
    (p1 : ∀ j v, (cn .u8 ks)[j]? = some v → cp[0 + j]? = some v) (pc : cp[32]? = some (.int .u32 (c : Nat))) (p2 : ∀ j v, (cn .u8 ns)[j]? = some v → cp[33 + j]? = some v) (pt : cp[45]? = some (.string (bs X))) (pu : cp[46]? = some (.int .u8 (u : Nat))) (w0 : World) :
    Calls Try.prog 5 #[.agg cp] w0 fun e w' => e = .returned (.bool true) ∧ Below w0.heap.size w0 w' := by
  have sk : (cn .u8 ks).size = 32 := by rw [cn_size, hks.len]
  have sn : (cn .u8 ns).size = 12 := by rw [cn_size, hns.len]
  refine enter_fr Try.func5 rfl Try.ntmps5 (by simp) fun a (F : Fr 59 a [(0, .agg cp)]) => ?_
  have M := Mem.start w0
  refine wp_seq (wp_region_list ?_)
  refine st_alloc [0] F M (d := 1) (.cells cp 38) (fun b => .pointer (some ⟨b, 0, none⟩)) rfl rfl (by decide) (by simp [execOp, Act.eval, (F.get 0 rfl), go_sem]) fun a1 w3 bi (F2 : Fr 59 a1 [(1, (.pointer (some ⟨bi, 0, none⟩)))]) (M4 : Mem w0.heap.size w0 w3 [(bi, .cells cp 38)]) => ?_
  refine st_val [1] F2 (d := 2) (v := (.bool false)) rfl rfl (by decide) (ex_assign rfl rfl) fun a5 (F6 : Fr 59 a5 [(1, (.pointer (some ⟨bi, 0, none⟩)))]) => ?_
  refine wpl_nil (then_n ?_)
  refine wp_seq (region_lay [lval (.pointer (some ⟨bi, 0, none⟩)), lval (.agg (cn .u8 ks)), lval (.pointer (some ⟨bi, 32, none⟩)), lval (.int .u32 (c : Nat)), lval (.pointer (some ⟨bi, 33, none⟩)), lval (.agg (cn .u8 ns)), lval (.pointer (some ⟨bi, 45, none⟩)), lval (.string (bs X)), lval (.pointer (some ⟨bi, 46, none⟩)), lval (.int .u8 (u : Nat)), lnew (.cells (cn .u8 (List.replicate 32 0)) 23) (fun b => .pointer (some ⟨b, 0, none⟩)) (some (12, .cells (cn .u8 ks) 23)), lnew (.cells (cn .u8 (List.replicate 12 0)) 26) (fun b => .pointer (some ⟨b, 0, none⟩)) (some (14, .cells (cn .u8 ns) 26)), lsto 10, lval (.int .u32 (c : Nat)), lsto 11, lval (.string (bs X)), lval (.int .u8 (u : Nat))] (by kernel_rfl) (by rw [F6.size]; kernel_rfl) ?_ ?_)
  · refine ⟨?_, ?_, ?_, ?_, ?_, ?_, ?_, ?_, ?_, ?_, ?_, ?_, ?_, ?_, ?_, ?_, ?_, trivial⟩
    · intro s v hC hk hd
      have h1 : s.tmps[1]? = some ((.pointer (some ⟨bi, 0, none⟩))) := (hk 1 (by kernel_rfl)).trans (F6.get 0 rfl)
      exact ok_value rfl (by simp [execOp, Act.eval, h1, go_sem])
    · intro s v hC hk hd
      have h9 : s.tmps[9]? = some (.pointer (some ⟨bi, 0, none⟩)) := hd 0 (by kernel_rfl)
      exact ok_load_at rfl rfl h9 ((M4.keep hC).get 0 rfl) p1 Try.underlying23 rfl (by rw [sk]; kernel_rfl)
    · intro s v hC hk hd
      have h1 : s.tmps[1]? = some ((.pointer (some ⟨bi, 0, none⟩))) := (hk 1 (by kernel_rfl)).trans (F6.get 0 rfl)
      exact ok_value rfl (by simp [execOp, Act.eval, h1, go_sem])
    · intro s v hC hk hd
      have h11 : s.tmps[11]? = some (.pointer (some ⟨bi, 32, none⟩)) := hd 2 (by kernel_rfl)
      exact ok_value rfl (ex_load1 rfl h11 ((M4.keep hC).get 0 rfl) pc Try.underlying24 rfl)
    · intro s v hC hk hd
      have h1 : s.tmps[1]? = some ((.pointer (some ⟨bi, 0, none⟩))) := (hk 1 (by kernel_rfl)).trans (F6.get 0 rfl)
      exact ok_value rfl (by simp [execOp, Act.eval, h1, go_sem])
    · intro s v hC hk hd
      have h13 : s.tmps[13]? = some (.pointer (some ⟨bi, 33, none⟩)) := hd 4 (by kernel_rfl)
      exact ok_load_at rfl rfl h13 ((M4.keep hC).get 0 rfl) p2 Try.underlying26 rfl (by rw [sn]; kernel_rfl)
    · intro s v hC hk hd
      have h1 : s.tmps[1]? = some ((.pointer (some ⟨bi, 0, none⟩))) := (hk 1 (by kernel_rfl)).trans (F6.get 0 rfl)
      exact ok_value rfl (by simp [execOp, Act.eval, h1, go_sem])
    · intro s v hC hk hd
      have h15 : s.tmps[15]? = some (.pointer (some ⟨bi, 45, none⟩)) := hd 6 (by kernel_rfl)
      exact ok_value rfl (ex_load1 rfl h15 ((M4.keep hC).get 0 rfl) pt Try.underlying9 rfl)
    · intro s v hC hk hd
      have h1 : s.tmps[1]? = some ((.pointer (some ⟨bi, 0, none⟩))) := (hk 1 (by kernel_rfl)).trans (F6.get 0 rfl)
      exact ok_value rfl (by simp [execOp, Act.eval, h1, go_sem])
    · intro s v hC hk hd
      have h17 : s.tmps[17]? = some (.pointer (some ⟨bi, 46, none⟩)) := hd 8 (by kernel_rfl)
      exact ok_value rfl (ex_load1 rfl h17 ((M4.keep hC).get 0 rfl) pu Try.underlying5 rfl)
    · intro s v hC hk hd
      exact ⟨rfl, by simp [execOp, go_sem, cn]⟩
    · intro s v hC hk hd
      exact ⟨rfl, by simp [execOp, go_sem, cn]⟩
    · intro s v hC hk hd
      exact ⟨3, 10, 23, (cn .u8 (List.replicate 32 0)), (cn .u8 ks), 1, rfl, rfl, rfl, by kernel_rfl, rfl, rfl, by kernel_rfl, rfl, rfl, (by rw [sk, cn_size]; rfl), (cn_one _ _), (by rw [sk]; kernel_rfl)⟩
    · intro s v hC hk hd
      have h12 : s.tmps[12]? = some (.int .u32 (c : Nat)) := hd 3 (by kernel_rfl)
      exact ok_value rfl (ex_assign rfl (eval_tmp h12))
    · intro s v hC hk hd
      exact ⟨5, 14, 26, (cn .u8 (List.replicate 12 0)), (cn .u8 ns), 5, rfl, rfl, rfl, by kernel_rfl, rfl, rfl, by kernel_rfl, rfl, rfl, (by rw [sn, cn_size]; rfl), (cn_one _ _), (by rw [sn]; kernel_rfl)⟩
    · intro s v hC hk hd
      have h16 : s.tmps[16]? = some (.string (bs X)) := hd 7 (by kernel_rfl)
      exact ok_value rfl (ex_assign rfl (eval_tmp h16))
    · intro s v hC hk hd
      have h18 : s.tmps[18]? = some (.int .u8 (u : Nat)) := hd 9 (by kernel_rfl)
      exact ok_value rfl (ex_assign rfl (eval_tmp h18))
  · intro nb w7 hC hf hne
    obtain ⟨⟨l3, f3⟩, ⟨l5, f5⟩, _⟩ := hf
    simp only [Nat.zero_add, Nat.reduceAdd] at l3 f3
    simp only [Nat.zero_add, Nat.reduceAdd] at l5 f5
    have n10_11 := hne 10 11 rfl rfl (by decide)
    have M10 : Mem w0.heap.size w0 w7 [((nb 11), .cells (cn .u8 ns) 26), ((nb 10), .cells (cn .u8 ks) 23), (bi, .cells cp 38)] := (((M4.keep hC).also (M4.ne_new l3) (Nat.le_trans M4.size l3) f3).also (Mem.ne_cons n10_11 (M4.ne_new l5)) (Nat.le_trans M4.size l5) f5)
    refine fr_norm [0, 1, 2, 3, 4] F6 (by kernel_rfl) fun a8 (F9 : Fr 59 a8 [(7, (.int .u8 (u : Nat))), (6, (.string (bs X))), (4, (.int .u32 (c : Nat))), (5, (.pointer (some ⟨nb 11, 0, none⟩))), (3, (.pointer (some ⟨nb 10, 0, none⟩)))]) => ?_
    clear hC
    generalize nb 10 = bk at *
    generalize nb 11 = bn at *
    refine then_n ?_
    by_cases hlen : 300 < X.length
    · refine wp_seq (wp_seq (wp_region_list ?_))
      refine st_val [0] F9 (d := 19) (v := (.string (bs X))) rfl rfl (by decide) (ex_move rfl (F9.ev 1 rfl)) fun a11 (F12 : Fr 59 a11 [(19, (.string (bs X)))]) => ?_
      refine st_val [0] F12 (d := 20) (v := (.int .i64 (X.length : Nat))) rfl rfl (by decide) (by simp [Act.eval, (F12.get 0 rfl), bs_size, go_sem]) fun a13 (F14 : Fr 59 a13 [(20, (.int .i64 (X.length : Nat)))]) => ?_
      refine st_val [0] F14 (d := 21) (v := (.bool true)) rfl rfl (by decide) (by simp [execOp, Act.eval, (F14.get 0 rfl), go_sem]; omega) fun a15 (F16 : Fr 59 a15 [(21, (.bool true))]) => ?_
      refine wpl_nil (then_n ?_)
      refine wp_cond_true (F16.ev 0 rfl) ?_
      refine wp_seq (wp_region_list ?_)
      refine st_call [0] F16 M10 (d := 22) (f := 7) (args := #[]) (v := (.bool true)) rfl rfl (by decide) (by simp [go_sem]) (wakes_any w7) fun a17 w19 (F18 : Fr 59 a17 [(22, (.bool true))]) (M20 : Mem w0.heap.size w0 w19 [(bn, .cells (cn .u8 ns) 26), (bk, .cells (cn .u8 ks) 23), (bi, .cells cp 38)]) => ?_
      refine st_val [0] F18 (d := 2) (v := (.bool true)) rfl rfl (by decide) (ex_assign rfl (F18.ev 0 rfl)) fun a21 (F22 : Fr 59 a21 [(2, (.bool true))]) => ?_
      refine wpl_nil (then_n ?_)
      exact wp_ret (then_ret (ret_fr F22 0 Try.results5 rfl ⟨rfl, M20.below⟩))
    · refine wp_seq (wp_seq (wp_region_list ?_))
      refine st_val [0, 1, 2, 3, 4, 5] F9 (d := 19) (v := (.string (bs X))) rfl rfl (by decide) (ex_move rfl (F9.ev 1 rfl)) fun a23 (F24 : Fr 59 a23 [(19, (.string (bs X))), (7, (.int .u8 (u : Nat))), (6, (.string (bs X))), (4, (.int .u32 (c : Nat))), (5, (.pointer (some ⟨bn, 0, none⟩))), (3, (.pointer (some ⟨bk, 0, none⟩)))]) => ?_
      refine st_val [0, 2, 3, 4, 5, 6] F24 (d := 20) (v := (.int .i64 (X.length : Nat))) rfl rfl (by decide) (by simp [Act.eval, (F24.get 0 rfl), bs_size, go_sem]) fun a25 (F26 : Fr 59 a25 [(20, (.int .i64 (X.length : Nat))), (7, (.int .u8 (u : Nat))), (6, (.string (bs X))), (4, (.int .u32 (c : Nat))), (5, (.pointer (some ⟨bn, 0, none⟩))), (3, (.pointer (some ⟨bk, 0, none⟩)))]) => ?_
      refine st_val [0, 2, 3, 4, 5, 6] F26 (d := 21) (v := (.bool false)) rfl rfl (by decide) (by simp [execOp, Act.eval, (F26.get 0 rfl), go_sem]; omega) fun a27 (F28 : Fr 59 a27 [(21, (.bool false)), (7, (.int .u8 (u : Nat))), (6, (.string (bs X))), (4, (.int .u32 (c : Nat))), (5, (.pointer (some ⟨bn, 0, none⟩))), (3, (.pointer (some ⟨bk, 0, none⟩)))]) => ?_
      refine wpl_nil (then_n ?_)
      refine wp_cond_false (F28.ev 0 rfl) (wp_skip (then_n ?_))
      refine wp_seq (wp_region_list ?_)
      refine st_val [0, 3, 4, 5, 6] F28 (d := 23) (v := (.int .u8 (u : Nat))) rfl rfl (by decide) (ex_move rfl (F28.ev 1 rfl)) fun a29 (F30 : Fr 59 a29 [(23, (.int .u8 (u : Nat))), (6, (.string (bs X))), (4, (.int .u32 (c : Nat))), (5, (.pointer (some ⟨bn, 0, none⟩))), (3, (.pointer (some ⟨bk, 0, none⟩)))]) => ?_
      refine st_val [0, 2, 3, 4, 5] F30 (d := 24) (v := (.int .i64 (u : Nat))) rfl rfl (by decide) (by simp [execOp, Act.eval, (F30.get 0 rfl), go_sem]; rw [IntKind.wrap_i64]; omega) fun a31 (F32 : Fr 59 a31 [(24, (.int .i64 (u : Nat))), (6, (.string (bs X))), (4, (.int .u32 (c : Nat))), (5, (.pointer (some ⟨bn, 0, none⟩))), (3, (.pointer (some ⟨bk, 0, none⟩)))]) => ?_
      refine st_val [0, 1, 2, 3, 4, 5] F32 (d := 25) (v := (.string (bs X))) rfl rfl (by decide) (ex_move rfl (F32.ev 1 rfl)) fun a33 (F34 : Fr 59 a33 [(25, (.string (bs X))), (24, (.int .i64 (u : Nat))), (6, (.string (bs X))), (4, (.int .u32 (c : Nat))), (5, (.pointer (some ⟨bn, 0, none⟩))), (3, (.pointer (some ⟨bk, 0, none⟩)))]) => ?_
      refine st_val [0, 2, 3, 4, 5, 6] F34 (d := 26) (v := (.int .i64 (X.length : Nat))) rfl rfl (by decide) (by simp [Act.eval, (F34.get 0 rfl), bs_size, go_sem]) fun a35 (F36 : Fr 59 a35 [(26, (.int .i64 (X.length : Nat))), (24, (.int .i64 (u : Nat))), (6, (.string (bs X))), (4, (.int .u32 (c : Nat))), (5, (.pointer (some ⟨bn, 0, none⟩))), (3, (.pointer (some ⟨bk, 0, none⟩)))]) => ?_
      refine st_val [0, 2, 3, 4, 5, 6] F36 (d := 27) (v := (.int .i64 (X.length / 64 : Nat))) rfl rfl (by decide) (by simp [execOp, Act.eval, (F36.get 0 rfl), go_sem]; rw [IntKind.wrap_i64]; omega) fun a37 (F38 : Fr 59 a37 [(27, (.int .i64 (X.length / 64 : Nat))), (24, (.int .i64 (u : Nat))), (6, (.string (bs X))), (4, (.int .u32 (c : Nat))), (5, (.pointer (some ⟨bn, 0, none⟩))), (3, (.pointer (some ⟨bk, 0, none⟩)))]) => ?_
      refine st_val [0, 2, 3, 4, 5, 6] F38 (d := 28) (v := (.int .i64 (X.length / 64 + 1 : Nat))) rfl rfl (by decide) (by simp [execOp, Act.eval, (F38.get 0 rfl), go_sem]; rw [IntKind.wrap_i64]; omega) fun a39 (F40 : Fr 59 a39 [(28, (.int .i64 (X.length / 64 + 1 : Nat))), (24, (.int .i64 (u : Nat))), (6, (.string (bs X))), (4, (.int .u32 (c : Nat))), (5, (.pointer (some ⟨bn, 0, none⟩))), (3, (.pointer (some ⟨bk, 0, none⟩)))]) => ?_
      refine st_val [0, 3, 4, 5, 6] F40 (d := 29) (v := (.int .i64 (u % (X.length / 64 + 1) : Nat))) rfl rfl (by decide) (by simp [execOp, Act.eval, (F40.get 1 rfl), (F40.get 0 rfl), go_sem]; rw [if_neg (by omega), Int.tmod_eq_emod_of_nonneg (by omega)]) fun a41 (F42 : Fr 59 a41 [(29, (.int .i64 (u % (X.length / 64 + 1) : Nat))), (6, (.string (bs X))), (4, (.int .u32 (c : Nat))), (5, (.pointer (some ⟨bn, 0, none⟩))), (3, (.pointer (some ⟨bk, 0, none⟩)))]) => ?_
      refine st_val [0, 2, 3, 4, 5] F42 (d := 8) (v := (.int .i64 (u % (X.length / 64 + 1) : Nat))) rfl rfl (by decide) (ex_assign rfl (F42.ev 0 rfl)) fun a43 (F44 : Fr 59 a43 [(8, (.int .i64 (u % (X.length / 64 + 1) : Nat))), (6, (.string (bs X))), (4, (.int .u32 (c : Nat))), (5, (.pointer (some ⟨bn, 0, none⟩))), (3, (.pointer (some ⟨bk, 0, none⟩)))]) => ?_
      refine wpl_nil (then_n ?_)
      obtain ⟨k, hk⟩ : ∃ k, u % (X.length / 64 + 1) = k := ⟨_, rfl⟩
      have hk2 : k < X.length / 64 + 1 := by rw [← hk]; exact Nat.mod_lt _ (by omega)
      have hk3 : 64 * k ≤ X.length := by omega
      rw [hk] at F44
      have KX := Mask_any ks ns X c hks hc hns hX
      have hA : ∀ i, ((X.take (64 * k)).drop 0).getD i 0 < 256 := cut_lt X hX _ _
      have hB : ∀ i, ((X.take X.length).drop (64 * k)).getD i 0 < 256 := cut_lt X hX _ _
      have KA := Mask_any ks ns _ c hks hc hns hA
      have KB := Mask_any ks ns _ ((c + k) % 4294967296) hks (Nat.mod_lt _ (by decide)) hns hB
      have eAB : bs (maskN ks c ns ((X.take (64 * k)).drop 0)) ++ bs (maskN ks ((c + k) % 4294967296) ns ((X.take X.length).drop (64 * k))) = bs (maskN ks c ns X) := by
        rw [bs_app, List.drop_zero, List.take_length, maskN_parts _ _ _ _ _ hk3]
      have szAB : (bs (maskN ks c ns ((X.take (64 * k)).drop 0))).size + (bs (maskN ks ((c + k) % 4294967296) ns ((X.take X.length).drop (64 * k)))).size ≤ 9223372036854775807 := by
        rw [bs_size, bs_size, maskN_len, maskN_len]; simp; omega
      generalize maskN ks c ns ((X.take (64 * k)).drop 0) = YA at *
      generalize maskN ks ((c + k) % 4294967296) ns ((X.take X.length).drop (64 * k)) = YB at *
      generalize maskN ks c ns X = Y at *
      refine wp_seq (region_list w7.heap.size (C := fun w' => Below w7.heap.size w7 w') [.inl (.agg (cn .u8 ks)), .inl ((.int .u32 (c : Nat))), .inl (.agg (cn .u8 ns)), .inl ((.string (bs X))), .inl ((.int .i64 (k : Nat))), .inl (.int .i64 ((64 * k : Nat) : Int)), .inl (.string (bs ((X.take (64 * k)).drop 0))), .inl (.string (bs YA)), .inl (.agg (cn .u8 ks)), .inl ((.int .u32 (c : Nat))), .inl ((.int .i64 (k : Nat))), .inl (.int .u32 (k : Nat)), .inl (.int .u32 ((c + k) % 4294967296 : Nat)), .inl (.agg (cn .u8 ns)), .inl ((.string (bs X))), .inl ((.int .i64 (k : Nat))), .inl (.int .i64 ((64 * k : Nat) : Int)), .inl (.string (bs ((X.take X.length).drop (64 * k)))), .inl (.string (bs YB)), .inl (.string (bs Y)), .inl (.agg (cn .u8 ks)), .inl ((.int .u32 (c : Nat))), .inl (.agg (cn .u8 ns)), .inl ((.string (bs X))), .inl (.string (bs Y)), .inl (.bool true), .inl (.bool true), .inl (.bool true), .inl (.bool true), .inl (.bool true)] [] (by kernel_rfl) (by rw [F44.size]; kernel_rfl) ⟨rfl, rfl, rfl, Nat.le_refl _, fun _ _ => rfl⟩ (fun w1 w2 h1 h2 => h1.trans (h2.mono h1.size)) (fun i h => by simp at h) ?_ ?_)
      · refine ⟨?_, ?_, ?_, ?_, ?_, ?_, ?_, ?_, ?_, ?_, ?_, ?_, ?_, ?_, ?_, ?_, ?_, ?_, ?_, ?_, ?_, ?_, ?_, ?_, ?_, ?_, ?_, ?_, ?_, ?_, trivial⟩
        · intro s v hC hk hd
          have h3 : s.tmps[3]? = some ((.pointer (some ⟨bk, 0, none⟩))) := (hk 3 (by kernel_rfl)).trans (F44.get 4 rfl)
          exact ok_load rfl rfl h3 ((M10.keep hC).get 1 rfl) Try.underlying23 rfl (by kernel_rfl) sk
        · intro s v hC hk hd
          have h4 : s.tmps[4]? = some ((.int .u32 (c : Nat))) := (hk 4 (by kernel_rfl)).trans (F44.get 2 rfl)
          exact ok_value rfl (ex_move rfl (eval_tmp h4))
        · intro s v hC hk hd
          have h5 : s.tmps[5]? = some ((.pointer (some ⟨bn, 0, none⟩))) := (hk 5 (by kernel_rfl)).trans (F44.get 3 rfl)
          exact ok_load rfl rfl h5 ((M10.keep hC).get 0 rfl) Try.underlying26 rfl (by kernel_rfl) sn
        · intro s v hC hk hd
          have h6 : s.tmps[6]? = some ((.string (bs X))) := (hk 6 (by kernel_rfl)).trans (F44.get 1 rfl)
          exact ok_value rfl (ex_move rfl (eval_tmp h6))
        · intro s v hC hk hd
          have h8 : s.tmps[8]? = some ((.int .i64 (k : Nat))) := (hk 8 (by kernel_rfl)).trans (F44.get 0 rfl)
          exact ok_value rfl (ex_move rfl (eval_tmp h8))
        · intro s v hC hk hd
          have h34 : s.tmps[34]? = some ((.int .i64 (k : Nat))) := hd 4 (by kernel_rfl)
          exact ok_value rfl (by simp [execOp, Act.eval, h34, go_sem]; rw [IntKind.wrap_i64]; omega)
        · intro s v hC hk hd
          have h33 : s.tmps[33]? = some ((.string (bs X))) := hd 3 (by kernel_rfl)
          have h35 : s.tmps[35]? = some (.int .i64 ((64 * k : Nat) : Int)) := hd 5 (by kernel_rfl)
          exact ok_value rfl (ex_sliceStr none (some (64 * k)) rfl h33 rfl (by simp [optI, eval_tmp h35]) Try.underlying9 (Nat.zero_le _) hk3)
        · intro s v hC hk hd
          have h30 : s.tmps[30]? = some (.agg (cn .u8 ks)) := hd 0 (by kernel_rfl)
          have h31 : s.tmps[31]? = some ((.int .u32 (c : Nat))) := hd 1 (by kernel_rfl)
          have h32 : s.tmps[32]? = some (.agg (cn .u8 ns)) := hd 2 (by kernel_rfl)
          have h36 : s.tmps[36]? = some (.string (bs ((X.take (64 * k)).drop 0))) := hd 6 (by kernel_rfl)
          exact ok_call rfl (by simp [Act.eval, h30, h31, h32, h36, go_sem]) (KA v)
        · intro s v hC hk hd
          have h3 : s.tmps[3]? = some ((.pointer (some ⟨bk, 0, none⟩))) := (hk 3 (by kernel_rfl)).trans (F44.get 4 rfl)
          exact ok_load rfl rfl h3 ((M10.keep hC).get 1 rfl) Try.underlying23 rfl (by kernel_rfl) sk
        · intro s v hC hk hd
          have h4 : s.tmps[4]? = some ((.int .u32 (c : Nat))) := (hk 4 (by kernel_rfl)).trans (F44.get 2 rfl)
          exact ok_value rfl (ex_move rfl (eval_tmp h4))
        · intro s v hC hk hd
          have h8 : s.tmps[8]? = some ((.int .i64 (k : Nat))) := (hk 8 (by kernel_rfl)).trans (F44.get 0 rfl)
          exact ok_value rfl (ex_move rfl (eval_tmp h8))
        · intro s v hC hk hd
          have h40 : s.tmps[40]? = some ((.int .i64 (k : Nat))) := hd 10 (by kernel_rfl)
          exact ok_value rfl (by simp [execOp, Act.eval, h40, go_sem]; rw [IntKind.wrap_u32']; omega)
        · intro s v hC hk hd
          have h39 : s.tmps[39]? = some ((.int .u32 (c : Nat))) := hd 9 (by kernel_rfl)
          have h41 : s.tmps[41]? = some (.int .u32 (k : Nat)) := hd 11 (by kernel_rfl)
          exact ok_value rfl (by simp [execOp, Act.eval, h39, h41, go_sem]; rw [IntKind.wrap_u32'])
        · intro s v hC hk hd
          have h5 : s.tmps[5]? = some ((.pointer (some ⟨bn, 0, none⟩))) := (hk 5 (by kernel_rfl)).trans (F44.get 3 rfl)
          exact ok_load rfl rfl h5 ((M10.keep hC).get 0 rfl) Try.underlying26 rfl (by kernel_rfl) sn
        · intro s v hC hk hd
          have h6 : s.tmps[6]? = some ((.string (bs X))) := (hk 6 (by kernel_rfl)).trans (F44.get 1 rfl)
          exact ok_value rfl (ex_move rfl (eval_tmp h6))
        · intro s v hC hk hd
          have h8 : s.tmps[8]? = some ((.int .i64 (k : Nat))) := (hk 8 (by kernel_rfl)).trans (F44.get 0 rfl)
          exact ok_value rfl (ex_move rfl (eval_tmp h8))
        · intro s v hC hk hd
          have h45 : s.tmps[45]? = some ((.int .i64 (k : Nat))) := hd 15 (by kernel_rfl)
          exact ok_value rfl (by simp [execOp, Act.eval, h45, go_sem]; rw [IntKind.wrap_i64]; omega)
        · intro s v hC hk hd
          have h44 : s.tmps[44]? = some ((.string (bs X))) := hd 14 (by kernel_rfl)
          have h46 : s.tmps[46]? = some (.int .i64 ((64 * k : Nat) : Int)) := hd 16 (by kernel_rfl)
          exact ok_value rfl (ex_sliceStr (some (64 * k)) none rfl h44 (by simp [optI, eval_tmp h46]) rfl Try.underlying9 hk3 (Nat.zero_le _))
        · intro s v hC hk hd
          have h38 : s.tmps[38]? = some (.agg (cn .u8 ks)) := hd 8 (by kernel_rfl)
          have h42 : s.tmps[42]? = some (.int .u32 ((c + k) % 4294967296 : Nat)) := hd 12 (by kernel_rfl)
          have h43 : s.tmps[43]? = some (.agg (cn .u8 ns)) := hd 13 (by kernel_rfl)
          have h47 : s.tmps[47]? = some (.string (bs ((X.take X.length).drop (64 * k)))) := hd 17 (by kernel_rfl)
          exact ok_call rfl (by simp [Act.eval, h38, h42, h43, h47, go_sem]) (KB v)
        · intro s v hC hk hd
          have h37 : s.tmps[37]? = some (.string (bs YA)) := hd 7 (by kernel_rfl)
          have h48 : s.tmps[48]? = some (.string (bs YB)) := hd 18 (by kernel_rfl)
          exact ok_value rfl (by simp [execOp, Act.eval, h37, h48, eAB, go_sem]; exact szAB)
        · intro s v hC hk hd
          have h3 : s.tmps[3]? = some ((.pointer (some ⟨bk, 0, none⟩))) := (hk 3 (by kernel_rfl)).trans (F44.get 4 rfl)
          exact ok_load rfl rfl h3 ((M10.keep hC).get 1 rfl) Try.underlying23 rfl (by kernel_rfl) sk
        · intro s v hC hk hd
          have h4 : s.tmps[4]? = some ((.int .u32 (c : Nat))) := (hk 4 (by kernel_rfl)).trans (F44.get 2 rfl)
          exact ok_value rfl (ex_move rfl (eval_tmp h4))
        · intro s v hC hk hd
          have h5 : s.tmps[5]? = some ((.pointer (some ⟨bn, 0, none⟩))) := (hk 5 (by kernel_rfl)).trans (F44.get 3 rfl)
          exact ok_load rfl rfl h5 ((M10.keep hC).get 0 rfl) Try.underlying26 rfl (by kernel_rfl) sn
        · intro s v hC hk hd
          have h6 : s.tmps[6]? = some ((.string (bs X))) := (hk 6 (by kernel_rfl)).trans (F44.get 1 rfl)
          exact ok_value rfl (ex_move rfl (eval_tmp h6))
        · intro s v hC hk hd
          have h50 : s.tmps[50]? = some (.agg (cn .u8 ks)) := hd 20 (by kernel_rfl)
          have h51 : s.tmps[51]? = some ((.int .u32 (c : Nat))) := hd 21 (by kernel_rfl)
          have h52 : s.tmps[52]? = some (.agg (cn .u8 ns)) := hd 22 (by kernel_rfl)
          have h53 : s.tmps[53]? = some ((.string (bs X))) := hd 23 (by kernel_rfl)
          exact ok_call rfl (by simp [Act.eval, h50, h51, h52, h53, go_sem]) (KX v)
        · intro s v hC hk hd
          have h49 : s.tmps[49]? = some (.string (bs Y)) := hd 19 (by kernel_rfl)
          have h54 : s.tmps[54]? = some (.string (bs Y)) := hd 24 (by kernel_rfl)
          exact ok_value rfl (by simp [execOp, Act.eval, h49, h54, go_sem])
        · intro s v hC hk hd
          have h55 : s.tmps[55]? = some (.bool true) := hd 25 (by kernel_rfl)
          exact ok_value rfl (ex_move rfl (eval_tmp h55))
        · intro s v hC hk hd
          exact ok_call (wanted_of rfl rfl (hd 26 (by kernel_rfl))) (by simp [go_sem]) (wakes_any v)
        · intro s v hC hk hd
          have h56 : s.tmps[56]? = some (.bool true) := hd 26 (by kernel_rfl)
          have h57 : s.tmps[57]? = some (.bool true) := hd 27 (by kernel_rfl)
          exact ok_value rfl (by simp [execOp, Act.eval, h56, h57, go_sem])
        · intro s v hC hk hd
          have h58 : s.tmps[58]? = some (.bool true) := hd 28 (by kernel_rfl)
          exact ok_value rfl (ex_assign rfl (eval_tmp h58))
      · intro nb w45 hC hf hne
        have M48 := M10.keep hC
        refine fr_all [0] F44 (by kernel_rfl) fun a46 (F47 : Fr 59 a46 [(2, (.bool true))]) => ?_
        refine wpl_nil (then_n ?_)
        exact wp_ret (ret_fr F47 0 Try.results5 rfl ⟨rfl, M48.below⟩)

end Go.Proofs.Ytlpoimmpjcldjaa
