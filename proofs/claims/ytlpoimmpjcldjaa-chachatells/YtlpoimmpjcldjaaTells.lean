/- ChachaTells: the walk. -/
import Derived.Test.YtlpoimmpjcldjaaW7
import Derived.Test.YtlpoimmpjcldjaaLay
import Derived.Test.YtlpoimmpjcldjaaR3
namespace Go.Proofs.Ytlpoimmpjcldjaa
open Go.RowKit

set_option maxRecDepth 100000 in
set_option maxHeartbeats 1000000 in
theorem tells_any (cp : Array Value) (ks ns X : List Nat) (c : Nat) (hks : Bytes 32 ks) (hc : c < 4294967296) (hns : Bytes 12 ns) (hX : ∀ i, X.getD i 0 < 256)
    (p1 : ∀ j v, (cn .u8 ks)[j]? = some v → cp[0 + j]? = some v) (pc : cp[32]? = some (.int .u32 (c : Nat))) (p2 : ∀ j v, (cn .u8 ns)[j]? = some v → cp[33 + j]? = some v) (pt : cp[45]? = some (.string (bs X))) (w0 : World) :
    Calls Try.prog 3 #[.agg cp] w0 fun e w' => e = .returned (.bool true) ∧ Below w0.heap.size w0 w' := by
  have sk : (cn .u8 ks).size = 32 := by rw [cn_size, hks.len]
  have sn : (cn .u8 ns).size = 12 := by rw [cn_size, hns.len]
  refine enter_fr Try.func3 rfl Try.ntmps3 (by simp) fun a (F : Fr 44 a [(0, .agg cp)]) => ?_
  have M := Mem.start w0
  refine wp_seq (wp_region_list ?_)
  refine st_alloc [0] F M (d := 1) (.cells cp 28) (fun b => .pointer (some ⟨b, 0, none⟩)) rfl rfl (by decide) (by simp [execOp, Act.eval, (F.get 0 rfl), go_sem]) fun a1 w3 bi (F2 : Fr 44 a1 [(1, (.pointer (some ⟨bi, 0, none⟩)))]) (M4 : Mem w0.heap.size w0 w3 [(bi, .cells cp 28)]) => ?_
  refine st_val [1] F2 (d := 2) (v := (.bool false)) rfl rfl (by decide) (ex_assign rfl rfl) fun a5 (F6 : Fr 44 a5 [(1, (.pointer (some ⟨bi, 0, none⟩)))]) => ?_
  refine wpl_nil (then_n ?_)
  refine wp_seq (region_lay [lval (.pointer (some ⟨bi, 0, none⟩)), lval (.agg (cn .u8 ks)), lval (.pointer (some ⟨bi, 32, none⟩)), lval (.int .u32 (c : Nat)), lval (.pointer (some ⟨bi, 33, none⟩)), lval (.agg (cn .u8 ns)), lval (.pointer (some ⟨bi, 45, none⟩)), lval (.string (bs X)), lnew (.cells (cn .u8 (List.replicate 32 0)) 23) (fun b => .pointer (some ⟨b, 0, none⟩)) (some (10, .cells (cn .u8 ks) 23)), lnew (.cells (cn .u8 (List.replicate 12 0)) 26) (fun b => .pointer (some ⟨b, 0, none⟩)) (some (12, .cells (cn .u8 ns) 26)), lsto 8, lval (.int .u32 (c : Nat)), lsto 9, lval (.string (bs X))] (by kernel_rfl) (by rw [F6.size]; kernel_rfl) ?_ ?_)
  · refine ⟨?_, ?_, ?_, ?_, ?_, ?_, ?_, ?_, ?_, ?_, ?_, ?_, ?_, ?_, trivial⟩
    · intro s v hC hk hd
      have h1 : s.tmps[1]? = some ((.pointer (some ⟨bi, 0, none⟩))) := (hk 1 (by kernel_rfl)).trans (F6.get 0 rfl)
      exact ok_value rfl (by simp [execOp, Act.eval, h1, go_sem])
    · intro s v hC hk hd
      have h7 : s.tmps[7]? = some (.pointer (some ⟨bi, 0, none⟩)) := hd 0 (by kernel_rfl)
      exact ok_load_at rfl rfl h7 ((M4.keep hC).get 0 rfl) p1 Try.underlying23 rfl (by rw [sk]; kernel_rfl)
    · intro s v hC hk hd
      have h1 : s.tmps[1]? = some ((.pointer (some ⟨bi, 0, none⟩))) := (hk 1 (by kernel_rfl)).trans (F6.get 0 rfl)
      exact ok_value rfl (by simp [execOp, Act.eval, h1, go_sem])
    · intro s v hC hk hd
      have h9 : s.tmps[9]? = some (.pointer (some ⟨bi, 32, none⟩)) := hd 2 (by kernel_rfl)
      exact ok_value rfl (ex_load1 rfl h9 ((M4.keep hC).get 0 rfl) pc Try.underlying24 rfl)
    · intro s v hC hk hd
      have h1 : s.tmps[1]? = some ((.pointer (some ⟨bi, 0, none⟩))) := (hk 1 (by kernel_rfl)).trans (F6.get 0 rfl)
      exact ok_value rfl (by simp [execOp, Act.eval, h1, go_sem])
    · intro s v hC hk hd
      have h11 : s.tmps[11]? = some (.pointer (some ⟨bi, 33, none⟩)) := hd 4 (by kernel_rfl)
      exact ok_load_at rfl rfl h11 ((M4.keep hC).get 0 rfl) p2 Try.underlying26 rfl (by rw [sn]; kernel_rfl)
    · intro s v hC hk hd
      have h1 : s.tmps[1]? = some ((.pointer (some ⟨bi, 0, none⟩))) := (hk 1 (by kernel_rfl)).trans (F6.get 0 rfl)
      exact ok_value rfl (by simp [execOp, Act.eval, h1, go_sem])
    · intro s v hC hk hd
      have h13 : s.tmps[13]? = some (.pointer (some ⟨bi, 45, none⟩)) := hd 6 (by kernel_rfl)
      exact ok_value rfl (ex_load1 rfl h13 ((M4.keep hC).get 0 rfl) pt Try.underlying9 rfl)
    · intro s v hC hk hd
      exact ⟨rfl, by simp [execOp, go_sem, cn]⟩
    · intro s v hC hk hd
      exact ⟨rfl, by simp [execOp, go_sem, cn]⟩
    · intro s v hC hk hd
      exact ⟨3, 8, 23, (cn .u8 (List.replicate 32 0)), (cn .u8 ks), 1, rfl, rfl, rfl, by kernel_rfl, rfl, rfl, by kernel_rfl, rfl, rfl, (by rw [sk, cn_size]; rfl), (cn_one _ _), (by rw [sk]; kernel_rfl)⟩
    · intro s v hC hk hd
      have h10 : s.tmps[10]? = some (.int .u32 (c : Nat)) := hd 3 (by kernel_rfl)
      exact ok_value rfl (ex_assign rfl (eval_tmp h10))
    · intro s v hC hk hd
      exact ⟨5, 12, 26, (cn .u8 (List.replicate 12 0)), (cn .u8 ns), 5, rfl, rfl, rfl, by kernel_rfl, rfl, rfl, by kernel_rfl, rfl, rfl, (by rw [sn, cn_size]; rfl), (cn_one _ _), (by rw [sn]; kernel_rfl)⟩
    · intro s v hC hk hd
      have h14 : s.tmps[14]? = some (.string (bs X)) := hd 7 (by kernel_rfl)
      exact ok_value rfl (ex_assign rfl (eval_tmp h14))
  · intro nb w7 hC hf hne
    obtain ⟨⟨l3, f3⟩, ⟨l5, f5⟩, _⟩ := hf
    simp only [Nat.zero_add, Nat.reduceAdd] at l3 f3
    simp only [Nat.zero_add, Nat.reduceAdd] at l5 f5
    have n8_9 := hne 8 9 rfl rfl (by decide)
    have M10 : Mem w0.heap.size w0 w7 [((nb 9), .cells (cn .u8 ns) 26), ((nb 8), .cells (cn .u8 ks) 23), (bi, .cells cp 28)] := (((M4.keep hC).also (M4.ne_new l3) (Nat.le_trans M4.size l3) f3).also (Mem.ne_cons n8_9 (M4.ne_new l5)) (Nat.le_trans M4.size l5) f5)
    refine fr_norm [0, 1, 2, 3] F6 (by kernel_rfl) fun a8 (F9 : Fr 44 a8 [(6, (.string (bs X))), (4, (.int .u32 (c : Nat))), (5, (.pointer (some ⟨nb 9, 0, none⟩))), (3, (.pointer (some ⟨nb 8, 0, none⟩)))]) => ?_
    clear hC
    generalize nb 8 = bk at *
    generalize nb 9 = bn at *
    refine then_n ?_
    by_cases hlen : 300 < X.length
    · refine wp_seq (wp_seq (wp_region_list ?_))
      refine st_val [0] F9 (d := 15) (v := (.string (bs X))) rfl rfl (by decide) (ex_move rfl (F9.ev 0 rfl)) fun a11 (F12 : Fr 44 a11 [(15, (.string (bs X)))]) => ?_
      refine st_val [0] F12 (d := 16) (v := (.int .i64 (X.length : Nat))) rfl rfl (by decide) (by simp [Act.eval, (F12.get 0 rfl), bs_size, go_sem]) fun a13 (F14 : Fr 44 a13 [(16, (.int .i64 (X.length : Nat)))]) => ?_
      refine st_val [0] F14 (d := 17) (v := (.bool true)) rfl rfl (by decide) (by simp [execOp, Act.eval, (F14.get 0 rfl), go_sem]; omega) fun a15 (F16 : Fr 44 a15 [(17, (.bool true))]) => ?_
      refine wpl_nil (then_n ?_)
      refine wp_cond_true (F16.ev 0 rfl) ?_
      refine wp_seq (wp_region_list ?_)
      refine st_call [0] F16 M10 (d := 18) (f := 7) (args := #[]) (v := (.bool true)) rfl rfl (by decide) (by simp [go_sem]) (wakes_any w7) fun a17 w19 (F18 : Fr 44 a17 [(18, (.bool true))]) (M20 : Mem w0.heap.size w0 w19 [(bn, .cells (cn .u8 ns) 26), (bk, .cells (cn .u8 ks) 23), (bi, .cells cp 28)]) => ?_
      refine st_val [0] F18 (d := 2) (v := (.bool true)) rfl rfl (by decide) (ex_assign rfl (F18.ev 0 rfl)) fun a21 (F22 : Fr 44 a21 [(2, (.bool true))]) => ?_
      refine wpl_nil (then_n ?_)
      exact wp_ret (then_ret (ret_fr F22 0 Try.results3 rfl ⟨rfl, M20.below⟩))
    · refine wp_seq (wp_seq (wp_region_list ?_))
      refine st_val [0, 1, 2, 3, 4] F9 (d := 15) (v := (.string (bs X))) rfl rfl (by decide) (ex_move rfl (F9.ev 0 rfl)) fun a23 (F24 : Fr 44 a23 [(15, (.string (bs X))), (6, (.string (bs X))), (4, (.int .u32 (c : Nat))), (5, (.pointer (some ⟨bn, 0, none⟩))), (3, (.pointer (some ⟨bk, 0, none⟩)))]) => ?_
      refine st_val [0, 2, 3, 4, 5] F24 (d := 16) (v := (.int .i64 (X.length : Nat))) rfl rfl (by decide) (by simp [Act.eval, (F24.get 0 rfl), bs_size, go_sem]) fun a25 (F26 : Fr 44 a25 [(16, (.int .i64 (X.length : Nat))), (6, (.string (bs X))), (4, (.int .u32 (c : Nat))), (5, (.pointer (some ⟨bn, 0, none⟩))), (3, (.pointer (some ⟨bk, 0, none⟩)))]) => ?_
      refine st_val [0, 2, 3, 4, 5] F26 (d := 17) (v := (.bool false)) rfl rfl (by decide) (by simp [execOp, Act.eval, (F26.get 0 rfl), go_sem]; omega) fun a27 (F28 : Fr 44 a27 [(17, (.bool false)), (6, (.string (bs X))), (4, (.int .u32 (c : Nat))), (5, (.pointer (some ⟨bn, 0, none⟩))), (3, (.pointer (some ⟨bk, 0, none⟩)))]) => ?_
      refine wpl_nil (then_n ?_)
      refine wp_cond_false (F28.ev 0 rfl) (wp_skip (then_n ?_))
      have KB := Block_any ks ns c hks hc hns
      have KR := rBlock_any ks ns c hks hc hns
      have KM := Mask_any ks ns X c hks hc hns hX
      have KN := rMask_any ks ns X c hks hc hns hX (by omega)
      generalize blockN ks c ns = B at *
      generalize maskN ks c ns X = Y at *
      refine wp_seq (region_list w7.heap.size (C := fun w' => Below w7.heap.size w7 w') [.inl (.agg (cn .u8 ks)), .inl ((.int .u32 (c : Nat))), .inl (.agg (cn .u8 ns)), .inl (.string (bs B)), .inl (.agg (cn .u8 ks)), .inl ((.int .u32 (c : Nat))), .inl (.agg (cn .u8 ns)), .inl (.string (bs B)), .inl (.bool true), .inl (.bool true), .inl (.agg (cn .u8 ks)), .inl ((.int .u32 (c : Nat))), .inl (.agg (cn .u8 ns)), .inl ((.string (bs X))), .inl (.string (bs Y)), .inl (.agg (cn .u8 ks)), .inl ((.int .u32 (c : Nat))), .inl (.agg (cn .u8 ns)), .inl ((.string (bs X))), .inl (.string (bs Y)), .inl (.bool true), .inl (.bool true), .inl (.bool true), .inl (.bool true), .inl (.bool true), .inl (.bool true)] [] (by kernel_rfl) (by rw [F28.size]; kernel_rfl) ⟨rfl, rfl, rfl, Nat.le_refl _, fun _ _ => rfl⟩ (fun w1 w2 h1 h2 => h1.trans (h2.mono h1.size)) (fun i h => by simp at h) ?_ ?_)
      · refine ⟨?_, ?_, ?_, ?_, ?_, ?_, ?_, ?_, ?_, ?_, ?_, ?_, ?_, ?_, ?_, ?_, ?_, ?_, ?_, ?_, ?_, ?_, ?_, ?_, ?_, ?_, trivial⟩
        · intro s v hC hk hd
          have h3 : s.tmps[3]? = some ((.pointer (some ⟨bk, 0, none⟩))) := (hk 3 (by kernel_rfl)).trans (F28.get 4 rfl)
          exact ok_load rfl rfl h3 ((M10.keep hC).get 1 rfl) Try.underlying23 rfl (by kernel_rfl) sk
        · intro s v hC hk hd
          have h4 : s.tmps[4]? = some ((.int .u32 (c : Nat))) := (hk 4 (by kernel_rfl)).trans (F28.get 2 rfl)
          exact ok_value rfl (ex_move rfl (eval_tmp h4))
        · intro s v hC hk hd
          have h5 : s.tmps[5]? = some ((.pointer (some ⟨bn, 0, none⟩))) := (hk 5 (by kernel_rfl)).trans (F28.get 3 rfl)
          exact ok_load rfl rfl h5 ((M10.keep hC).get 0 rfl) Try.underlying26 rfl (by kernel_rfl) sn
        · intro s v hC hk hd
          have h19 : s.tmps[19]? = some (.agg (cn .u8 ks)) := hd 0 (by kernel_rfl)
          have h20 : s.tmps[20]? = some ((.int .u32 (c : Nat))) := hd 1 (by kernel_rfl)
          have h21 : s.tmps[21]? = some (.agg (cn .u8 ns)) := hd 2 (by kernel_rfl)
          exact ok_call rfl (by simp [Act.eval, h19, h20, h21, go_sem]) (KB v)
        · intro s v hC hk hd
          have h3 : s.tmps[3]? = some ((.pointer (some ⟨bk, 0, none⟩))) := (hk 3 (by kernel_rfl)).trans (F28.get 4 rfl)
          exact ok_load rfl rfl h3 ((M10.keep hC).get 1 rfl) Try.underlying23 rfl (by kernel_rfl) sk
        · intro s v hC hk hd
          have h4 : s.tmps[4]? = some ((.int .u32 (c : Nat))) := (hk 4 (by kernel_rfl)).trans (F28.get 2 rfl)
          exact ok_value rfl (ex_move rfl (eval_tmp h4))
        · intro s v hC hk hd
          have h5 : s.tmps[5]? = some ((.pointer (some ⟨bn, 0, none⟩))) := (hk 5 (by kernel_rfl)).trans (F28.get 3 rfl)
          exact ok_load rfl rfl h5 ((M10.keep hC).get 0 rfl) Try.underlying26 rfl (by kernel_rfl) sn
        · intro s v hC hk hd
          have h23 : s.tmps[23]? = some (.agg (cn .u8 ks)) := hd 4 (by kernel_rfl)
          have h24 : s.tmps[24]? = some ((.int .u32 (c : Nat))) := hd 5 (by kernel_rfl)
          have h25 : s.tmps[25]? = some (.agg (cn .u8 ns)) := hd 6 (by kernel_rfl)
          exact ok_call rfl (by simp [Act.eval, h23, h24, h25, go_sem]) (KR v)
        · intro s v hC hk hd
          have h22 : s.tmps[22]? = some (.string (bs B)) := hd 3 (by kernel_rfl)
          have h26 : s.tmps[26]? = some (.string (bs B)) := hd 7 (by kernel_rfl)
          exact ok_value rfl (by simp [execOp, Act.eval, h22, h26, go_sem])
        · intro s v hC hk hd
          have h27 : s.tmps[27]? = some (.bool true) := hd 8 (by kernel_rfl)
          exact ok_value rfl (ex_move rfl (eval_tmp h27))
        · intro s v hC hk hd
          have h3 : s.tmps[3]? = some ((.pointer (some ⟨bk, 0, none⟩))) := (hk 3 (by kernel_rfl)).trans (F28.get 4 rfl)
          exact ok_load (wanted_of rfl rfl (hd 9 (by kernel_rfl))) rfl h3 ((M10.keep hC).get 1 rfl) Try.underlying23 rfl (by kernel_rfl) sk
        · intro s v hC hk hd
          have h4 : s.tmps[4]? = some ((.int .u32 (c : Nat))) := (hk 4 (by kernel_rfl)).trans (F28.get 2 rfl)
          exact ok_value (wanted_of rfl rfl (hd 9 (by kernel_rfl))) (ex_move rfl (eval_tmp h4))
        · intro s v hC hk hd
          have h5 : s.tmps[5]? = some ((.pointer (some ⟨bn, 0, none⟩))) := (hk 5 (by kernel_rfl)).trans (F28.get 3 rfl)
          exact ok_load (wanted_of rfl rfl (hd 9 (by kernel_rfl))) rfl h5 ((M10.keep hC).get 0 rfl) Try.underlying26 rfl (by kernel_rfl) sn
        · intro s v hC hk hd
          have h6 : s.tmps[6]? = some ((.string (bs X))) := (hk 6 (by kernel_rfl)).trans (F28.get 1 rfl)
          exact ok_value (wanted_of rfl rfl (hd 9 (by kernel_rfl))) (ex_move rfl (eval_tmp h6))
        · intro s v hC hk hd
          have h29 : s.tmps[29]? = some (.agg (cn .u8 ks)) := hd 10 (by kernel_rfl)
          have h30 : s.tmps[30]? = some ((.int .u32 (c : Nat))) := hd 11 (by kernel_rfl)
          have h31 : s.tmps[31]? = some (.agg (cn .u8 ns)) := hd 12 (by kernel_rfl)
          have h32 : s.tmps[32]? = some ((.string (bs X))) := hd 13 (by kernel_rfl)
          exact ok_call (wanted_of rfl rfl (hd 9 (by kernel_rfl))) (by simp [Act.eval, h29, h30, h31, h32, go_sem]) (KM v)
        · intro s v hC hk hd
          have h3 : s.tmps[3]? = some ((.pointer (some ⟨bk, 0, none⟩))) := (hk 3 (by kernel_rfl)).trans (F28.get 4 rfl)
          exact ok_load (wanted_of rfl rfl (hd 9 (by kernel_rfl))) rfl h3 ((M10.keep hC).get 1 rfl) Try.underlying23 rfl (by kernel_rfl) sk
        · intro s v hC hk hd
          have h4 : s.tmps[4]? = some ((.int .u32 (c : Nat))) := (hk 4 (by kernel_rfl)).trans (F28.get 2 rfl)
          exact ok_value (wanted_of rfl rfl (hd 9 (by kernel_rfl))) (ex_move rfl (eval_tmp h4))
        · intro s v hC hk hd
          have h5 : s.tmps[5]? = some ((.pointer (some ⟨bn, 0, none⟩))) := (hk 5 (by kernel_rfl)).trans (F28.get 3 rfl)
          exact ok_load (wanted_of rfl rfl (hd 9 (by kernel_rfl))) rfl h5 ((M10.keep hC).get 0 rfl) Try.underlying26 rfl (by kernel_rfl) sn
        · intro s v hC hk hd
          have h6 : s.tmps[6]? = some ((.string (bs X))) := (hk 6 (by kernel_rfl)).trans (F28.get 1 rfl)
          exact ok_value (wanted_of rfl rfl (hd 9 (by kernel_rfl))) (ex_move rfl (eval_tmp h6))
        · intro s v hC hk hd
          have h34 : s.tmps[34]? = some (.agg (cn .u8 ks)) := hd 15 (by kernel_rfl)
          have h35 : s.tmps[35]? = some ((.int .u32 (c : Nat))) := hd 16 (by kernel_rfl)
          have h36 : s.tmps[36]? = some (.agg (cn .u8 ns)) := hd 17 (by kernel_rfl)
          have h37 : s.tmps[37]? = some ((.string (bs X))) := hd 18 (by kernel_rfl)
          exact ok_call (wanted_of rfl rfl (hd 9 (by kernel_rfl))) (by simp [Act.eval, h34, h35, h36, h37, go_sem]) (KN v)
        · intro s v hC hk hd
          have h33 : s.tmps[33]? = some (.string (bs Y)) := hd 14 (by kernel_rfl)
          have h38 : s.tmps[38]? = some (.string (bs Y)) := hd 19 (by kernel_rfl)
          exact ok_value (wanted_of rfl rfl (hd 9 (by kernel_rfl))) (by simp [execOp, Act.eval, h33, h38, go_sem])
        · intro s v hC hk hd
          have h28 : s.tmps[28]? = some (.bool true) := hd 9 (by kernel_rfl)
          have h39 : s.tmps[39]? = some (.bool true) := hd 20 (by kernel_rfl)
          exact ok_value rfl (by simp [execOp, Act.eval, h28, h39, go_sem])
        · intro s v hC hk hd
          have h40 : s.tmps[40]? = some (.bool true) := hd 21 (by kernel_rfl)
          exact ok_value rfl (ex_move rfl (eval_tmp h40))
        · intro s v hC hk hd
          exact ok_call (wanted_of rfl rfl (hd 22 (by kernel_rfl))) (by simp [go_sem]) (wakes_any v)
        · intro s v hC hk hd
          have h41 : s.tmps[41]? = some (.bool true) := hd 22 (by kernel_rfl)
          have h42 : s.tmps[42]? = some (.bool true) := hd 23 (by kernel_rfl)
          exact ok_value rfl (by simp [execOp, Act.eval, h41, h42, go_sem])
        · intro s v hC hk hd
          have h43 : s.tmps[43]? = some (.bool true) := hd 24 (by kernel_rfl)
          exact ok_value rfl (ex_assign rfl (eval_tmp h43))
      · intro nb w29 hC hf hne
        have M32 := M10.keep hC
        refine fr_all [0] F28 (by kernel_rfl) fun a30 (F31 : Fr 44 a30 [(2, (.bool true))]) => ?_
        refine wpl_nil (then_n ?_)
        exact wp_ret (ret_fr F31 0 Try.results3 rfl ⟨rfl, M32.below⟩)

end Go.Proofs.Ytlpoimmpjcldjaa
