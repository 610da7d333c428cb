/- The walk of the mask of the answer of the document. -/
import Derived.Test.YtcmoohkkaibgkaaR2
namespace Go.Proofs.Ytcmoohkkaibgkaa
open Go.RowKit

set_option maxRecDepth 100000 in
set_option maxHeartbeats 4000000 in
theorem rMask_any (ks ns X : List Nat) (c : Nat) (hks : Bytes 32 ks) (hc : c < 4294967296) (hns : Bytes 12 ns) (hX : ∀ i, X.getD i 0 < 256) (h300 : X.length ≤ 300) (w0 : World) :
    Calls Try.prog 16 #[.agg (cn .u8 ks), .int .u32 (c : Nat), .agg (cn .u8 ns), .string (bs X)] w0 fun e w' => e = .returned (.string (bs (maskN ks c ns X))) ∧ Below w0.heap.size w0 w' := by
  have sk : (cn .u8 ks).size = 32 := by rw [cn_size, hks.len]
  have sn : (cn .u8 ns).size = 12 := by rw [cn_size, hns.len]
  refine enter_fr Try.func16 rfl Try.ntmps16 (by simp) fun a (F : Fr 40 a [(0, .agg (cn .u8 ks)), (1, .int .u32 (c : Nat)), (2, .agg (cn .u8 ns)), (3, .string (bs X))]) => ?_
  have M := Mem.start w0
  refine wp_seq (wp_region_list ?_)
  refine st_alloc [0, 2, 3, 4] F M (d := 4) (.cells (cn .u8 ks) 22) (fun b => .pointer (some ⟨b, 0, none⟩)) rfl rfl (by decide) (by simp [execOp, Act.eval, (F.get 0 rfl), go_sem]) fun a1 w3 bk (F2 : Fr 40 a1 [(4, (.pointer (some ⟨bk, 0, none⟩))), (1, .int .u32 (c : Nat)), (2, .agg (cn .u8 ns)), (3, .string (bs X))]) (M4 : Mem w0.heap.size w0 w3 [(bk, .cells (cn .u8 ks) 22)]) => ?_
  refine st_alloc [0, 1, 2, 4] F2 M4 (d := 6) (.cells (cn .u8 ns) 24) (fun b => .pointer (some ⟨b, 0, none⟩)) rfl rfl (by decide) (by simp [execOp, Act.eval, (F2.get 2 rfl), go_sem]) fun a5 w7 bn (F6 : Fr 40 a5 [(6, (.pointer (some ⟨bn, 0, none⟩))), (4, (.pointer (some ⟨bk, 0, none⟩))), (1, .int .u32 (c : Nat)), (3, .string (bs X))]) (M8 : Mem w0.heap.size w0 w7 [(bn, .cells (cn .u8 ns) 24), (bk, .cells (cn .u8 ks) 22)]) => ?_
  refine st_val [1, 2, 3, 4] F6 (d := 8) (v := (.string { data := #[] })) rfl rfl (by decide) (ex_assign rfl rfl) fun a9 (F10 : Fr 40 a9 [(6, (.pointer (some ⟨bn, 0, none⟩))), (4, (.pointer (some ⟨bk, 0, none⟩))), (1, .int .u32 (c : Nat)), (3, .string (bs X))]) => ?_
  refine wpl_nil (then_n ?_)
  refine wp_seq (wp_region_list ?_)
  refine st_val [0, 1, 2, 3, 4] F10 (d := 9) (v := (.slice none 0 0)) rfl rfl (by decide) (ex_assign rfl rfl) fun a11 (F12 : Fr 40 a11 [(9, (.slice none 0 0)), (6, (.pointer (some ⟨bn, 0, none⟩))), (4, (.pointer (some ⟨bk, 0, none⟩))), (1, .int .u32 (c : Nat)), (3, .string (bs X))]) => ?_
  refine wpl_nil (then_n ?_)
  refine wp_seq (wp_region_list ?_)
  refine st_val [0, 1, 2, 3, 4, 5] F12 (d := 10) (v := (.string (bs []))) rfl rfl (by decide) (by simp [execOp, Act.eval, bs, go_sem]) fun a13 (F14 : Fr 40 a13 [(10, (.string (bs []))), (9, (.slice none 0 0)), (6, (.pointer (some ⟨bn, 0, none⟩))), (4, (.pointer (some ⟨bk, 0, none⟩))), (1, .int .u32 (c : Nat)), (3, .string (bs X))]) => ?_
  refine wpl_nil (then_n ?_)
  refine wp_seq (wp_seq (wp_region_list ?_))
  refine st_val [0, 1, 2, 3, 4, 5, 6] F14 (d := 11) (v := (.int .i64 0)) rfl rfl (by decide) (ex_assign rfl rfl) fun a15 (F16 : Fr 40 a15 [(11, (.int .i64 0)), (10, (.string (bs []))), (9, (.slice none 0 0)), (6, (.pointer (some ⟨bn, 0, none⟩))), (4, (.pointer (some ⟨bk, 0, none⟩))), (1, .int .u32 (c : Nat)), (3, .string (bs X))]) => ?_
  refine wpl_nil (then_n ?_)
  refine wp_for2 (fun a' w' => ∃ (i : Nat) (v9 : Value) (B : List Nat), i ≤ X.length ∧ (i % 64 ≠ 0 → B = blockN ks ((c + i / 64) % 4294967296) ns) ∧ Fr 40 a' [(3, .string (bs X)), (4, (.pointer (some ⟨bk, 0, none⟩))), (6, (.pointer (some ⟨bn, 0, none⟩))), (11, .int .i64 (i : Nat)), (1, .int .u32 ((c + (i + 63) / 64) % 4294967296 : Nat)), (9, v9), (10, .string (bs B))] ∧ Mem w0.heap.size w0 w' [(bn, .cells (cn .u8 ns) 24), (bk, .cells (cn .u8 ks) 22)] ∧ RowN w0 w' [(bn, .cells (cn .u8 ns) 24), (bk, .cells (cn .u8 ks) 22)] v9 5 .u8 (mkTo ks c ns X i)) (fun a' _ => (X.length - cnt 11 a').toNat) ⟨0, .slice none 0 0, [], by omega, fun h => absurd rfl h, by rw [show (c + (0 + 63) / 64) % 4294967296 = c by omega]; exact F16.pick [6, 4, 3, 0, 5, 2, 1], M8, RowN.nil⟩ ?_
  rintro a w ⟨i, v9, B, hr, hB, F, M, R⟩
  have hc_i := cnt_of (F.get 3 rfl)
  by_cases hlt : i < X.length
  · refine wp_region_list ?_
    refine st_val [0, 1, 2, 3, 4, 5, 6, 7] F (d := 12) (v := .int .i64 (i : Nat)) rfl rfl (by decide) (ex_move rfl (F.ev 3 rfl)) fun a17 (F18 : Fr 40 a17 [(12, .int .i64 (i : Nat)), (3, .string (bs X)), (4, (.pointer (some ⟨bk, 0, none⟩))), (6, (.pointer (some ⟨bn, 0, none⟩))), (11, .int .i64 (i : Nat)), (1, .int .u32 ((c + (i + 63) / 64) % 4294967296 : Nat)), (9, v9), (10, .string (bs B))]) => ?_
    refine st_val [0, 1, 2, 3, 4, 5, 6, 7, 8] F18 (d := 13) (v := .string (bs X)) rfl rfl (by decide) (ex_move rfl (F18.ev 1 rfl)) fun a19 (F20 : Fr 40 a19 [(13, .string (bs X)), (12, .int .i64 (i : Nat)), (3, .string (bs X)), (4, (.pointer (some ⟨bk, 0, none⟩))), (6, (.pointer (some ⟨bn, 0, none⟩))), (11, .int .i64 (i : Nat)), (1, .int .u32 ((c + (i + 63) / 64) % 4294967296 : Nat)), (9, v9), (10, .string (bs B))]) => ?_
    refine st_val [0, 2, 3, 4, 5, 6, 7, 8, 9] F20 (d := 14) (v := (.int .i64 (X.length : Nat))) rfl rfl (by decide) (by simp [Act.eval, (F20.get 0 rfl), bs_size, go_sem]) fun a21 (F22 : Fr 40 a21 [(14, (.int .i64 (X.length : Nat))), (12, .int .i64 (i : Nat)), (3, .string (bs X)), (4, (.pointer (some ⟨bk, 0, none⟩))), (6, (.pointer (some ⟨bn, 0, none⟩))), (11, .int .i64 (i : Nat)), (1, .int .u32 ((c + (i + 63) / 64) % 4294967296 : Nat)), (9, v9), (10, .string (bs B))]) => ?_
    refine st_val [0, 3, 4, 5, 6, 7, 8, 9] F22 (d := 15) (v := (.bool true)) rfl rfl (by decide) (by simp [execOp, Act.eval, (F22.get 1 rfl), (F22.get 0 rfl), go_sem]; omega) fun a23 (F24 : Fr 40 a23 [(15, (.bool true)), (3, .string (bs X)), (4, (.pointer (some ⟨bk, 0, none⟩))), (6, (.pointer (some ⟨bn, 0, none⟩))), (11, .int .i64 (i : Nat)), (1, .int .u32 ((c + (i + 63) / 64) % 4294967296 : Nat)), (9, v9), (10, .string (bs B))]) => ?_
    refine wpl_nil (then_n (.inl ⟨F24.ev 0 rfl, ?_⟩))
    have eM := mkTo_succ ks c ns X i
    have lM := mkTo_len ks c ns X i
    have KB := rBlock_any ks ns ((c + i / 64) % 4294967296) hks (Nat.mod_lt _ (by decide)) hns
    have lB : (blockN ks ((c + i / 64) % 4294967296) ns).length = 64 := blockW_len _
    have hB8 : ∀ j, (blockN ks ((c + i / 64) % 4294967296) ns).getD j 0 < 256 := blockW_lt _
    generalize hBB : blockN ks ((c + i / 64) % 4294967296) ns = BB at *
    have xx := u8_xor_nat (X.getD i 0) (BB.getD (i % 64) 0) (hX _) (hB8 _)
    have ez : ∃ z, X.getD i 0 ^^^ BB.getD (i % 64) 0 = z := ⟨_, rfl⟩
    obtain ⟨z, ez⟩ := ez
    rw [ez] at eM xx
    by_cases hm : i % 64 = 0
    · refine wp_seq (wp_seq (wp_region_list ?_))
      refine st_val [0, 2, 3, 4, 5, 6, 7, 8] F24 (d := 18) (v := .int .i64 (i : Nat)) rfl rfl (by decide) (ex_move rfl (F24.ev 4 rfl)) fun a25 (F26 : Fr 40 a25 [(18, .int .i64 (i : Nat)), (3, .string (bs X)), (4, (.pointer (some ⟨bk, 0, none⟩))), (6, (.pointer (some ⟨bn, 0, none⟩))), (11, .int .i64 (i : Nat)), (1, .int .u32 ((c + (i + 63) / 64) % 4294967296 : Nat)), (9, v9), (10, .string (bs B))]) => ?_
      refine st_val [0, 2, 3, 4, 5, 6, 7, 8] F26 (d := 19) (v := (.int .i64 ((i % 64 : Nat) : Int))) rfl rfl (by decide) (by simp [execOp, Act.eval, (F26.get 0 rfl), go_sem]; rw [Int.tmod_eq_emod_of_nonneg (by omega)]) fun a27 (F28 : Fr 40 a27 [(19, (.int .i64 ((i % 64 : Nat) : Int))), (3, .string (bs X)), (4, (.pointer (some ⟨bk, 0, none⟩))), (6, (.pointer (some ⟨bn, 0, none⟩))), (11, .int .i64 (i : Nat)), (1, .int .u32 ((c + (i + 63) / 64) % 4294967296 : Nat)), (9, v9), (10, .string (bs B))]) => ?_
      refine st_val [0, 2, 3, 4, 5, 6, 7, 8] F28 (d := 20) (v := (.bool true)) rfl rfl (by decide) (by simp [execOp, Act.eval, (F28.get 0 rfl), go_sem]; omega) fun a29 (F30 : Fr 40 a29 [(20, (.bool true)), (3, .string (bs X)), (4, (.pointer (some ⟨bk, 0, none⟩))), (6, (.pointer (some ⟨bn, 0, none⟩))), (11, .int .i64 (i : Nat)), (1, .int .u32 ((c + (i + 63) / 64) % 4294967296 : Nat)), (9, v9), (10, .string (bs B))]) => ?_
      refine wpl_nil (then_n ?_)
      refine wp_cond_true (F30.ev 0 rfl) ?_
      rw [show (c + (i + 63) / 64) % 4294967296 = (c + i / 64) % 4294967296 by omega] at F30
      refine wp_seq (wp_region_list ?_)
      refine st_load [0, 2, 3, 4, 5, 6, 7, 8] F30 M (k := 32) (d := 21) (t := 4) (b := bk) (i := 1) (j := 2) rfl rfl rfl Try.underlying22 rfl (by kernel_rfl) sk rfl rfl (by decide) fun a31 (F32 : Fr 40 a31 [(21, (.agg (cn .u8 ks))), (3, .string (bs X)), (4, (.pointer (some ⟨bk, 0, none⟩))), (6, (.pointer (some ⟨bn, 0, none⟩))), (11, .int .i64 (i : Nat)), (1, .int .u32 ((c + i / 64) % 4294967296 : Nat)), (9, v9), (10, .string (bs B))]) => ?_
      refine st_val [0, 1, 2, 3, 4, 5, 6, 7, 8] F32 (d := 22) (v := .int .u32 ((c + i / 64) % 4294967296 : Nat)) rfl rfl (by decide) (ex_move rfl (F32.ev 5 rfl)) fun a33 (F34 : Fr 40 a33 [(22, .int .u32 ((c + i / 64) % 4294967296 : Nat)), (21, (.agg (cn .u8 ks))), (3, .string (bs X)), (4, (.pointer (some ⟨bk, 0, none⟩))), (6, (.pointer (some ⟨bn, 0, none⟩))), (11, .int .i64 (i : Nat)), (1, .int .u32 ((c + i / 64) % 4294967296 : Nat)), (9, v9), (10, .string (bs B))]) => ?_
      refine st_load [0, 1, 2, 3, 4, 5, 6, 7, 8, 9] F34 M (k := 12) (d := 23) (t := 6) (b := bn) (i := 0) (j := 4) rfl rfl rfl Try.underlying24 rfl (by kernel_rfl) sn rfl rfl (by decide) fun a35 (F36 : Fr 40 a35 [(23, (.agg (cn .u8 ns))), (22, .int .u32 ((c + i / 64) % 4294967296 : Nat)), (21, (.agg (cn .u8 ks))), (3, .string (bs X)), (4, (.pointer (some ⟨bk, 0, none⟩))), (6, (.pointer (some ⟨bn, 0, none⟩))), (11, .int .i64 (i : Nat)), (1, .int .u32 ((c + i / 64) % 4294967296 : Nat)), (9, v9), (10, .string (bs B))]) => ?_
      refine st_callw [0, 4, 5, 6, 7, 8, 9, 10] F36 (d := 24) (f := 24) (args := #[.agg (cn .u8 ks), .int .u32 ((c + i / 64) % 4294967296 : Nat), .agg (cn .u8 ns)]) (v := (.string (bs BB))) rfl rfl (by decide) (by simp [Act.eval, (F36.get 2 rfl), (F36.get 1 rfl), (F36.get 0 rfl), go_sem]) (KB w) fun a80 w80 (F80 : Fr 40 a80 [(24, (.string (bs BB))), (3, .string (bs X)), (4, (.pointer (some ⟨bk, 0, none⟩))), (6, (.pointer (some ⟨bn, 0, none⟩))), (11, .int .i64 (i : Nat)), (1, .int .u32 ((c + i / 64) % 4294967296 : Nat)), (9, v9), (10, .string (bs B))]) hb80 => ?_
      have M80 := M.keep hb80
      have R0 := R.keep hb80
      refine st_val [0, 2, 3, 4, 5, 6, 7] F80 (d := 10) (v := (.string (bs BB))) rfl rfl (by decide) (ex_assign rfl (F80.ev 0 rfl)) fun a37 (F38 : Fr 40 a37 [(10, (.string (bs BB))), (3, .string (bs X)), (4, (.pointer (some ⟨bk, 0, none⟩))), (6, (.pointer (some ⟨bn, 0, none⟩))), (11, .int .i64 (i : Nat)), (1, .int .u32 ((c + i / 64) % 4294967296 : Nat)), (9, v9)]) => ?_
      refine wpl_nil (then_n ?_)
      refine wp_region_list ?_
      refine st_val [0, 1, 2, 3, 4, 5, 6, 7] F38 (d := 25) (v := .int .u32 ((c + i / 64) % 4294967296 : Nat)) rfl rfl (by decide) (ex_move rfl (F38.ev 5 rfl)) fun a39 (F40 : Fr 40 a39 [(25, .int .u32 ((c + i / 64) % 4294967296 : Nat)), (10, (.string (bs BB))), (3, .string (bs X)), (4, (.pointer (some ⟨bk, 0, none⟩))), (6, (.pointer (some ⟨bn, 0, none⟩))), (11, .int .i64 (i : Nat)), (1, .int .u32 ((c + i / 64) % 4294967296 : Nat)), (9, v9)]) => ?_
      refine st_val [0, 2, 3, 4, 5, 6, 7, 8] F40 (d := 26) (v := (.int .u32 ((c + (i + 1 + 63) / 64) % 4294967296 : Nat))) rfl rfl (by decide) (by simp [execOp, Act.eval, (F40.get 0 rfl), go_sem]; rw [IntKind.wrap_u32']; omega) fun a41 (F42 : Fr 40 a41 [(26, (.int .u32 ((c + (i + 1 + 63) / 64) % 4294967296 : Nat))), (10, (.string (bs BB))), (3, .string (bs X)), (4, (.pointer (some ⟨bk, 0, none⟩))), (6, (.pointer (some ⟨bn, 0, none⟩))), (11, .int .i64 (i : Nat)), (1, .int .u32 ((c + i / 64) % 4294967296 : Nat)), (9, v9)]) => ?_
      refine st_val [0, 2, 3, 4, 5, 6, 7] F42 (d := 1) (v := (.int .u32 ((c + (i + 1 + 63) / 64) % 4294967296 : Nat))) rfl rfl (by decide) (ex_assign rfl (F42.ev 0 rfl)) fun a43 (F44 : Fr 40 a43 [(1, (.int .u32 ((c + (i + 1 + 63) / 64) % 4294967296 : Nat))), (10, (.string (bs BB))), (3, .string (bs X)), (4, (.pointer (some ⟨bk, 0, none⟩))), (6, (.pointer (some ⟨bn, 0, none⟩))), (11, .int .i64 (i : Nat)), (9, v9)]) => ?_
      refine wpl_nil (then_n ?_)
      refine region_list w80.heap.size (C := fun w' => Below w80.heap.size w80 w') [.inl (v9), .inl (.string (bs X)), .inl (.int .i64 (i : Nat)), .inl (.int .u8 (X.getD i 0 : Nat)), .inl ((.string (bs BB))), .inl (.int .i64 (i : Nat)), .inl (.int .i64 ((i % 64 : Nat) : Int)), .inl (.int .u8 (BB.getD (i % 64) 0 : Nat)), .inl (.int .u8 (z : Nat)), .inr (.cells (cn .u8 [z]) 5, fun b => .slice (some ⟨b, 0, none⟩) 1 1)] [] (by kernel_rfl) (by rw [F44.size]; kernel_rfl) ⟨rfl, rfl, rfl, Nat.le_refl _, fun _ _ => rfl⟩ (fun w1 w2 h1 h2 => h1.trans (h2.mono h1.size)) (fun i h => by simp at h) ?_ ?_
      · refine ⟨?_, ?_, ?_, ?_, ?_, ?_, ?_, ?_, ?_, ?_, trivial⟩
        · intro s v hC hk hd
          have h9 : s.tmps[9]? = some (v9) := (hk 9 (by kernel_rfl)).trans (F44.get 6 rfl)
          exact ok_value rfl (ex_move rfl (eval_tmp h9))
        · intro s v hC hk hd
          have h3 : s.tmps[3]? = some (.string (bs X)) := (hk 3 (by kernel_rfl)).trans (F44.get 2 rfl)
          exact ok_value rfl (ex_move rfl (eval_tmp h3))
        · intro s v hC hk hd
          have h11 : s.tmps[11]? = some (.int .i64 (i : Nat)) := (hk 11 (by kernel_rfl)).trans (F44.get 5 rfl)
          exact ok_value rfl (ex_move rfl (eval_tmp h11))
        · intro s v hC hk hd
          have h28 : s.tmps[28]? = some (.string (bs X)) := hd 1 (by kernel_rfl)
          have h29 : s.tmps[29]? = some (.int .i64 (i : Nat)) := hd 2 (by kernel_rfl)
          exact ok_value rfl (ex_indexStr rfl h28 (eval_tmp h29) Try.underlying9 hlt hX)
        · intro s v hC hk hd
          have h10 : s.tmps[10]? = some ((.string (bs BB))) := (hk 10 (by kernel_rfl)).trans (F44.get 1 rfl)
          exact ok_value rfl (ex_move rfl (eval_tmp h10))
        · intro s v hC hk hd
          have h11 : s.tmps[11]? = some (.int .i64 (i : Nat)) := (hk 11 (by kernel_rfl)).trans (F44.get 5 rfl)
          exact ok_value rfl (ex_move rfl (eval_tmp h11))
        · intro s v hC hk hd
          have h32 : s.tmps[32]? = some (.int .i64 (i : Nat)) := hd 5 (by kernel_rfl)
          exact ok_value rfl (by simp [execOp, Act.eval, h32, go_sem]; rw [Int.tmod_eq_emod_of_nonneg (by omega)])
        · intro s v hC hk hd
          have h31 : s.tmps[31]? = some ((.string (bs BB))) := hd 4 (by kernel_rfl)
          have h33 : s.tmps[33]? = some (.int .i64 ((i % 64 : Nat) : Int)) := hd 6 (by kernel_rfl)
          exact ok_value rfl (ex_indexStr rfl h31 (eval_tmp h33) Try.underlying9 (by rw [lB]; omega) hB8)
        · intro s v hC hk hd
          have h30 : s.tmps[30]? = some (.int .u8 (X.getD i 0 : Nat)) := hd 3 (by kernel_rfl)
          have h34 : s.tmps[34]? = some (.int .u8 (BB.getD (i % 64) 0 : Nat)) := hd 7 (by kernel_rfl)
          exact ok_value rfl (by simp [execOp, Act.eval, h30, h34, go_sem]; simpa using xx)
        · intro s v hC hk hd
          have h35 : s.tmps[35]? = some (.int .u8 (z : Nat)) := hd 8 (by kernel_rfl)
          exact ok_new hC.size rfl (by simp [execOp, Act.eval, h35, go_sem, cn])
      · intro nb w45 hC hf hne
        have M48 := M80.keep hC
        obtain ⟨⟨l36, f36⟩, _⟩ := hf
        simp only [Nat.zero_add, Nat.reduceAdd] at l36 f36
        refine fr_all [0, 9, 10, 11, 12, 13, 14, 15] F44 (by kernel_rfl) fun a46 (F47 : Fr 40 a46 [(36, (.slice (some ⟨(nb 9), 0, none⟩) 1 1)), (27, (v9)), (1, (.int .u32 ((c + (i + 1 + 63) / 64) % 4294967296 : Nat))), (10, (.string (bs BB))), (3, .string (bs X)), (4, (.pointer (some ⟨bk, 0, none⟩))), (6, (.pointer (some ⟨bn, 0, none⟩))), (11, .int .i64 (i : Nat))]) => ?_
        have R1 := R0.keep hC
        refine st_append [0, 3, 4, 5, 6, 7, 8] F47 M48 R1 (d := 37) (s := 27) (x := 36) (j := 1) (j' := 0) (bb := 1) rfl rfl rfl f36 rfl (by decide) Try.underlying39 (by kernel_rfl) (by rw [lM]; simp only [maxLen]; omega) (by rw [lM]; omega) rfl rfl (by decide) fun a91 w91 vv (F91 : Fr 40 a91 [(37, vv), (1, (.int .u32 ((c + (i + 1 + 63) / 64) % 4294967296 : Nat))), (10, (.string (bs BB))), (3, .string (bs X)), (4, (.pointer (some ⟨bk, 0, none⟩))), (6, (.pointer (some ⟨bn, 0, none⟩))), (11, .int .i64 (i : Nat))]) (M91 : Mem w0.heap.size w0 w91 [(bn, .cells (cn .u8 ns) 24), (bk, .cells (cn .u8 ks) 22)]) R3 => ?_
        have RR : RowN w0 w91 [(bn, .cells (cn .u8 ns) 24), (bk, .cells (cn .u8 ks) 22)] vv 5 .u8 (mkTo ks c ns X (i + 1)) := by rw [eM]; exact R3
        refine st_val [0, 2, 3, 4, 5, 6, 7] F91 (d := 9) (v := vv) rfl rfl (by decide) (ex_assign rfl (F91.ev 0 rfl)) fun a50 (F51 : Fr 40 a50 [(9, vv), (1, (.int .u32 ((c + (i + 1 + 63) / 64) % 4294967296 : Nat))), (10, (.string (bs BB))), (3, .string (bs X)), (4, (.pointer (some ⟨bk, 0, none⟩))), (6, (.pointer (some ⟨bn, 0, none⟩))), (11, .int .i64 (i : Nat))]) => ?_
        refine wpl_nil (inb_n (then_n ?_))
        refine wp_region_list ?_
        refine st_val [0, 1, 2, 3, 4, 5, 6, 7] F51 (d := 16) (v := .int .i64 (i : Nat)) rfl rfl (by decide) (ex_move rfl (F51.ev 6 rfl)) fun a52 (F53 : Fr 40 a52 [(16, .int .i64 (i : Nat)), (9, vv), (1, (.int .u32 ((c + (i + 1 + 63) / 64) % 4294967296 : Nat))), (10, (.string (bs BB))), (3, .string (bs X)), (4, (.pointer (some ⟨bk, 0, none⟩))), (6, (.pointer (some ⟨bn, 0, none⟩))), (11, .int .i64 (i : Nat))]) => ?_
        refine st_val [0, 2, 3, 4, 5, 6, 7, 8] F53 (d := 17) (v := (.int .i64 ((i + 1 : Nat) : Int))) rfl rfl (by decide) (by simp [execOp, Act.eval, (F53.get 0 rfl), go_sem]; rw [IntKind.wrap_i64]; omega) fun a54 (F55 : Fr 40 a54 [(17, (.int .i64 ((i + 1 : Nat) : Int))), (9, vv), (1, (.int .u32 ((c + (i + 1 + 63) / 64) % 4294967296 : Nat))), (10, (.string (bs BB))), (3, .string (bs X)), (4, (.pointer (some ⟨bk, 0, none⟩))), (6, (.pointer (some ⟨bn, 0, none⟩))), (11, .int .i64 (i : Nat))]) => ?_
        refine st_val [0, 2, 3, 4, 5, 6, 7] F55 (d := 11) (v := (.int .i64 ((i + 1 : Nat) : Int))) rfl rfl (by decide) (ex_assign rfl (F55.ev 0 rfl)) fun a56 (F57 : Fr 40 a56 [(11, (.int .i64 ((i + 1 : Nat) : Int))), (9, vv), (1, (.int .u32 ((c + (i + 1 + 63) / 64) % 4294967296 : Nat))), (10, (.string (bs BB))), (3, .string (bs X)), (4, (.pointer (some ⟨bk, 0, none⟩))), (6, (.pointer (some ⟨bn, 0, none⟩)))]) => ?_
        refine wpl_nil (then_n ⟨⟨i + 1, vv, BB, by omega, fun h => ?_, F57.pick [4, 5, 6, 0, 2, 1, 3], M91, RR⟩, ?_⟩)
        · rw [← hBB, show (c + (i + 1) / 64) % 4294967296 = (c + i / 64) % 4294967296 by omega]
        · rw [cnt_of (F57.get 0 rfl), hc_i]; omega
    · rw [hB hm] at F24
      have R0 := R
      refine wp_seq (wp_seq (wp_region_list ?_))
      refine st_val [0, 2, 3, 4, 5, 6, 7, 8] F24 (d := 18) (v := .int .i64 (i : Nat)) rfl rfl (by decide) (ex_move rfl (F24.ev 4 rfl)) fun a58 (F59 : Fr 40 a58 [(18, .int .i64 (i : Nat)), (3, .string (bs X)), (4, (.pointer (some ⟨bk, 0, none⟩))), (6, (.pointer (some ⟨bn, 0, none⟩))), (11, .int .i64 (i : Nat)), (1, .int .u32 ((c + (i + 63) / 64) % 4294967296 : Nat)), (9, v9), (10, .string (bs BB))]) => ?_
      refine st_val [0, 2, 3, 4, 5, 6, 7, 8] F59 (d := 19) (v := (.int .i64 ((i % 64 : Nat) : Int))) rfl rfl (by decide) (by simp [execOp, Act.eval, (F59.get 0 rfl), go_sem]; rw [Int.tmod_eq_emod_of_nonneg (by omega)]) fun a60 (F61 : Fr 40 a60 [(19, (.int .i64 ((i % 64 : Nat) : Int))), (3, .string (bs X)), (4, (.pointer (some ⟨bk, 0, none⟩))), (6, (.pointer (some ⟨bn, 0, none⟩))), (11, .int .i64 (i : Nat)), (1, .int .u32 ((c + (i + 63) / 64) % 4294967296 : Nat)), (9, v9), (10, .string (bs BB))]) => ?_
      refine st_val [0, 2, 3, 4, 5, 6, 7, 8] F61 (d := 20) (v := (.bool false)) rfl rfl (by decide) (by simp [execOp, Act.eval, (F61.get 0 rfl), go_sem]; omega) fun a62 (F63 : Fr 40 a62 [(20, (.bool false)), (3, .string (bs X)), (4, (.pointer (some ⟨bk, 0, none⟩))), (6, (.pointer (some ⟨bn, 0, none⟩))), (11, .int .i64 (i : Nat)), (1, .int .u32 ((c + (i + 63) / 64) % 4294967296 : Nat)), (9, v9), (10, .string (bs BB))]) => ?_
      refine wpl_nil (then_n ?_)
      refine wp_cond_false (F63.ev 0 rfl) (wp_skip (then_n ?_))
      rw [show (c + (i + 63) / 64) % 4294967296 = (c + (i + 1 + 63) / 64) % 4294967296 by omega] at F63
      refine region_list w.heap.size (C := fun w' => Below w.heap.size w w') [.inl (v9), .inl (.string (bs X)), .inl (.int .i64 (i : Nat)), .inl (.int .u8 (X.getD i 0 : Nat)), .inl (.string (bs BB)), .inl (.int .i64 (i : Nat)), .inl (.int .i64 ((i % 64 : Nat) : Int)), .inl (.int .u8 (BB.getD (i % 64) 0 : Nat)), .inl (.int .u8 (z : Nat)), .inr (.cells (cn .u8 [z]) 5, fun b => .slice (some ⟨b, 0, none⟩) 1 1)] [] (by kernel_rfl) (by rw [F63.size]; kernel_rfl) ⟨rfl, rfl, rfl, Nat.le_refl _, fun _ _ => rfl⟩ (fun w1 w2 h1 h2 => h1.trans (h2.mono h1.size)) (fun i h => by simp at h) ?_ ?_
      · refine ⟨?_, ?_, ?_, ?_, ?_, ?_, ?_, ?_, ?_, ?_, trivial⟩
        · intro s v hC hk hd
          have h9 : s.tmps[9]? = some (v9) := (hk 9 (by kernel_rfl)).trans (F63.get 6 rfl)
          exact ok_value rfl (ex_move rfl (eval_tmp h9))
        · intro s v hC hk hd
          have h3 : s.tmps[3]? = some (.string (bs X)) := (hk 3 (by kernel_rfl)).trans (F63.get 1 rfl)
          exact ok_value rfl (ex_move rfl (eval_tmp h3))
        · intro s v hC hk hd
          have h11 : s.tmps[11]? = some (.int .i64 (i : Nat)) := (hk 11 (by kernel_rfl)).trans (F63.get 4 rfl)
          exact ok_value rfl (ex_move rfl (eval_tmp h11))
        · intro s v hC hk hd
          have h28 : s.tmps[28]? = some (.string (bs X)) := hd 1 (by kernel_rfl)
          have h29 : s.tmps[29]? = some (.int .i64 (i : Nat)) := hd 2 (by kernel_rfl)
          exact ok_value rfl (ex_indexStr rfl h28 (eval_tmp h29) Try.underlying9 hlt hX)
        · intro s v hC hk hd
          have h10 : s.tmps[10]? = some (.string (bs BB)) := (hk 10 (by kernel_rfl)).trans (F63.get 7 rfl)
          exact ok_value rfl (ex_move rfl (eval_tmp h10))
        · intro s v hC hk hd
          have h11 : s.tmps[11]? = some (.int .i64 (i : Nat)) := (hk 11 (by kernel_rfl)).trans (F63.get 4 rfl)
          exact ok_value rfl (ex_move rfl (eval_tmp h11))
        · intro s v hC hk hd
          have h32 : s.tmps[32]? = some (.int .i64 (i : Nat)) := hd 5 (by kernel_rfl)
          exact ok_value rfl (by simp [execOp, Act.eval, h32, go_sem]; rw [Int.tmod_eq_emod_of_nonneg (by omega)])
        · intro s v hC hk hd
          have h31 : s.tmps[31]? = some (.string (bs BB)) := hd 4 (by kernel_rfl)
          have h33 : s.tmps[33]? = some (.int .i64 ((i % 64 : Nat) : Int)) := hd 6 (by kernel_rfl)
          exact ok_value rfl (ex_indexStr rfl h31 (eval_tmp h33) Try.underlying9 (by rw [lB]; omega) hB8)
        · intro s v hC hk hd
          have h30 : s.tmps[30]? = some (.int .u8 (X.getD i 0 : Nat)) := hd 3 (by kernel_rfl)
          have h34 : s.tmps[34]? = some (.int .u8 (BB.getD (i % 64) 0 : Nat)) := hd 7 (by kernel_rfl)
          exact ok_value rfl (by simp [execOp, Act.eval, h30, h34, go_sem]; simpa using xx)
        · intro s v hC hk hd
          have h35 : s.tmps[35]? = some (.int .u8 (z : Nat)) := hd 8 (by kernel_rfl)
          exact ok_new hC.size rfl (by simp [execOp, Act.eval, h35, go_sem, cn])
      · intro nb w64 hC hf hne
        have M67 := M.keep hC
        obtain ⟨⟨l36, f36⟩, _⟩ := hf
        simp only [Nat.zero_add, Nat.reduceAdd] at l36 f36
        refine fr_all [0, 9, 11, 12, 13, 14, 15, 17] F63 (by kernel_rfl) fun a65 (F66 : Fr 40 a65 [(36, (.slice (some ⟨(nb 9), 0, none⟩) 1 1)), (27, (v9)), (3, .string (bs X)), (4, (.pointer (some ⟨bk, 0, none⟩))), (6, (.pointer (some ⟨bn, 0, none⟩))), (11, .int .i64 (i : Nat)), (1, .int .u32 ((c + (i + 1 + 63) / 64) % 4294967296 : Nat)), (10, .string (bs BB))]) => ?_
        have R1 := R0.keep hC
        refine st_append [0, 3, 4, 5, 6, 7, 8] F66 M67 R1 (d := 37) (s := 27) (x := 36) (j := 1) (j' := 0) (bb := 1) rfl rfl rfl f36 rfl (by decide) Try.underlying39 (by kernel_rfl) (by rw [lM]; simp only [maxLen]; omega) (by rw [lM]; omega) rfl rfl (by decide) fun a91 w91 vv (F91 : Fr 40 a91 [(37, vv), (3, .string (bs X)), (4, (.pointer (some ⟨bk, 0, none⟩))), (6, (.pointer (some ⟨bn, 0, none⟩))), (11, .int .i64 (i : Nat)), (1, .int .u32 ((c + (i + 1 + 63) / 64) % 4294967296 : Nat)), (10, .string (bs BB))]) (M91 : Mem w0.heap.size w0 w91 [(bn, .cells (cn .u8 ns) 24), (bk, .cells (cn .u8 ks) 22)]) R3 => ?_
        have RR : RowN w0 w91 [(bn, .cells (cn .u8 ns) 24), (bk, .cells (cn .u8 ks) 22)] vv 5 .u8 (mkTo ks c ns X (i + 1)) := by rw [eM]; exact R3
        refine st_val [0, 2, 3, 4, 5, 6, 7] F91 (d := 9) (v := vv) rfl rfl (by decide) (ex_assign rfl (F91.ev 0 rfl)) fun a69 (F70 : Fr 40 a69 [(9, vv), (3, .string (bs X)), (4, (.pointer (some ⟨bk, 0, none⟩))), (6, (.pointer (some ⟨bn, 0, none⟩))), (11, .int .i64 (i : Nat)), (1, .int .u32 ((c + (i + 1 + 63) / 64) % 4294967296 : Nat)), (10, .string (bs BB))]) => ?_
        refine wpl_nil (inb_n (then_n ?_))
        refine wp_region_list ?_
        refine st_val [0, 1, 2, 3, 4, 5, 6, 7] F70 (d := 16) (v := .int .i64 (i : Nat)) rfl rfl (by decide) (ex_move rfl (F70.ev 4 rfl)) fun a71 (F72 : Fr 40 a71 [(16, .int .i64 (i : Nat)), (9, vv), (3, .string (bs X)), (4, (.pointer (some ⟨bk, 0, none⟩))), (6, (.pointer (some ⟨bn, 0, none⟩))), (11, .int .i64 (i : Nat)), (1, .int .u32 ((c + (i + 1 + 63) / 64) % 4294967296 : Nat)), (10, .string (bs BB))]) => ?_
        refine st_val [0, 2, 3, 4, 5, 6, 7, 8] F72 (d := 17) (v := (.int .i64 ((i + 1 : Nat) : Int))) rfl rfl (by decide) (by simp [execOp, Act.eval, (F72.get 0 rfl), go_sem]; rw [IntKind.wrap_i64]; omega) fun a73 (F74 : Fr 40 a73 [(17, (.int .i64 ((i + 1 : Nat) : Int))), (9, vv), (3, .string (bs X)), (4, (.pointer (some ⟨bk, 0, none⟩))), (6, (.pointer (some ⟨bn, 0, none⟩))), (11, .int .i64 (i : Nat)), (1, .int .u32 ((c + (i + 1 + 63) / 64) % 4294967296 : Nat)), (10, .string (bs BB))]) => ?_
        refine st_val [0, 2, 3, 4, 5, 6, 7] F74 (d := 11) (v := (.int .i64 ((i + 1 : Nat) : Int))) rfl rfl (by decide) (ex_assign rfl (F74.ev 0 rfl)) fun a75 (F76 : Fr 40 a75 [(11, (.int .i64 ((i + 1 : Nat) : Int))), (9, vv), (3, .string (bs X)), (4, (.pointer (some ⟨bk, 0, none⟩))), (6, (.pointer (some ⟨bn, 0, none⟩))), (1, .int .u32 ((c + (i + 1 + 63) / 64) % 4294967296 : Nat)), (10, .string (bs BB))]) => ?_
        refine wpl_nil (then_n ⟨⟨i + 1, vv, BB, by omega, fun h => ?_, F76.pick [2, 3, 4, 0, 5, 1, 6], M91, RR⟩, ?_⟩)
        · rw [← hBB, show (c + (i + 1) / 64) % 4294967296 = (c + i / 64) % 4294967296 by omega]
        · rw [cnt_of (F76.get 0 rfl), hc_i]; omega
  · obtain rfl : i = X.length := by omega
    rw [mkTo_all] at R
    refine wp_region_list ?_
    refine st_val [0, 1, 6] F (d := 12) (v := .int .i64 (X.length : Nat)) rfl rfl (by decide) (ex_move rfl (F.ev 3 rfl)) fun a77 (F78 : Fr 40 a77 [(12, .int .i64 (X.length : Nat)), (3, .string (bs X)), (9, v9)]) => ?_
    refine st_val [0, 1, 3] F78 (d := 13) (v := .string (bs X)) rfl rfl (by decide) (ex_move rfl (F78.ev 1 rfl)) fun a79 (F80 : Fr 40 a79 [(13, .string (bs X)), (12, .int .i64 (X.length : Nat)), (9, v9)]) => ?_
    refine st_val [0, 2, 3] F80 (d := 14) (v := (.int .i64 (X.length : Nat))) rfl rfl (by decide) (by simp [Act.eval, (F80.get 0 rfl), bs_size, go_sem]) fun a81 (F82 : Fr 40 a81 [(14, (.int .i64 (X.length : Nat))), (12, .int .i64 (X.length : Nat)), (9, v9)]) => ?_
    refine st_val [0, 3] F82 (d := 15) (v := (.bool false)) rfl rfl (by decide) (by simp [execOp, Act.eval, (F82.get 1 rfl), (F82.get 0 rfl), go_sem]) fun a83 (F84 : Fr 40 a83 [(15, (.bool false)), (9, v9)]) => ?_
    refine wpl_nil (then_n (.inr ⟨F84.ev 0 rfl, then_n ?_⟩))
    refine wp_seq (wp_region_list ?_)
    refine st_val [0] F84 (d := 38) (v := v9) rfl rfl (by decide) (ex_move rfl (F84.ev 1 rfl)) fun a85 (F86 : Fr 40 a85 [(38, v9)]) => ?_
    refine st_val [0] F86 (d := 39) (v := (.string (bs (maskN ks c ns X)))) rfl rfl (by decide) (ex_strRow R rfl (F86.get 0 rfl) Try.underlying39 Try.underlying5 Try.underlying9) fun a87 (F88 : Fr 40 a87 [(39, (.string (bs (maskN ks c ns X))))]) => ?_
    refine st_val [0] F88 (d := 8) (v := (.string (bs (maskN ks c ns X)))) rfl rfl (by decide) (ex_assign rfl (F88.ev 0 rfl)) fun a89 (F90 : Fr 40 a89 [(8, (.string (bs (maskN ks c ns X))))]) => ?_
    refine wpl_nil (then_n ?_)
    exact wp_ret (ret_fr F90 0 Try.results16 rfl ⟨rfl, M.below⟩)

end Go.Proofs.Ytcmoohkkaibgkaa
