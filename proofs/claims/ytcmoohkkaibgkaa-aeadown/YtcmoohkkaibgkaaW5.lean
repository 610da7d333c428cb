/- The walks of Block and of turn. -/
import Derived.Test.YtcmoohkkaibgkaaW4
namespace Go.Proofs.Ytcmoohkkaibgkaa
open Go.RowKit

set_option maxRecDepth 100000 in
set_option maxHeartbeats 1000000 in
theorem Block_any (ks ns : List Nat) (c : Nat) (hks : Bytes 32 ks) (hc : c < 4294967296) (hns : Bytes 12 ns) (w0 : World) :
    Calls Try.prog 17 #[.agg (cn .u8 ks), .int .u32 (c : Nat), .agg (cn .u8 ns)] w0 fun e w' => e = .returned (.string (bs (blockN ks c ns))) ∧ Below w0.heap.size w0 w' := by
  have HW := laid_words hks hc hns
  have KL := laid_any ks ns c hks hns
  have KB : ∀ w, Calls Try.prog 23 #[.agg (cn .u32 (laid ks c ns))] w fun e w' => e = .returned (.agg (cn .u8 (blockN ks c ns))) ∧ Below w.heap.size w w' := block_any _ HW
  have sk : (cn .u8 ks).size = 32 := by rw [cn_size, hks.len]
  have sn : (cn .u8 ns).size = 12 := by rw [cn_size, hns.len]
  have sB : (cn .u8 (blockN ks c ns)).size = 64 := by rw [cn_size]; exact blockW_len _
  have eB : (blockN ks c ns).length = 64 := blockW_len _
  generalize laid ks c ns = L at *
  generalize blockN ks c ns = B at *
  refine enter_fr Try.func17 rfl Try.ntmps17 (by simp) fun a (F : Fr 15 a [(0, .agg (cn .u8 ks)), (1, .int .u32 (c : Nat)), (2, .agg (cn .u8 ns))]) => ?_
  have M := Mem.start w0
  refine wp_seq (wp_region_list ?_)
  refine st_alloc [0, 2, 3] F M (d := 3) (.cells (cn .u8 ks) 23) (fun b => .pointer (some ⟨b, 0, none⟩)) rfl rfl (by decide) (by simp [execOp, Act.eval, (F.get 0 rfl), go_sem]) fun a1 w3 bk (F2 : Fr 15 a1 [(3, (.pointer (some ⟨bk, 0, none⟩))), (1, .int .u32 (c : Nat)), (2, .agg (cn .u8 ns))]) (M4 : Mem w0.heap.size w0 w3 [(bk, .cells (cn .u8 ks) 23)]) => ?_
  refine st_alloc [0, 1, 2] F2 M4 (d := 5) (.cells (cn .u8 ns) 25) (fun b => .pointer (some ⟨b, 0, none⟩)) rfl rfl (by decide) (by simp [execOp, Act.eval, (F2.get 2 rfl), go_sem]) fun a5 w7 bn (F6 : Fr 15 a5 [(5, (.pointer (some ⟨bn, 0, none⟩))), (3, (.pointer (some ⟨bk, 0, none⟩))), (1, .int .u32 (c : Nat))]) (M8 : Mem w0.heap.size w0 w7 [(bn, .cells (cn .u8 ns) 25), (bk, .cells (cn .u8 ks) 23)]) => ?_
  refine st_val [1, 2, 3] F6 (d := 6) (v := (.string { data := #[] })) rfl rfl (by decide) (ex_assign rfl rfl) fun a9 (F10 : Fr 15 a9 [(5, (.pointer (some ⟨bn, 0, none⟩))), (3, (.pointer (some ⟨bk, 0, none⟩))), (1, .int .u32 (c : Nat))]) => ?_
  refine wpl_nil (then_n ?_)
  refine wp_seq (wp_region_list ?_)
  refine st_load [0, 1, 3] F10 M8 (k := 32) (d := 8) (t := 3) (b := bk) (i := 1) (j := 1) rfl rfl rfl Try.underlying23 rfl (by kernel_rfl) sk rfl rfl (by decide) fun a11 (F12 : Fr 15 a11 [(8, (.agg (cn .u8 ks))), (5, (.pointer (some ⟨bn, 0, none⟩))), (1, .int .u32 (c : Nat))]) => ?_
  refine st_val [0, 1, 2] F12 (d := 9) (v := .int .u32 (c : Nat)) rfl rfl (by decide) (ex_move rfl (F12.ev 2 rfl)) fun a13 (F14 : Fr 15 a13 [(9, .int .u32 (c : Nat)), (8, (.agg (cn .u8 ks))), (5, (.pointer (some ⟨bn, 0, none⟩)))]) => ?_
  refine st_load [0, 1, 2] F14 M8 (k := 12) (d := 10) (t := 5) (b := bn) (i := 0) (j := 2) rfl rfl rfl Try.underlying25 rfl (by kernel_rfl) sn rfl rfl (by decide) fun a15 (F16 : Fr 15 a15 [(10, (.agg (cn .u8 ns))), (9, .int .u32 (c : Nat)), (8, (.agg (cn .u8 ks)))]) => ?_
  refine st_call [0] F16 M8 (d := 11) (f := 21) (args := #[.agg (cn .u8 ks), .int .u32 (c : Nat), .agg (cn .u8 ns)]) (v := (.agg (cn .u32 L))) rfl rfl (by decide) (by simp [Act.eval, (F16.get 2 rfl), (F16.get 1 rfl), (F16.get 0 rfl), go_sem]) (KL w7) fun a17 w19 (F18 : Fr 15 a17 [(11, (.agg (cn .u32 L)))]) (M20 : Mem w0.heap.size w0 w19 [(bn, .cells (cn .u8 ns) 25), (bk, .cells (cn .u8 ks) 23)]) => ?_
  refine st_call [0] F18 M20 (d := 12) (f := 23) (args := #[.agg (cn .u32 L)]) (v := (.agg (cn .u8 B))) rfl rfl (by decide) (by simp [Act.eval, (F18.get 0 rfl), go_sem]) (KB w19) fun a21 w23 (F22 : Fr 15 a21 [(12, (.agg (cn .u8 B)))]) (M24 : Mem w0.heap.size w0 w23 [(bn, .cells (cn .u8 ns) 25), (bk, .cells (cn .u8 ks) 23)]) => ?_
  refine st_alloc [0, 1] F22 M24 (d := 7) (.cells (cn .u8 (List.replicate 64 0)) 54) (fun b => .pointer (some ⟨b, 0, none⟩)) rfl rfl (by decide) (by simp [execOp, go_sem, cn]) fun a25 w27 b (F26 : Fr 15 a25 [(7, (.pointer (some ⟨b, 0, none⟩))), (12, (.agg (cn .u8 B)))]) (M28 : Mem w0.heap.size w0 w27 [(b, .cells (cn .u8 (List.replicate 64 0)) 54), (bn, .cells (cn .u8 ns) 25), (bk, .cells (cn .u8 ks) 23)]) => ?_
  refine st_store F26 M28 (k := 64) (t := 7) (s := 12) (b := b) (i := 0) (j := 0) (m := 1) rfl rfl rfl rfl (by kernel_rfl) (by rw [cn_size]; rfl) sB (cn_one _ _) rfl rfl fun w29 (M30 : Mem w0.heap.size w0 w29 [(b, .cells (cn .u8 B) 54), (bn, .cells (cn .u8 ns) 25), (bk, .cells (cn .u8 ks) 23)]) => ?_
  refine wpl_nil (then_n ?_)
  refine wp_seq (wp_region_list ?_)
  refine st_val [0] F26 (d := 13) (v := (.slice (some ⟨b, 0, none⟩) 64 64)) rfl rfl (by decide) (ex_sliceA none none rfl (F26.get 0 rfl) rfl rfl Try.underlying54 (by kernel_rfl) (Nat.zero_le _) (Nat.zero_le _) (by decide)) fun a31 (F32 : Fr 15 a31 [(13, (.slice (some ⟨b, 0, none⟩) 64 64))]) => ?_
  refine st_val [0] F32 (d := 14) (v := (.string (bs B))) rfl rfl (by decide) (ex_strAll rfl (F32.get 0 rfl) (M30.get 0 rfl) eB Try.underlying39 Try.underlying5 Try.underlying9) fun a33 (F34 : Fr 15 a33 [(14, (.string (bs B)))]) => ?_
  refine st_val [0] F34 (d := 6) (v := (.string (bs B))) rfl rfl (by decide) (ex_assign rfl (F34.ev 0 rfl)) fun a35 (F36 : Fr 15 a35 [(6, (.string (bs B)))]) => ?_
  refine wpl_nil (then_n ?_)
  exact wp_ret (ret_fr F36 0 Try.results17 rfl ⟨rfl, M30.below⟩)

set_option maxRecDepth 100000 in
set_option maxHeartbeats 1000000 in
theorem turn_any (X B : List Nat) (hX : ∀ i, X.getD i 0 < 256) (hB : B.length = 64) (hB8 : ∀ i, B.getD i 0 < 256) (bo o n cap : Nat) (T : TypeId) (fr : Nat × Nat) (hn : o + n ≤ X.length) (hfr : X.length ≤ fr.1) (w0 w : World) (L : List (Nat × Obj)) (M : Mem w0.heap.size w0 w ((bo, .cells (cn .u8 X) T fr) :: L)) :
    Calls Try.prog 22 #[.slice (some ⟨bo, o, none⟩) n cap, .agg (cn .u8 B)] w fun e w' => e = .returned (.tuple #[]) ∧ Mem w0.heap.size w0 w' ((bo, .cells (cn .u8 (xorTo X o B (min 64 n))) T fr) :: L) := by
  have sB : (cn .u8 B).size = 64 := by rw [cn_size, hB]
  refine enter_fr Try.func22 rfl Try.ntmps22 (by simp) fun a (F : Fr 21 a [(0, .slice (some ⟨bo, o, none⟩) n cap), (1, .agg (cn .u8 B))]) => ?_
  refine wp_seq (wp_region_list ?_)
  refine st_alloc [0, 1] F M (d := 3) (.cells (cn .u8 B) 54) (fun b => .pointer (some ⟨b, 0, none⟩)) rfl rfl (by decide) (by simp [execOp, Act.eval, (F.get 1 rfl), go_sem]) fun a1 w3 bb (F2 : Fr 21 a1 [(3, (.pointer (some ⟨bb, 0, none⟩))), (0, .slice (some ⟨bo, o, none⟩) n cap)]) (M4 : Mem w0.heap.size w0 w3 ((bb, .cells (cn .u8 B) 54) :: (bo, .cells (cn .u8 X) T fr) :: L)) => ?_
  refine wpl_nil (then_n ?_)
  refine wp_seq (wp_region_list ?_)
  refine st_val [0, 1, 2] F2 (d := 5) (v := .slice (some ⟨bo, o, none⟩) n cap) rfl rfl (by decide) (ex_move rfl (F2.ev 1 rfl)) fun a5 (F6 : Fr 21 a5 [(5, .slice (some ⟨bo, o, none⟩) n cap), (3, (.pointer (some ⟨bb, 0, none⟩))), (0, .slice (some ⟨bo, o, none⟩) n cap)]) => ?_
  refine st_val [0, 2, 3] F6 (d := 6) (v := (.int .i64 (n : Nat))) rfl rfl (by decide) (by simp [Act.eval, (F6.get 0 rfl), go_sem]) fun a7 (F8 : Fr 21 a7 [(6, (.int .i64 (n : Nat))), (3, (.pointer (some ⟨bb, 0, none⟩))), (0, .slice (some ⟨bo, o, none⟩) n cap)]) => ?_
  refine st_val [0, 2, 3] F8 (d := 7) (v := (.int .i64 ((min 64 n : Nat) : Int))) rfl rfl (by decide) (by simp [Act.eval, (F8.get 0 rfl), go_sem]; split <;> omega) fun a9 (F10 : Fr 21 a9 [(7, (.int .i64 ((min 64 n : Nat) : Int))), (3, (.pointer (some ⟨bb, 0, none⟩))), (0, .slice (some ⟨bo, o, none⟩) n cap)]) => ?_
  refine st_val [0, 1, 2, 3] F10 (d := 8) (v := (.int .i64 0)) rfl rfl (by decide) (ex_move rfl rfl) fun a11 (F12 : Fr 21 a11 [(8, (.int .i64 0)), (7, (.int .i64 ((min 64 n : Nat) : Int))), (3, (.pointer (some ⟨bb, 0, none⟩))), (0, .slice (some ⟨bo, o, none⟩) n cap)]) => ?_
  refine wpl_nil (then_n ?_)
  refine wp_for (fun a' w' => ∃ i : Nat, i ≤ min 64 n ∧ Fr 21 a' [(0, .slice (some ⟨bo, o, none⟩) n cap), (3, (.pointer (some ⟨bb, 0, none⟩))), (7, (.int .i64 ((min 64 n : Nat) : Int))), (8, .int .i64 (i : Nat))] ∧ Mem w0.heap.size w0 w' ((bb, .cells (cn .u8 B) 54) :: (bo, .cells (cn .u8 (xorTo X o B i)) T fr) :: L)) (fun a' _ => ((min 64 n : Nat) - cnt 8 a').toNat) ⟨0, by omega, F12.pick [3, 2, 1, 0], M4⟩ ?_
  rintro a w ⟨i, hr, F, M⟩
  have hc := cnt_of (F.get 3 rfl)
  by_cases hlt : i < min 64 n
  · refine wp_region_list ?_
    refine st_val [0, 1, 2, 3, 4] F (d := 9) (v := (.bool true)) rfl rfl (by decide) (by simp [execOp, Act.eval, (F.get 3 rfl), (F.get 2 rfl), go_sem]; omega) fun a13 (F14 : Fr 21 a13 [(9, (.bool true)), (0, .slice (some ⟨bo, o, none⟩) n cap), (3, (.pointer (some ⟨bb, 0, none⟩))), (7, (.int .i64 ((min 64 n : Nat) : Int))), (8, .int .i64 (i : Nat))]) => ?_
    refine wpl_nil (then_n (.inl ⟨F14.ev 0 rfl, ?_⟩))
    refine wp_seq (wp_region_list ?_)
    refine st_val [0, 2, 3, 4, 5] F14 (d := 10) (v := .int .i64 (i : Nat)) rfl rfl (by decide) (ex_move rfl (F14.ev 4 rfl)) fun a15 (F16 : Fr 21 a15 [(10, .int .i64 (i : Nat)), (0, .slice (some ⟨bo, o, none⟩) n cap), (3, (.pointer (some ⟨bb, 0, none⟩))), (7, (.int .i64 ((min 64 n : Nat) : Int))), (8, .int .i64 (i : Nat))]) => ?_
    refine st_val [0, 2, 3, 4, 5] F16 (d := 4) (v := .int .i64 (i : Nat)) rfl rfl (by decide) (ex_assign rfl (F16.ev 0 rfl)) fun a17 (F18 : Fr 21 a17 [(4, .int .i64 (i : Nat)), (0, .slice (some ⟨bo, o, none⟩) n cap), (3, (.pointer (some ⟨bb, 0, none⟩))), (7, (.int .i64 ((min 64 n : Nat) : Int))), (8, .int .i64 (i : Nat))]) => ?_
    refine wpl_nil (then_n ?_)
    have gX : (cn .u8 (xorTo X o B i))[o + i]? = some (.int .u8 (X.getD (o + i) 0 : Nat)) := by
      rw [cn_get _ _ _ (by rw [xorTo_len]; omega), xorTo_get _ _ _ _ _ (by omega), if_neg (by omega)]
    have gB := cn_get .u8 B i (by rw [hB]; omega)
    have xx := u8_xor_nat (X.getD (o + i) 0) (B.getD i 0) (hX _) (hB8 _)
    generalize ex : X.getD (o + i) 0 = x at *
    generalize eb : B.getD i 0 = y at *
    refine region_list w.heap.size (C := fun w' => Below w.heap.size w w') [.inl (.slice (some ⟨bo, o, none⟩) n cap), .inl (.int .i64 (i : Nat)), .inl (.pointer (some ⟨bo, o + i, none⟩)), .inl (.int .u8 (x : Nat)), .inl (.int .i64 (i : Nat)), .inl (.pointer (some ⟨bb, i, none⟩)), .inl (.int .u8 (y : Nat)), .inl (.int .u8 ((x ^^^ y : Nat) : Int)), .inl (.pointer (some ⟨bo, o + i, none⟩))] [] (by kernel_rfl) (by rw [F18.size]; kernel_rfl) ⟨rfl, rfl, rfl, Nat.le_refl _, fun _ _ => rfl⟩ (fun w1 w2 h1 h2 => h1.trans (h2.mono h1.size)) (fun i h => by simp at h) ?_ ?_
    · refine ⟨?_, ?_, ?_, ?_, ?_, ?_, ?_, ?_, ?_, trivial⟩
      · intro s v hC hk hd
        have h0 : s.tmps[0]? = some (.slice (some ⟨bo, o, none⟩) n cap) := (hk 0 (by kernel_rfl)).trans (F18.get 1 rfl)
        exact ok_value rfl (ex_move rfl (eval_tmp h0))
      · intro s v hC hk hd
        have h4 : s.tmps[4]? = some (.int .i64 (i : Nat)) := (hk 4 (by kernel_rfl)).trans (F18.get 0 rfl)
        exact ok_value rfl (ex_move rfl (eval_tmp h4))
      · intro s v hC hk hd
        have h11 : s.tmps[11]? = some (.slice (some ⟨bo, o, none⟩) n cap) := hd 0 (by kernel_rfl)
        have h12 : s.tmps[12]? = some (.int .i64 (i : Nat)) := hd 1 (by kernel_rfl)
        exact ok_value rfl (ex_idxS rfl h11 (eval_tmp h12) Try.underlying39 (by omega) (by kernel_rfl))
      · intro s v hC hk hd
        have h13 : s.tmps[13]? = some (.pointer (some ⟨bo, o + i, none⟩)) := hd 2 (by kernel_rfl)
        exact ok_value rfl (ex_load1 rfl h13 ((M.keep hC).get 1 rfl) gX Try.underlying5 rfl)
      · intro s v hC hk hd
        have h4 : s.tmps[4]? = some (.int .i64 (i : Nat)) := (hk 4 (by kernel_rfl)).trans (F18.get 0 rfl)
        exact ok_value rfl (ex_move rfl (eval_tmp h4))
      · intro s v hC hk hd
        have h3 : s.tmps[3]? = some ((.pointer (some ⟨bb, 0, none⟩))) := (hk 3 (by kernel_rfl)).trans (F18.get 2 rfl)
        have h15 : s.tmps[15]? = some (.int .i64 (i : Nat)) := hd 4 (by kernel_rfl)
        exact ok_value rfl (ex_idx (i := i) rfl h3 (eval_tmp h15) Try.underlying54 (by omega) (by kernel_rfl))
      · intro s v hC hk hd
        have h16 : s.tmps[16]? = some (.pointer (some ⟨bb, i, none⟩)) := hd 5 (by kernel_rfl)
        exact ok_value rfl (ex_load1 rfl h16 ((M.keep hC).get 0 rfl) gB Try.underlying5 rfl)
      · intro s v hC hk hd
        have h14 : s.tmps[14]? = some (.int .u8 (x : Nat)) := hd 3 (by kernel_rfl)
        have h17 : s.tmps[17]? = some (.int .u8 (y : Nat)) := hd 6 (by kernel_rfl)
        exact ok_value rfl (by simp [execOp, Act.eval, h14, h17, go_sem]; exact xx)
      · intro s v hC hk hd
        have h11 : s.tmps[11]? = some (.slice (some ⟨bo, o, none⟩) n cap) := hd 0 (by kernel_rfl)
        have h12 : s.tmps[12]? = some (.int .i64 (i : Nat)) := hd 1 (by kernel_rfl)
        exact ok_value rfl (ex_idxS rfl h11 (eval_tmp h12) Try.underlying39 (by omega) (by kernel_rfl))
    · intro nb w19 hC hf hne
      have M22 := M.keep hC
      refine fr_all [0, 1, 10, 11, 12, 13] F18 (by kernel_rfl) fun a20 (F21 : Fr 21 a20 [(19, (.pointer (some ⟨bo, o + i, none⟩))), (18, (.int .u8 ((x ^^^ y : Nat) : Int))), (0, .slice (some ⟨bo, o, none⟩) n cap), (3, (.pointer (some ⟨bb, 0, none⟩))), (7, (.int .i64 ((min 64 n : Nat) : Int))), (8, .int .i64 (i : Nat))]) => ?_
      refine st_putF F21 M22 (t := 19) (s := 18) (b := bo) (o := o + i) (i := 1) (j := 0) (m := 1) rfl rfl rfl rfl (by kernel_rfl) (by rw [cn_size, xorTo_len]; omega) (by omega) rfl rfl rfl fun w23 h25 => ?_
      have M24 : Mem w0.heap.size w0 w23 ((bb, .cells (cn .u8 B) 54) :: (bo, .cells (cn .u8 (xorTo X o B (i + 1))) T fr) :: L) := by rw [cn_set] at h25; rw [show xorTo X o B (i + 1) = (xorTo X o B i).set (o + i) (x ^^^ y) by rw [← ex, ← eb]; rfl]; exact h25
      refine wpl_nil (inb_n (then_n ?_))
      refine wp_region_list ?_
      refine st_val [0, 3, 4, 5, 6] F21 (d := 20) (v := (.int .i64 ((i + 1 : Nat) : Int))) rfl rfl (by decide) (by simp [execOp, Act.eval, (F21.get 5 rfl), go_sem]; rw [IntKind.wrap_i64]; omega) fun a26 (F27 : Fr 21 a26 [(20, (.int .i64 ((i + 1 : Nat) : Int))), (0, .slice (some ⟨bo, o, none⟩) n cap), (3, (.pointer (some ⟨bb, 0, none⟩))), (7, (.int .i64 ((min 64 n : Nat) : Int))), (8, .int .i64 (i : Nat))]) => ?_
      refine st_val [0, 2, 3, 4] F27 (d := 8) (v := (.int .i64 ((i + 1 : Nat) : Int))) rfl rfl (by decide) (ex_move rfl (F27.ev 0 rfl)) fun a28 (F29 : Fr 21 a28 [(8, (.int .i64 ((i + 1 : Nat) : Int))), (0, .slice (some ⟨bo, o, none⟩) n cap), (3, (.pointer (some ⟨bb, 0, none⟩))), (7, (.int .i64 ((min 64 n : Nat) : Int)))]) => ?_
      refine wpl_nil (then_n ⟨⟨i + 1, by omega, F29.pick [1, 2, 3, 0], M24⟩, ?_⟩)
      rw [cnt_of (F29.get 0 rfl), hc]; omega
  · obtain rfl : i = min 64 n := by omega
    refine wp_region_list ?_
    refine st_val [0] F (d := 9) (v := (.bool false)) rfl rfl (by decide) (by simp [execOp, Act.eval, (F.get 3 rfl), (F.get 2 rfl), go_sem]) fun a30 (F31 : Fr 21 a30 [(9, (.bool false))]) => ?_
    refine wpl_nil (then_n (.inr ⟨F31.ev 0 rfl, ?_⟩))
    exact end_none F31 Try.results22 ⟨rfl, M.tail⟩
end Go.Proofs.Ytcmoohkkaibgkaa
