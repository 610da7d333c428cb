/- The walk of the block of the answer of the document. -/
import Derived.Test.YtcmoohkkaibgkaaR1
import Derived.Test.YtcmoohkkaibgkaaW4
import Derived.Test.YtcmoohkkaibgkaaRow
namespace Go.Proofs.Ytcmoohkkaibgkaa
open Go.RowKit

theorem four_any (Y : List Nat) (hl : Y.length = 4) (hY : ∀ i, Y.getD i 0 < 256) (w : World) :
    Calls Try.prog 38 #[.string (bs Y)] w fun e w' => e = .returned (.int .u32 (wdAt Y 0 : Nat)) ∧ Below w.heap.size w w' := by
  have hs : (bs Y).size = 4 := by rw [bs_size, hl]
  have g : ∀ i (h : i < (bs Y).size), ((bs Y)[i]).toNat = Y.getD i 0 := fun i h => by rw [← nl_get (bs Y) i h, nl_bs Y hY]
  exact four_raw (bs Y) hs _ _ _ _ (g 0 (by omega)) (g 1 (by omega)) (g 2 (by omega)) (g 3 (by omega)) w
theorem four_cut {n : Nat} {s : List Nat} (hs : Bytes n s) (i : Nat) (h : 4 * i + 4 ≤ n) (w : World) :
    Calls Try.prog 38 #[.string (bs ((s.drop (0 + 4 * i)).take (4 * i + 4 - 4 * i)))] w fun e w' => e = .returned (.int .u32 (wdAt s i : Nat)) ∧ Below w.heap.size w w' := by
  have := four_any ((s.drop (0 + 4 * i)).take (4 * i + 4 - 4 * i)) (by simp [hs.len]; omega) (fun j => by
    have := hs.lt (0 + 4 * i + j)
    simp only [List.getD_eq_getElem?_getD, List.getElem?_take, List.getElem?_drop] at this ⊢
    split
    · exact this
    · decide) w
  rwa [wdAt_cut] at this
theorem ltrue (a b : Nat) (h : a < b) : (decide ((a : Int) < (b : Int))) = true := by simp; omega

set_option maxRecDepth 100000 in
set_option maxHeartbeats 4000000 in
theorem rBlock_any (ks ns : List Nat) (c : Nat) (hks : Bytes 32 ks) (hc : c < 4294967296) (hns : Bytes 12 ns) (w0 : World) :
    Calls Try.prog 24 #[.agg (cn .u8 ks), .int .u32 (c : Nat), .agg (cn .u8 ns)] w0 fun e w' => e = .returned (.string (bs (blockN ks c ns))) ∧ Below w0.heap.size w0 w' := by
  have HL := laid_words hks hc hns
  refine enter_fr Try.func24 rfl Try.ntmps24 (by simp) fun a (F : Fr 114 a [(0, .agg (cn .u8 ks)), (1, .int .u32 (c : Nat)), (2, .agg (cn .u8 ns))]) => ?_
  have M := Mem.start w0
  refine wp_seq (wp_region_list ?_)
  refine st_alloc [0, 2, 3] F M (d := 3) (.cells (cn .u8 ks) 22) (fun b => .pointer (some ⟨b, 0, none⟩)) rfl rfl (by decide) (by simp [execOp, Act.eval, (F.get 0 rfl), go_sem]) fun a1 w3 bk (F2 : Fr 114 a1 [(3, (.pointer (some ⟨bk, 0, none⟩))), (1, .int .u32 (c : Nat)), (2, .agg (cn .u8 ns))]) (M4 : Mem w0.heap.size w0 w3 [(bk, .cells (cn .u8 ks) 22)]) => ?_
  refine st_alloc [0, 1, 2] F2 M4 (d := 5) (.cells (cn .u8 ns) 24) (fun b => .pointer (some ⟨b, 0, none⟩)) rfl rfl (by decide) (by simp [execOp, Act.eval, (F2.get 2 rfl), go_sem]) fun a5 w7 bn (F6 : Fr 114 a5 [(5, (.pointer (some ⟨bn, 0, none⟩))), (3, (.pointer (some ⟨bk, 0, none⟩))), (1, .int .u32 (c : Nat))]) (M8 : Mem w0.heap.size w0 w7 [(bn, .cells (cn .u8 ns) 24), (bk, .cells (cn .u8 ks) 22)]) => ?_
  refine st_val [1, 2, 3] F6 (d := 6) (v := (.string { data := #[] })) rfl rfl (by decide) (ex_assign rfl rfl) fun a9 (F10 : Fr 114 a9 [(5, (.pointer (some ⟨bn, 0, none⟩))), (3, (.pointer (some ⟨bk, 0, none⟩))), (1, .int .u32 (c : Nat))]) => ?_
  refine wpl_nil (then_n ?_)
  refine wp_seq (wp_region_list ?_)
  refine st_val [0, 1, 2, 3] F10 (d := 17) (v := (.agg (cn .u32 (lay0 0)))) rfl rfl (by decide) (by simp [execOp, Act.eval, cn, lay0, go_sem]) fun a11 (F12 : Fr 114 a11 [(17, (.agg (cn .u32 (lay0 0)))), (5, (.pointer (some ⟨bn, 0, none⟩))), (3, (.pointer (some ⟨bk, 0, none⟩))), (1, .int .u32 (c : Nat))]) => ?_
  refine st_alloc [0, 1, 2, 3, 4] F12 M8 (d := 7) (.cells (cn .u32 (List.replicate 16 0)) 50) (fun b => .pointer (some ⟨b, 0, none⟩)) rfl rfl (by decide) (by simp [execOp, go_sem, cn]) fun a13 w15 b (F14 : Fr 114 a13 [(7, (.pointer (some ⟨b, 0, none⟩))), (17, (.agg (cn .u32 (lay0 0)))), (5, (.pointer (some ⟨bn, 0, none⟩))), (3, (.pointer (some ⟨bk, 0, none⟩))), (1, .int .u32 (c : Nat))]) (M16 : Mem w0.heap.size w0 w15 [(b, .cells (cn .u32 (List.replicate 16 0)) 50), (bn, .cells (cn .u8 ns) 24), (bk, .cells (cn .u8 ks) 22)]) => ?_
  refine st_store F14 M16 (k := 16) (t := 7) (s := 17) (b := b) (i := 0) (j := 0) (m := 1) rfl rfl rfl rfl (by kernel_rfl) (by rw [cn_size]; rfl) rfl (cn_one _ _) rfl rfl fun w17 (M18 : Mem w0.heap.size w0 w17 [(b, .cells (cn .u32 (lay0 0)) 50), (bn, .cells (cn .u8 ns) 24), (bk, .cells (cn .u8 ks) 22)]) => ?_
  refine wpl_nil (then_n ?_)
  refine wp_seq (wp_seq (wp_region_list ?_))
  refine st_val [0, 1, 3, 4, 5] F14 (d := 8) (v := (.int .i64 0)) rfl rfl (by decide) (ex_assign rfl rfl) fun a19 (F20 : Fr 114 a19 [(8, (.int .i64 0)), (7, (.pointer (some ⟨b, 0, none⟩))), (5, (.pointer (some ⟨bn, 0, none⟩))), (3, (.pointer (some ⟨bk, 0, none⟩))), (1, .int .u32 (c : Nat))]) => ?_
  refine wpl_nil (then_n ?_)
  refine wp_for2 (fun a' w' => ∃ i : Nat, i ≤ 8 ∧ Fr 114 a' [(1, .int .u32 (c : Nat)), (3, (.pointer (some ⟨bk, 0, none⟩))), (5, (.pointer (some ⟨bn, 0, none⟩))), (7, (.pointer (some ⟨b, 0, none⟩))), (8, .int .i64 (i : Nat))] ∧ Mem w0.heap.size w0 w' [(b, .cells (cn .u32 (setTo 4 ks (lay0 0) i)) 50), (bn, .cells (cn .u8 ns) 24), (bk, .cells (cn .u8 ks) 22)]) (fun a' _ => (8 - cnt 8 a').toNat) ⟨0, by omega, F20.pick [4, 3, 2, 1, 0], M18⟩ ?_
  rintro a w ⟨i, hr_i, F, M⟩
  have hc_i := cnt_of (F.get 4 rfl)
  by_cases hlt_i : i < 8
  · refine wp_region_list ?_
    refine st_val [0, 1, 2, 3, 4, 5] F (d := 18) (v := .int .i64 (i : Nat)) rfl rfl (by decide) (ex_move rfl (F.ev 4 rfl)) fun a21 (F22 : Fr 114 a21 [(18, .int .i64 (i : Nat)), (1, .int .u32 (c : Nat)), (3, (.pointer (some ⟨bk, 0, none⟩))), (5, (.pointer (some ⟨bn, 0, none⟩))), (7, (.pointer (some ⟨b, 0, none⟩))), (8, .int .i64 (i : Nat))]) => ?_
    refine st_val [0, 2, 3, 4, 5, 6] F22 (d := 19) (v := (.bool true)) rfl rfl (by decide) (by simp [execOp, Act.eval, (F22.get 0 rfl), go_sem]; omega) fun a23 (F24 : Fr 114 a23 [(19, (.bool true)), (1, .int .u32 (c : Nat)), (3, (.pointer (some ⟨bk, 0, none⟩))), (5, (.pointer (some ⟨bn, 0, none⟩))), (7, (.pointer (some ⟨b, 0, none⟩))), (8, .int .i64 (i : Nat))]) => ?_
    refine wpl_nil (then_n (.inl ⟨F24.ev 0 rfl, ?_⟩))
    refine wp_region_list ?_
    refine st_val [0, 2, 3, 4, 5, 6] F24 (d := 22) (v := .int .i64 (i : Nat)) rfl rfl (by decide) (ex_move rfl (F24.ev 5 rfl)) fun a25 (F26 : Fr 114 a25 [(22, .int .i64 (i : Nat)), (1, .int .u32 (c : Nat)), (3, (.pointer (some ⟨bk, 0, none⟩))), (5, (.pointer (some ⟨bn, 0, none⟩))), (7, (.pointer (some ⟨b, 0, none⟩))), (8, .int .i64 (i : Nat))]) => ?_
    refine st_val [0, 2, 3, 4, 5, 6] F26 (d := 23) (v := (.int .i64 ((4 + i : Nat) : Int))) rfl rfl (by decide) (by simp [execOp, Act.eval, (F26.get 0 rfl), go_sem]; rw [IntKind.wrap_i64]; omega) fun a27 (F28 : Fr 114 a27 [(23, (.int .i64 ((4 + i : Nat) : Int))), (1, .int .u32 (c : Nat)), (3, (.pointer (some ⟨bk, 0, none⟩))), (5, (.pointer (some ⟨bn, 0, none⟩))), (7, (.pointer (some ⟨b, 0, none⟩))), (8, .int .i64 (i : Nat))]) => ?_
    refine st_val [0, 1, 2, 3, 4, 5, 6] F28 (d := 24) (v := .int .i64 (i : Nat)) rfl rfl (by decide) (ex_move rfl (F28.ev 5 rfl)) fun a29 (F30 : Fr 114 a29 [(24, .int .i64 (i : Nat)), (23, (.int .i64 ((4 + i : Nat) : Int))), (1, .int .u32 (c : Nat)), (3, (.pointer (some ⟨bk, 0, none⟩))), (5, (.pointer (some ⟨bn, 0, none⟩))), (7, (.pointer (some ⟨b, 0, none⟩))), (8, .int .i64 (i : Nat))]) => ?_
    refine st_val [0, 2, 3, 4, 5, 6, 7] F30 (d := 25) (v := (.int .i64 ((4 * i : Nat) : Int))) rfl rfl (by decide) (by simp [execOp, Act.eval, (F30.get 0 rfl), go_sem]; rw [IntKind.wrap_i64]; omega) fun a31 (F32 : Fr 114 a31 [(25, (.int .i64 ((4 * i : Nat) : Int))), (23, (.int .i64 ((4 + i : Nat) : Int))), (1, .int .u32 (c : Nat)), (3, (.pointer (some ⟨bk, 0, none⟩))), (5, (.pointer (some ⟨bn, 0, none⟩))), (7, (.pointer (some ⟨b, 0, none⟩))), (8, .int .i64 (i : Nat))]) => ?_
    refine st_val [0, 1, 2, 3, 4, 5, 6, 7] F32 (d := 26) (v := .int .i64 (i : Nat)) rfl rfl (by decide) (ex_move rfl (F32.ev 6 rfl)) fun a33 (F34 : Fr 114 a33 [(26, .int .i64 (i : Nat)), (25, (.int .i64 ((4 * i : Nat) : Int))), (23, (.int .i64 ((4 + i : Nat) : Int))), (1, .int .u32 (c : Nat)), (3, (.pointer (some ⟨bk, 0, none⟩))), (5, (.pointer (some ⟨bn, 0, none⟩))), (7, (.pointer (some ⟨b, 0, none⟩))), (8, .int .i64 (i : Nat))]) => ?_
    refine st_val [0, 2, 3, 4, 5, 6, 7, 8] F34 (d := 27) (v := (.int .i64 ((4 * i : Nat) : Int))) rfl rfl (by decide) (by simp [execOp, Act.eval, (F34.get 0 rfl), go_sem]; rw [IntKind.wrap_i64]; omega) fun a35 (F36 : Fr 114 a35 [(27, (.int .i64 ((4 * i : Nat) : Int))), (25, (.int .i64 ((4 * i : Nat) : Int))), (23, (.int .i64 ((4 + i : Nat) : Int))), (1, .int .u32 (c : Nat)), (3, (.pointer (some ⟨bk, 0, none⟩))), (5, (.pointer (some ⟨bn, 0, none⟩))), (7, (.pointer (some ⟨b, 0, none⟩))), (8, .int .i64 (i : Nat))]) => ?_
    refine st_val [0, 2, 3, 4, 5, 6, 7, 8] F36 (d := 28) (v := (.int .i64 ((4 * i + 4 : Nat) : Int))) rfl rfl (by decide) (by simp [execOp, Act.eval, (F36.get 0 rfl), go_sem]; rw [IntKind.wrap_i64]; omega) fun a37 (F38 : Fr 114 a37 [(28, (.int .i64 ((4 * i + 4 : Nat) : Int))), (25, (.int .i64 ((4 * i : Nat) : Int))), (23, (.int .i64 ((4 + i : Nat) : Int))), (1, .int .u32 (c : Nat)), (3, (.pointer (some ⟨bk, 0, none⟩))), (5, (.pointer (some ⟨bn, 0, none⟩))), (7, (.pointer (some ⟨b, 0, none⟩))), (8, .int .i64 (i : Nat))]) => ?_
    refine st_val [0, 3, 4, 5, 6, 7, 8] F38 (d := 29) (v := (.slice (some ⟨bk, 0 + 4 * i, none⟩) (4 * i + 4 - 4 * i) (32 - 4 * i))) rfl rfl (by decide) (ex_sliceA (some (4 * i)) (some (4 * i + 4)) rfl (F38.get 4 rfl) (by simp [optI, (F38.ev 1 rfl)]) (by simp [optI, (F38.ev 0 rfl)]) Try.underlying22 (by kernel_rfl) (show 4 * i ≤ 4 * i + 4 by omega) (show 4 * i + 4 ≤ 32 by omega) (show 4 * i < 32 by omega)) fun a39 (F40 : Fr 114 a39 [(29, (.slice (some ⟨bk, 0 + 4 * i, none⟩) (4 * i + 4 - 4 * i) (32 - 4 * i))), (23, (.int .i64 ((4 + i : Nat) : Int))), (1, .int .u32 (c : Nat)), (3, (.pointer (some ⟨bk, 0, none⟩))), (5, (.pointer (some ⟨bn, 0, none⟩))), (7, (.pointer (some ⟨b, 0, none⟩))), (8, .int .i64 (i : Nat))]) => ?_
    refine st_val [0, 2, 3, 4, 5, 6, 7] F40 (d := 30) (v := (.string (bs ((ks.drop (0 + 4 * i)).take (4 * i + 4 - 4 * i))))) rfl rfl (by decide) (ex_str rfl (F40.get 0 rfl) (M.get 2 rfl) (by rw [hks.len]; omega) Try.underlying39 Try.underlying5 Try.underlying9) fun a41 (F42 : Fr 114 a41 [(30, (.string (bs ((ks.drop (0 + 4 * i)).take (4 * i + 4 - 4 * i))))), (23, (.int .i64 ((4 + i : Nat) : Int))), (1, .int .u32 (c : Nat)), (3, (.pointer (some ⟨bk, 0, none⟩))), (5, (.pointer (some ⟨bn, 0, none⟩))), (7, (.pointer (some ⟨b, 0, none⟩))), (8, .int .i64 (i : Nat))]) => ?_
    refine st_call [0, 2, 3, 4, 5, 6, 7] F42 M (d := 31) (f := 38) (args := #[.string (bs ((ks.drop (0 + 4 * i)).take (4 * i + 4 - 4 * i)))]) (v := (.int .u32 (wdAt ks i : Nat))) rfl rfl (by decide) (by simp [Act.eval, (F42.get 0 rfl), go_sem]) (four_cut hks i (by omega) w) fun a43 w45 (F44 : Fr 114 a43 [(31, (.int .u32 (wdAt ks i : Nat))), (23, (.int .i64 ((4 + i : Nat) : Int))), (1, .int .u32 (c : Nat)), (3, (.pointer (some ⟨bk, 0, none⟩))), (5, (.pointer (some ⟨bn, 0, none⟩))), (7, (.pointer (some ⟨b, 0, none⟩))), (8, .int .i64 (i : Nat))]) (M46 : Mem w0.heap.size w0 w45 [(b, .cells (cn .u32 (setTo 4 ks (lay0 0) i)) 50), (bn, .cells (cn .u8 ns) 24), (bk, .cells (cn .u8 ks) 22)]) => ?_
    refine st_val [0, 1, 3, 4, 5, 6, 7] F44 (d := 32) (v := (.pointer (some ⟨b, 4 + i, none⟩))) rfl rfl (by decide) (ex_idx (i := 4 + i) rfl (F44.get 5 rfl) (F44.ev 1 rfl) Try.underlying50 (by omega) (by kernel_rfl)) fun a47 (F48 : Fr 114 a47 [(32, (.pointer (some ⟨b, 4 + i, none⟩))), (31, (.int .u32 (wdAt ks i : Nat))), (1, .int .u32 (c : Nat)), (3, (.pointer (some ⟨bk, 0, none⟩))), (5, (.pointer (some ⟨bn, 0, none⟩))), (7, (.pointer (some ⟨b, 0, none⟩))), (8, .int .i64 (i : Nat))]) => ?_
    refine st_put F48 M46 (t := 32) (s := 31) (b := b) (o := (4 + i)) (i := 0) (j := 0) (m := 1) rfl rfl rfl rfl (by kernel_rfl) (by rw [cn_size, setTo_len]; show 4 + i < 16; omega) rfl rfl rfl fun w49 h51 => ?_
    have M50 : Mem w0.heap.size w0 w49 [(b, .cells (cn .u32 (setTo 4 ks (lay0 0) (i + 1))) 50), (bn, .cells (cn .u8 ns) 24), (bk, .cells (cn .u8 ks) 22)] := by rw [cn_set] at h51; exact h51
    clear h51
    refine wpl_nil (inb_n (then_n ?_))
    refine wp_region_list ?_
    refine st_val [0, 3, 4, 5, 6, 7] F48 (d := 20) (v := .int .i64 (i : Nat)) rfl rfl (by decide) (ex_move rfl (F48.ev 6 rfl)) fun a52 (F53 : Fr 114 a52 [(20, .int .i64 (i : Nat)), (1, .int .u32 (c : Nat)), (3, (.pointer (some ⟨bk, 0, none⟩))), (5, (.pointer (some ⟨bn, 0, none⟩))), (7, (.pointer (some ⟨b, 0, none⟩))), (8, .int .i64 (i : Nat))]) => ?_
    refine st_val [0, 2, 3, 4, 5, 6] F53 (d := 21) (v := (.int .i64 ((i + 1 : Nat) : Int))) rfl rfl (by decide) (by simp [execOp, Act.eval, (F53.get 0 rfl), go_sem]; rw [IntKind.wrap_i64]; omega) fun a54 (F55 : Fr 114 a54 [(21, (.int .i64 ((i + 1 : Nat) : Int))), (1, .int .u32 (c : Nat)), (3, (.pointer (some ⟨bk, 0, none⟩))), (5, (.pointer (some ⟨bn, 0, none⟩))), (7, (.pointer (some ⟨b, 0, none⟩))), (8, .int .i64 (i : Nat))]) => ?_
    refine st_val [0, 2, 3, 4, 5] F55 (d := 8) (v := (.int .i64 ((i + 1 : Nat) : Int))) rfl rfl (by decide) (ex_assign rfl (F55.ev 0 rfl)) fun a56 (F57 : Fr 114 a56 [(8, (.int .i64 ((i + 1 : Nat) : Int))), (1, .int .u32 (c : Nat)), (3, (.pointer (some ⟨bk, 0, none⟩))), (5, (.pointer (some ⟨bn, 0, none⟩))), (7, (.pointer (some ⟨b, 0, none⟩)))]) => ?_
    refine wpl_nil (then_n ⟨⟨i + 1, by omega, F57.pick [1, 2, 3, 4, 0], M50⟩, ?_⟩)
    rw [cnt_of (F57.get 0 rfl), hc_i]; omega
  · obtain rfl : i = 8 := by omega
    refine wp_region_list ?_
    refine st_val [0, 1, 2, 3, 4] F (d := 18) (v := .int .i64 (8 : Nat)) rfl rfl (by decide) (ex_move rfl (F.ev 4 rfl)) fun a58 (F59 : Fr 114 a58 [(18, .int .i64 (8 : Nat)), (1, .int .u32 (c : Nat)), (3, (.pointer (some ⟨bk, 0, none⟩))), (5, (.pointer (some ⟨bn, 0, none⟩))), (7, (.pointer (some ⟨b, 0, none⟩)))]) => ?_
    refine st_val [0, 2, 3, 4, 5] F59 (d := 19) (v := (.bool false)) rfl rfl (by decide) (by simp [execOp, Act.eval, (F59.get 0 rfl), go_sem]) fun a60 (F61 : Fr 114 a60 [(19, (.bool false)), (1, .int .u32 (c : Nat)), (3, (.pointer (some ⟨bk, 0, none⟩))), (5, (.pointer (some ⟨bn, 0, none⟩))), (7, (.pointer (some ⟨b, 0, none⟩)))]) => ?_
    refine wpl_nil (then_n (.inr ⟨F61.ev 0 rfl, then_n ?_⟩))
    refine wp_seq (wp_region_list ?_)
    refine st_val [0, 3, 4, 5] F61 (d := 33) (v := .int .u32 (c : Nat)) rfl rfl (by decide) (ex_move rfl (F61.ev 1 rfl)) fun a62 (F63 : Fr 114 a62 [(33, .int .u32 (c : Nat)), (3, (.pointer (some ⟨bk, 0, none⟩))), (5, (.pointer (some ⟨bn, 0, none⟩))), (7, (.pointer (some ⟨b, 0, none⟩)))]) => ?_
    refine st_val [0, 1, 2, 3, 4] F63 (d := 34) (v := (.pointer (some ⟨b, 12, none⟩))) rfl rfl (by decide) (ex_idx (i := 12) rfl (F63.get 3 rfl) rfl Try.underlying50 (by decide) (by kernel_rfl)) fun a64 (F65 : Fr 114 a64 [(34, (.pointer (some ⟨b, 12, none⟩))), (33, .int .u32 (c : Nat)), (3, (.pointer (some ⟨bk, 0, none⟩))), (5, (.pointer (some ⟨bn, 0, none⟩))), (7, (.pointer (some ⟨b, 0, none⟩)))]) => ?_
    refine st_put F65 M (t := 34) (s := 33) (b := b) (o := 12) (i := 0) (j := 0) (m := 1) rfl rfl rfl rfl (by kernel_rfl) (by rw [cn_size, setTo_len]; show 12 < 16; decide) rfl rfl rfl fun w66 h68 => ?_
    have M67 : Mem w0.heap.size w0 w66 [(b, .cells (cn .u32 ((setTo 4 ks (lay0 0) 8).set 12 c)) 50), (bn, .cells (cn .u8 ns) 24), (bk, .cells (cn .u8 ks) 22)] := by rw [cn_set] at h68; exact h68
    clear h68
    refine wpl_nil (then_n ?_)
    refine wp_seq (wp_seq (wp_region_list ?_))
    refine st_val [0, 4, 5] F65 (d := 9) (v := (.int .i64 0)) rfl rfl (by decide) (ex_assign rfl rfl) fun a69 (F70 : Fr 114 a69 [(9, (.int .i64 0)), (5, (.pointer (some ⟨bn, 0, none⟩))), (7, (.pointer (some ⟨b, 0, none⟩)))]) => ?_
    refine wpl_nil (then_n ?_)
    refine wp_for2 (fun a' w' => ∃ i : Nat, i ≤ 3 ∧ Fr 114 a' [(5, (.pointer (some ⟨bn, 0, none⟩))), (7, (.pointer (some ⟨b, 0, none⟩))), (9, .int .i64 (i : Nat))] ∧ Mem w0.heap.size w0 w' [(b, .cells (cn .u32 (setTo 13 ns ((setTo 4 ks (lay0 0) 8).set 12 c) i)) 50), (bn, .cells (cn .u8 ns) 24), (bk, .cells (cn .u8 ks) 22)]) (fun a' _ => (3 - cnt 9 a').toNat) ⟨0, by omega, F70.pick [1, 2, 0], M67⟩ ?_
    rintro a w ⟨i, hr_i, F, M⟩
    have hc_i := cnt_of (F.get 2 rfl)
    by_cases hlt_i : i < 3
    · refine wp_region_list ?_
      refine st_val [0, 1, 2, 3] F (d := 35) (v := .int .i64 (i : Nat)) rfl rfl (by decide) (ex_move rfl (F.ev 2 rfl)) fun a71 (F72 : Fr 114 a71 [(35, .int .i64 (i : Nat)), (5, (.pointer (some ⟨bn, 0, none⟩))), (7, (.pointer (some ⟨b, 0, none⟩))), (9, .int .i64 (i : Nat))]) => ?_
      refine st_val [0, 2, 3, 4] F72 (d := 36) (v := (.bool true)) rfl rfl (by decide) (by simp [execOp, Act.eval, (F72.get 0 rfl), go_sem]; omega) fun a73 (F74 : Fr 114 a73 [(36, (.bool true)), (5, (.pointer (some ⟨bn, 0, none⟩))), (7, (.pointer (some ⟨b, 0, none⟩))), (9, .int .i64 (i : Nat))]) => ?_
      refine wpl_nil (then_n (.inl ⟨F74.ev 0 rfl, ?_⟩))
      refine wp_region_list ?_
      refine st_val [0, 2, 3, 4] F74 (d := 39) (v := .int .i64 (i : Nat)) rfl rfl (by decide) (ex_move rfl (F74.ev 3 rfl)) fun a75 (F76 : Fr 114 a75 [(39, .int .i64 (i : Nat)), (5, (.pointer (some ⟨bn, 0, none⟩))), (7, (.pointer (some ⟨b, 0, none⟩))), (9, .int .i64 (i : Nat))]) => ?_
      refine st_val [0, 2, 3, 4] F76 (d := 40) (v := (.int .i64 ((13 + i : Nat) : Int))) rfl rfl (by decide) (by simp [execOp, Act.eval, (F76.get 0 rfl), go_sem]; rw [IntKind.wrap_i64]; omega) fun a77 (F78 : Fr 114 a77 [(40, (.int .i64 ((13 + i : Nat) : Int))), (5, (.pointer (some ⟨bn, 0, none⟩))), (7, (.pointer (some ⟨b, 0, none⟩))), (9, .int .i64 (i : Nat))]) => ?_
      refine st_val [0, 1, 2, 3, 4] F78 (d := 41) (v := .int .i64 (i : Nat)) rfl rfl (by decide) (ex_move rfl (F78.ev 3 rfl)) fun a79 (F80 : Fr 114 a79 [(41, .int .i64 (i : Nat)), (40, (.int .i64 ((13 + i : Nat) : Int))), (5, (.pointer (some ⟨bn, 0, none⟩))), (7, (.pointer (some ⟨b, 0, none⟩))), (9, .int .i64 (i : Nat))]) => ?_
      refine st_val [0, 2, 3, 4, 5] F80 (d := 42) (v := (.int .i64 ((4 * i : Nat) : Int))) rfl rfl (by decide) (by simp [execOp, Act.eval, (F80.get 0 rfl), go_sem]; rw [IntKind.wrap_i64]; omega) fun a81 (F82 : Fr 114 a81 [(42, (.int .i64 ((4 * i : Nat) : Int))), (40, (.int .i64 ((13 + i : Nat) : Int))), (5, (.pointer (some ⟨bn, 0, none⟩))), (7, (.pointer (some ⟨b, 0, none⟩))), (9, .int .i64 (i : Nat))]) => ?_
      refine st_val [0, 1, 2, 3, 4, 5] F82 (d := 43) (v := .int .i64 (i : Nat)) rfl rfl (by decide) (ex_move rfl (F82.ev 4 rfl)) fun a83 (F84 : Fr 114 a83 [(43, .int .i64 (i : Nat)), (42, (.int .i64 ((4 * i : Nat) : Int))), (40, (.int .i64 ((13 + i : Nat) : Int))), (5, (.pointer (some ⟨bn, 0, none⟩))), (7, (.pointer (some ⟨b, 0, none⟩))), (9, .int .i64 (i : Nat))]) => ?_
      refine st_val [0, 2, 3, 4, 5, 6] F84 (d := 44) (v := (.int .i64 ((4 * i : Nat) : Int))) rfl rfl (by decide) (by simp [execOp, Act.eval, (F84.get 0 rfl), go_sem]; rw [IntKind.wrap_i64]; omega) fun a85 (F86 : Fr 114 a85 [(44, (.int .i64 ((4 * i : Nat) : Int))), (42, (.int .i64 ((4 * i : Nat) : Int))), (40, (.int .i64 ((13 + i : Nat) : Int))), (5, (.pointer (some ⟨bn, 0, none⟩))), (7, (.pointer (some ⟨b, 0, none⟩))), (9, .int .i64 (i : Nat))]) => ?_
      refine st_val [0, 2, 3, 4, 5, 6] F86 (d := 45) (v := (.int .i64 ((4 * i + 4 : Nat) : Int))) rfl rfl (by decide) (by simp [execOp, Act.eval, (F86.get 0 rfl), go_sem]; rw [IntKind.wrap_i64]; omega) fun a87 (F88 : Fr 114 a87 [(45, (.int .i64 ((4 * i + 4 : Nat) : Int))), (42, (.int .i64 ((4 * i : Nat) : Int))), (40, (.int .i64 ((13 + i : Nat) : Int))), (5, (.pointer (some ⟨bn, 0, none⟩))), (7, (.pointer (some ⟨b, 0, none⟩))), (9, .int .i64 (i : Nat))]) => ?_
      refine st_val [0, 3, 4, 5, 6] F88 (d := 46) (v := (.slice (some ⟨bn, 0 + 4 * i, none⟩) (4 * i + 4 - 4 * i) (12 - 4 * i))) rfl rfl (by decide) (ex_sliceA (some (4 * i)) (some (4 * i + 4)) rfl (F88.get 3 rfl) (by simp [optI, (F88.ev 1 rfl)]) (by simp [optI, (F88.ev 0 rfl)]) Try.underlying24 (by kernel_rfl) (show 4 * i ≤ 4 * i + 4 by omega) (show 4 * i + 4 ≤ 12 by omega) (show 4 * i < 12 by omega)) fun a89 (F90 : Fr 114 a89 [(46, (.slice (some ⟨bn, 0 + 4 * i, none⟩) (4 * i + 4 - 4 * i) (12 - 4 * i))), (40, (.int .i64 ((13 + i : Nat) : Int))), (5, (.pointer (some ⟨bn, 0, none⟩))), (7, (.pointer (some ⟨b, 0, none⟩))), (9, .int .i64 (i : Nat))]) => ?_
      refine st_val [0, 2, 3, 4, 5] F90 (d := 47) (v := (.string (bs ((ns.drop (0 + 4 * i)).take (4 * i + 4 - 4 * i))))) rfl rfl (by decide) (ex_str rfl (F90.get 0 rfl) (M.get 1 rfl) (by rw [hns.len]; omega) Try.underlying39 Try.underlying5 Try.underlying9) fun a91 (F92 : Fr 114 a91 [(47, (.string (bs ((ns.drop (0 + 4 * i)).take (4 * i + 4 - 4 * i))))), (40, (.int .i64 ((13 + i : Nat) : Int))), (5, (.pointer (some ⟨bn, 0, none⟩))), (7, (.pointer (some ⟨b, 0, none⟩))), (9, .int .i64 (i : Nat))]) => ?_
      refine st_call [0, 2, 3, 4, 5] F92 M (d := 48) (f := 38) (args := #[.string (bs ((ns.drop (0 + 4 * i)).take (4 * i + 4 - 4 * i)))]) (v := (.int .u32 (wdAt ns i : Nat))) rfl rfl (by decide) (by simp [Act.eval, (F92.get 0 rfl), go_sem]) (four_cut hns i (by omega) w) fun a93 w95 (F94 : Fr 114 a93 [(48, (.int .u32 (wdAt ns i : Nat))), (40, (.int .i64 ((13 + i : Nat) : Int))), (5, (.pointer (some ⟨bn, 0, none⟩))), (7, (.pointer (some ⟨b, 0, none⟩))), (9, .int .i64 (i : Nat))]) (M96 : Mem w0.heap.size w0 w95 [(b, .cells (cn .u32 (setTo 13 ns ((setTo 4 ks (lay0 0) 8).set 12 c) i)) 50), (bn, .cells (cn .u8 ns) 24), (bk, .cells (cn .u8 ks) 22)]) => ?_
      refine st_val [0, 1, 3, 4, 5] F94 (d := 49) (v := (.pointer (some ⟨b, 13 + i, none⟩))) rfl rfl (by decide) (ex_idx (i := 13 + i) rfl (F94.get 3 rfl) (F94.ev 1 rfl) Try.underlying50 (by omega) (by kernel_rfl)) fun a97 (F98 : Fr 114 a97 [(49, (.pointer (some ⟨b, 13 + i, none⟩))), (48, (.int .u32 (wdAt ns i : Nat))), (5, (.pointer (some ⟨bn, 0, none⟩))), (7, (.pointer (some ⟨b, 0, none⟩))), (9, .int .i64 (i : Nat))]) => ?_
      refine st_put F98 M96 (t := 49) (s := 48) (b := b) (o := (13 + i)) (i := 0) (j := 0) (m := 1) rfl rfl rfl rfl (by kernel_rfl) (by rw [cn_size, setTo_len, List.length_set, setTo_len]; show 13 + i < 16; omega) rfl rfl rfl fun w99 h101 => ?_
      have M100 : Mem w0.heap.size w0 w99 [(b, .cells (cn .u32 (setTo 13 ns ((setTo 4 ks (lay0 0) 8).set 12 c) (i + 1))) 50), (bn, .cells (cn .u8 ns) 24), (bk, .cells (cn .u8 ks) 22)] := by rw [cn_set] at h101; exact h101
      clear h101
      refine wpl_nil (inb_n (then_n ?_))
      refine wp_region_list ?_
      refine st_val [0, 3, 4, 5] F98 (d := 37) (v := .int .i64 (i : Nat)) rfl rfl (by decide) (ex_move rfl (F98.ev 4 rfl)) fun a102 (F103 : Fr 114 a102 [(37, .int .i64 (i : Nat)), (5, (.pointer (some ⟨bn, 0, none⟩))), (7, (.pointer (some ⟨b, 0, none⟩))), (9, .int .i64 (i : Nat))]) => ?_
      refine st_val [0, 2, 3, 4] F103 (d := 38) (v := (.int .i64 ((i + 1 : Nat) : Int))) rfl rfl (by decide) (by simp [execOp, Act.eval, (F103.get 0 rfl), go_sem]; rw [IntKind.wrap_i64]; omega) fun a104 (F105 : Fr 114 a104 [(38, (.int .i64 ((i + 1 : Nat) : Int))), (5, (.pointer (some ⟨bn, 0, none⟩))), (7, (.pointer (some ⟨b, 0, none⟩))), (9, .int .i64 (i : Nat))]) => ?_
      refine st_val [0, 2, 3] F105 (d := 9) (v := (.int .i64 ((i + 1 : Nat) : Int))) rfl rfl (by decide) (ex_assign rfl (F105.ev 0 rfl)) fun a106 (F107 : Fr 114 a106 [(9, (.int .i64 ((i + 1 : Nat) : Int))), (5, (.pointer (some ⟨bn, 0, none⟩))), (7, (.pointer (some ⟨b, 0, none⟩)))]) => ?_
      refine wpl_nil (then_n ⟨⟨i + 1, by omega, F107.pick [1, 2, 0], M100⟩, ?_⟩)
      rw [cnt_of (F107.get 0 rfl), hc_i]; omega
    · obtain rfl : i = 3 := by omega
      refine wp_region_list ?_
      refine st_val [0, 1, 2] F (d := 35) (v := .int .i64 (3 : Nat)) rfl rfl (by decide) (ex_move rfl (F.ev 2 rfl)) fun a108 (F109 : Fr 114 a108 [(35, .int .i64 (3 : Nat)), (5, (.pointer (some ⟨bn, 0, none⟩))), (7, (.pointer (some ⟨b, 0, none⟩)))]) => ?_
      refine st_val [0, 2, 3] F109 (d := 36) (v := (.bool false)) rfl rfl (by decide) (by simp [execOp, Act.eval, (F109.get 0 rfl), go_sem]) fun a110 (F111 : Fr 114 a110 [(36, (.bool false)), (5, (.pointer (some ⟨bn, 0, none⟩))), (7, (.pointer (some ⟨b, 0, none⟩)))]) => ?_
      refine wpl_nil (then_n (.inr ⟨F111.ev 0 rfl, then_n ?_⟩))
      rw [laid_eq2] at M
      have eO := outTo_all (laid ks c ns)
      have eB : blockN ks c ns = blockW (laid ks c ns) := rfl
      rw [eB]
      clear eB
      generalize laid ks c ns = L at *
      have sL : (cn .u32 L).size = 16 := by rw [cn_size, HL.len]
      refine wp_seq (wp_region_list ?_)
      refine st_load [0, 3] F111 M (k := 16) (d := 50) (t := 7) (b := b) (i := 0) (j := 2) rfl rfl rfl Try.underlying50 rfl (by kernel_rfl) sL rfl rfl (by decide) fun a112 (F113 : Fr 114 a112 [(50, (.agg (cn .u32 L))), (7, (.pointer (some ⟨b, 0, none⟩)))]) => ?_
      refine st_alloc [0, 1, 2] F113 M (d := 10) (.cells (cn .u32 (List.replicate 16 0)) 50) (fun b => .pointer (some ⟨b, 0, none⟩)) rfl rfl (by decide) (by simp [execOp, go_sem, cn]) fun a114 w116 d (F115 : Fr 114 a114 [(10, (.pointer (some ⟨d, 0, none⟩))), (50, (.agg (cn .u32 L))), (7, (.pointer (some ⟨b, 0, none⟩)))]) (M117 : Mem w0.heap.size w0 w116 [(d, .cells (cn .u32 (List.replicate 16 0)) 50), (b, .cells (cn .u32 L) 50), (bn, .cells (cn .u8 ns) 24), (bk, .cells (cn .u8 ks) 22)]) => ?_
      refine st_store F115 M117 (k := 16) (t := 10) (s := 50) (b := d) (i := 0) (j := 0) (m := 1) rfl rfl rfl rfl (by kernel_rfl) (by rw [cn_size]; rfl) sL (cn_one _ _) rfl rfl fun w118 (M119 : Mem w0.heap.size w0 w118 [(d, .cells (cn .u32 L) 50), (b, .cells (cn .u32 L) 50), (bn, .cells (cn .u8 ns) 24), (bk, .cells (cn .u8 ks) 22)]) => ?_
      refine wpl_nil (then_n ?_)
      refine wp_seq (wp_seq (wp_region_list ?_))
      refine st_val [0, 1, 3] F115 (d := 11) (v := (.int .i64 0)) rfl rfl (by decide) (ex_assign rfl rfl) fun a120 (F121 : Fr 114 a120 [(11, (.int .i64 0)), (10, (.pointer (some ⟨d, 0, none⟩))), (7, (.pointer (some ⟨b, 0, none⟩)))]) => ?_
      refine wpl_nil (then_n ?_)
      refine wp_for2 (fun a' w' => ∃ k : Nat, k ≤ 10 ∧ Fr 114 a' [(7, (.pointer (some ⟨b, 0, none⟩))), (10, (.pointer (some ⟨d, 0, none⟩))), (11, .int .i64 (k : Nat))] ∧ Mem w0.heap.size w0 w' [(d, .cells (cn .u32 (dblN L k)) 50), (b, .cells (cn .u32 L) 50), (bn, .cells (cn .u8 ns) 24), (bk, .cells (cn .u8 ks) 22)]) (fun a' _ => (10 - cnt 11 a').toNat) ⟨0, by omega, F121.pick [2, 1, 0], M119⟩ ?_
      rintro a w ⟨k, hr_k, F, M⟩
      have hc_k := cnt_of (F.get 2 rfl)
      by_cases hlt_k : k < 10
      · refine wp_region_list ?_
        refine st_val [0, 1, 2, 3] F (d := 51) (v := .int .i64 (k : Nat)) rfl rfl (by decide) (ex_move rfl (F.ev 2 rfl)) fun a122 (F123 : Fr 114 a122 [(51, .int .i64 (k : Nat)), (7, (.pointer (some ⟨b, 0, none⟩))), (10, (.pointer (some ⟨d, 0, none⟩))), (11, .int .i64 (k : Nat))]) => ?_
        refine st_val [0, 2, 3, 4] F123 (d := 52) (v := (.bool true)) rfl rfl (by decide) (by simp [execOp, Act.eval, (F123.get 0 rfl), go_sem]; omega) fun a124 (F125 : Fr 114 a124 [(52, (.bool true)), (7, (.pointer (some ⟨b, 0, none⟩))), (10, (.pointer (some ⟨d, 0, none⟩))), (11, .int .i64 (k : Nat))]) => ?_
        refine wpl_nil (then_n (.inl ⟨F125.ev 0 rfl, ?_⟩))
        have HK := HL.dblN k
        have HD : dblN L (k + 1) = dbl (dblN L k) := rfl
        generalize dblN L k = L0 at *
        refine wp_seq (wp_seq (wp_region_list ?_))
        refine st_val [0, 2, 3, 4] F125 (d := 12) (v := (.int .i64 0)) rfl rfl (by decide) (ex_assign rfl rfl) fun a126 (F127 : Fr 114 a126 [(12, (.int .i64 0)), (7, (.pointer (some ⟨b, 0, none⟩))), (10, (.pointer (some ⟨d, 0, none⟩))), (11, .int .i64 (k : Nat))]) => ?_
        refine wpl_nil (then_n ?_)
        refine wp_for2 (fun a' w' => ∃ i : Nat, i ≤ 4 ∧ Fr 114 a' [(7, (.pointer (some ⟨b, 0, none⟩))), (10, (.pointer (some ⟨d, 0, none⟩))), (11, .int .i64 (k : Nat)), (12, .int .i64 (i : Nat))] ∧ Mem w0.heap.size w0 w' [(d, .cells (cn .u32 (colTo L0 i)) 50), (b, .cells (cn .u32 L) 50), (bn, .cells (cn .u8 ns) 24), (bk, .cells (cn .u8 ks) 22)]) (fun a' _ => (4 - cnt 12 a').toNat) ⟨0, by omega, F127.pick [1, 2, 3, 0], M⟩ ?_
        rintro a w ⟨i, hr_i, F, M⟩
        have hc_i := cnt_of (F.get 3 rfl)
        by_cases hlt_i : i < 4
        · refine wp_region_list ?_
          refine st_val [0, 1, 2, 3, 4] F (d := 55) (v := .int .i64 (i : Nat)) rfl rfl (by decide) (ex_move rfl (F.ev 3 rfl)) fun a128 (F129 : Fr 114 a128 [(55, .int .i64 (i : Nat)), (7, (.pointer (some ⟨b, 0, none⟩))), (10, (.pointer (some ⟨d, 0, none⟩))), (11, .int .i64 (k : Nat)), (12, .int .i64 (i : Nat))]) => ?_
          refine st_val [0, 2, 3, 4, 5] F129 (d := 56) (v := (.bool true)) rfl rfl (by decide) (by simp [execOp, Act.eval, (F129.get 0 rfl), go_sem]; omega) fun a130 (F131 : Fr 114 a130 [(56, (.bool true)), (7, (.pointer (some ⟨b, 0, none⟩))), (10, (.pointer (some ⟨d, 0, none⟩))), (11, .int .i64 (k : Nat)), (12, .int .i64 (i : Nat))]) => ?_
          refine wpl_nil (then_n (.inl ⟨F131.ev 0 rfl, ?_⟩))
          have HC := HK.colTo i
          have sC : (cn .u32 (colTo L0 i)).size = 16 := by rw [cn_size, HC.len]
          have sC1 : (cn .u32 (colTo L0 (i + 1))).size = 16 := by rw [cn_size, (HK.colTo (i + 1)).len]
          refine wp_region_list ?_
          refine st_load [0, 2, 3, 4, 5] F131 M (k := 16) (d := 59) (t := 10) (b := d) (i := 0) (j := 2) rfl rfl rfl Try.underlying50 rfl (by kernel_rfl) sC rfl rfl (by decide) fun a132 (F133 : Fr 114 a132 [(59, (.agg (cn .u32 (colTo L0 i)))), (7, (.pointer (some ⟨b, 0, none⟩))), (10, (.pointer (some ⟨d, 0, none⟩))), (11, .int .i64 (k : Nat)), (12, .int .i64 (i : Nat))]) => ?_
          refine st_val [0, 1, 2, 3, 4, 5] F133 (d := 60) (v := .int .i64 (i : Nat)) rfl rfl (by decide) (ex_move rfl (F133.ev 4 rfl)) fun a134 (F135 : Fr 114 a134 [(60, .int .i64 (i : Nat)), (59, (.agg (cn .u32 (colTo L0 i)))), (7, (.pointer (some ⟨b, 0, none⟩))), (10, (.pointer (some ⟨d, 0, none⟩))), (11, .int .i64 (k : Nat)), (12, .int .i64 (i : Nat))]) => ?_
          refine st_val [0, 1, 2, 3, 4, 5, 6] F135 (d := 61) (v := .int .i64 (i : Nat)) rfl rfl (by decide) (ex_move rfl (F135.ev 5 rfl)) fun a136 (F137 : Fr 114 a136 [(61, .int .i64 (i : Nat)), (60, .int .i64 (i : Nat)), (59, (.agg (cn .u32 (colTo L0 i)))), (7, (.pointer (some ⟨b, 0, none⟩))), (10, (.pointer (some ⟨d, 0, none⟩))), (11, .int .i64 (k : Nat)), (12, .int .i64 (i : Nat))]) => ?_
          refine st_val [0, 2, 3, 4, 5, 6, 7] F137 (d := 62) (v := (.int .i64 ((4 + i : Nat) : Int))) rfl rfl (by decide) (by simp [execOp, Act.eval, (F137.get 0 rfl), go_sem]; rw [IntKind.wrap_i64]; omega) fun a138 (F139 : Fr 114 a138 [(62, (.int .i64 ((4 + i : Nat) : Int))), (60, .int .i64 (i : Nat)), (59, (.agg (cn .u32 (colTo L0 i)))), (7, (.pointer (some ⟨b, 0, none⟩))), (10, (.pointer (some ⟨d, 0, none⟩))), (11, .int .i64 (k : Nat)), (12, .int .i64 (i : Nat))]) => ?_
          refine st_val [0, 1, 2, 3, 4, 5, 6, 7] F139 (d := 63) (v := .int .i64 (i : Nat)) rfl rfl (by decide) (ex_move rfl (F139.ev 6 rfl)) fun a140 (F141 : Fr 114 a140 [(63, .int .i64 (i : Nat)), (62, (.int .i64 ((4 + i : Nat) : Int))), (60, .int .i64 (i : Nat)), (59, (.agg (cn .u32 (colTo L0 i)))), (7, (.pointer (some ⟨b, 0, none⟩))), (10, (.pointer (some ⟨d, 0, none⟩))), (11, .int .i64 (k : Nat)), (12, .int .i64 (i : Nat))]) => ?_
          refine st_val [0, 2, 3, 4, 5, 6, 7, 8] F141 (d := 64) (v := (.int .i64 ((8 + i : Nat) : Int))) rfl rfl (by decide) (by simp [execOp, Act.eval, (F141.get 0 rfl), go_sem]; rw [IntKind.wrap_i64]; omega) fun a142 (F143 : Fr 114 a142 [(64, (.int .i64 ((8 + i : Nat) : Int))), (62, (.int .i64 ((4 + i : Nat) : Int))), (60, .int .i64 (i : Nat)), (59, (.agg (cn .u32 (colTo L0 i)))), (7, (.pointer (some ⟨b, 0, none⟩))), (10, (.pointer (some ⟨d, 0, none⟩))), (11, .int .i64 (k : Nat)), (12, .int .i64 (i : Nat))]) => ?_
          refine st_val [0, 1, 2, 3, 4, 5, 6, 7, 8] F143 (d := 65) (v := .int .i64 (i : Nat)) rfl rfl (by decide) (ex_move rfl (F143.ev 7 rfl)) fun a144 (F145 : Fr 114 a144 [(65, .int .i64 (i : Nat)), (64, (.int .i64 ((8 + i : Nat) : Int))), (62, (.int .i64 ((4 + i : Nat) : Int))), (60, .int .i64 (i : Nat)), (59, (.agg (cn .u32 (colTo L0 i)))), (7, (.pointer (some ⟨b, 0, none⟩))), (10, (.pointer (some ⟨d, 0, none⟩))), (11, .int .i64 (k : Nat)), (12, .int .i64 (i : Nat))]) => ?_
          refine st_val [0, 2, 3, 4, 5, 6, 7, 8, 9] F145 (d := 66) (v := (.int .i64 ((12 + i : Nat) : Int))) rfl rfl (by decide) (by simp [execOp, Act.eval, (F145.get 0 rfl), go_sem]; rw [IntKind.wrap_i64]; omega) fun a146 (F147 : Fr 114 a146 [(66, (.int .i64 ((12 + i : Nat) : Int))), (64, (.int .i64 ((8 + i : Nat) : Int))), (62, (.int .i64 ((4 + i : Nat) : Int))), (60, .int .i64 (i : Nat)), (59, (.agg (cn .u32 (colTo L0 i)))), (7, (.pointer (some ⟨b, 0, none⟩))), (10, (.pointer (some ⟨d, 0, none⟩))), (11, .int .i64 (k : Nat)), (12, .int .i64 (i : Nat))]) => ?_
          refine st_call [0, 6, 7, 8, 9] F147 M (d := 67) (f := 39) (args := #[.agg (cn .u32 (colTo L0 i)), .int .i64 ((i : Nat) : Int), .int .i64 ((4 + i : Nat) : Int), .int .i64 ((8 + i : Nat) : Int), .int .i64 ((12 + i : Nat) : Int)]) (v := (.agg (cn .u32 (colTo L0 (i + 1))))) rfl rfl (by decide) (by simp [Act.eval, (F147.get 4 rfl), (F147.get 3 rfl), (F147.get 2 rfl), (F147.get 1 rfl), (F147.get 0 rfl), go_sem]) (rquarter_any _ HC (i) (4 + i) (8 + i) (12 + i) (by omega) (by omega) (by omega) (by omega) (by omega) (by omega) (by omega) (by omega) (by omega) (by omega) w) fun a148 w150 (F149 : Fr 114 a148 [(67, (.agg (cn .u32 (colTo L0 (i + 1))))), (7, (.pointer (some ⟨b, 0, none⟩))), (10, (.pointer (some ⟨d, 0, none⟩))), (11, .int .i64 (k : Nat)), (12, .int .i64 (i : Nat))]) (M151 : Mem w0.heap.size w0 w150 [(d, .cells (cn .u32 (colTo L0 i)) 50), (b, .cells (cn .u32 L) 50), (bn, .cells (cn .u8 ns) 24), (bk, .cells (cn .u8 ks) 22)]) => ?_
          refine st_store F149 M151 (k := 16) (t := 10) (s := 67) (b := d) (i := 0) (j := 2) (m := 0) rfl rfl rfl rfl (by kernel_rfl) sC sC1 (cn_one _ _) rfl rfl fun w152 (M153 : Mem w0.heap.size w0 w152 [(d, .cells (cn .u32 (colTo L0 (i + 1))) 50), (b, .cells (cn .u32 L) 50), (bn, .cells (cn .u8 ns) 24), (bk, .cells (cn .u8 ks) 22)]) => ?_
          refine wpl_nil (inb_n (then_n ?_))
          refine wp_region_list ?_
          refine st_val [0, 2, 3, 4, 5] F149 (d := 57) (v := .int .i64 (i : Nat)) rfl rfl (by decide) (ex_move rfl (F149.ev 4 rfl)) fun a154 (F155 : Fr 114 a154 [(57, .int .i64 (i : Nat)), (7, (.pointer (some ⟨b, 0, none⟩))), (10, (.pointer (some ⟨d, 0, none⟩))), (11, .int .i64 (k : Nat)), (12, .int .i64 (i : Nat))]) => ?_
          refine st_val [0, 2, 3, 4, 5] F155 (d := 58) (v := (.int .i64 ((i + 1 : Nat) : Int))) rfl rfl (by decide) (by simp [execOp, Act.eval, (F155.get 0 rfl), go_sem]; rw [IntKind.wrap_i64]; omega) fun a156 (F157 : Fr 114 a156 [(58, (.int .i64 ((i + 1 : Nat) : Int))), (7, (.pointer (some ⟨b, 0, none⟩))), (10, (.pointer (some ⟨d, 0, none⟩))), (11, .int .i64 (k : Nat)), (12, .int .i64 (i : Nat))]) => ?_
          refine st_val [0, 2, 3, 4] F157 (d := 12) (v := (.int .i64 ((i + 1 : Nat) : Int))) rfl rfl (by decide) (ex_assign rfl (F157.ev 0 rfl)) fun a158 (F159 : Fr 114 a158 [(12, (.int .i64 ((i + 1 : Nat) : Int))), (7, (.pointer (some ⟨b, 0, none⟩))), (10, (.pointer (some ⟨d, 0, none⟩))), (11, .int .i64 (k : Nat))]) => ?_
          refine wpl_nil (then_n ⟨⟨i + 1, by omega, F159.pick [1, 2, 3, 0], M153⟩, ?_⟩)
          rw [cnt_of (F159.get 0 rfl), hc_i]; omega
        · obtain rfl : i = 4 := by omega
          refine wp_region_list ?_
          refine st_val [0, 1, 2, 3] F (d := 55) (v := .int .i64 (4 : Nat)) rfl rfl (by decide) (ex_move rfl (F.ev 3 rfl)) fun a160 (F161 : Fr 114 a160 [(55, .int .i64 (4 : Nat)), (7, (.pointer (some ⟨b, 0, none⟩))), (10, (.pointer (some ⟨d, 0, none⟩))), (11, .int .i64 (k : Nat))]) => ?_
          refine st_val [0, 2, 3, 4] F161 (d := 56) (v := (.bool false)) rfl rfl (by decide) (by simp [execOp, Act.eval, (F161.get 0 rfl), go_sem]) fun a162 (F163 : Fr 114 a162 [(56, (.bool false)), (7, (.pointer (some ⟨b, 0, none⟩))), (10, (.pointer (some ⟨d, 0, none⟩))), (11, .int .i64 (k : Nat))]) => ?_
          refine wpl_nil (then_n (.inr ⟨F163.ev 0 rfl, then_n ?_⟩))
          have HK4 := HK.colTo 4
          refine wp_seq (wp_region_list ?_)
          refine st_val [0, 2, 3, 4] F163 (d := 13) (v := (.int .i64 0)) rfl rfl (by decide) (ex_assign rfl rfl) fun a164 (F165 : Fr 114 a164 [(13, (.int .i64 0)), (7, (.pointer (some ⟨b, 0, none⟩))), (10, (.pointer (some ⟨d, 0, none⟩))), (11, .int .i64 (k : Nat))]) => ?_
          refine wpl_nil (then_n ?_)
          refine wp_for2 (fun a' w' => ∃ i : Nat, i ≤ 4 ∧ Fr 114 a' [(7, (.pointer (some ⟨b, 0, none⟩))), (10, (.pointer (some ⟨d, 0, none⟩))), (11, .int .i64 (k : Nat)), (13, .int .i64 (i : Nat))] ∧ Mem w0.heap.size w0 w' [(d, .cells (cn .u32 (diagTo (colTo L0 4) i)) 50), (b, .cells (cn .u32 L) 50), (bn, .cells (cn .u8 ns) 24), (bk, .cells (cn .u8 ks) 22)]) (fun a' _ => (4 - cnt 13 a').toNat) ⟨0, by omega, F165.pick [1, 2, 3, 0], M⟩ ?_
          rintro a w ⟨i, hr_i, F, M⟩
          have hc_i := cnt_of (F.get 3 rfl)
          by_cases hlt_i : i < 4
          · refine wp_region_list ?_
            refine st_val [0, 1, 2, 3, 4] F (d := 68) (v := .int .i64 (i : Nat)) rfl rfl (by decide) (ex_move rfl (F.ev 3 rfl)) fun a166 (F167 : Fr 114 a166 [(68, .int .i64 (i : Nat)), (7, (.pointer (some ⟨b, 0, none⟩))), (10, (.pointer (some ⟨d, 0, none⟩))), (11, .int .i64 (k : Nat)), (13, .int .i64 (i : Nat))]) => ?_
            refine st_val [0, 2, 3, 4, 5] F167 (d := 69) (v := (.bool true)) rfl rfl (by decide) (by simp [execOp, Act.eval, (F167.get 0 rfl), go_sem]; omega) fun a168 (F169 : Fr 114 a168 [(69, (.bool true)), (7, (.pointer (some ⟨b, 0, none⟩))), (10, (.pointer (some ⟨d, 0, none⟩))), (11, .int .i64 (k : Nat)), (13, .int .i64 (i : Nat))]) => ?_
            refine wpl_nil (then_n (.inl ⟨F169.ev 0 rfl, ?_⟩))
            have HC := HK4.diagTo i
            have sC : (cn .u32 (diagTo (colTo L0 4) i)).size = 16 := by rw [cn_size, HC.len]
            have sC1 : (cn .u32 (diagTo (colTo L0 4) (i + 1))).size = 16 := by rw [cn_size, (HK4.diagTo (i + 1)).len]
            refine wp_region_list ?_
            refine st_load [0, 2, 3, 4, 5] F169 M (k := 16) (d := 72) (t := 10) (b := d) (i := 0) (j := 2) rfl rfl rfl Try.underlying50 rfl (by kernel_rfl) sC rfl rfl (by decide) fun a170 (F171 : Fr 114 a170 [(72, (.agg (cn .u32 (diagTo (colTo L0 4) i)))), (7, (.pointer (some ⟨b, 0, none⟩))), (10, (.pointer (some ⟨d, 0, none⟩))), (11, .int .i64 (k : Nat)), (13, .int .i64 (i : Nat))]) => ?_
            refine st_val [0, 1, 2, 3, 4, 5] F171 (d := 73) (v := .int .i64 (i : Nat)) rfl rfl (by decide) (ex_move rfl (F171.ev 4 rfl)) fun a172 (F173 : Fr 114 a172 [(73, .int .i64 (i : Nat)), (72, (.agg (cn .u32 (diagTo (colTo L0 4) i)))), (7, (.pointer (some ⟨b, 0, none⟩))), (10, (.pointer (some ⟨d, 0, none⟩))), (11, .int .i64 (k : Nat)), (13, .int .i64 (i : Nat))]) => ?_
            refine st_val [0, 1, 2, 3, 4, 5, 6] F173 (d := 74) (v := .int .i64 (i : Nat)) rfl rfl (by decide) (ex_move rfl (F173.ev 5 rfl)) fun a174 (F175 : Fr 114 a174 [(74, .int .i64 (i : Nat)), (73, .int .i64 (i : Nat)), (72, (.agg (cn .u32 (diagTo (colTo L0 4) i)))), (7, (.pointer (some ⟨b, 0, none⟩))), (10, (.pointer (some ⟨d, 0, none⟩))), (11, .int .i64 (k : Nat)), (13, .int .i64 (i : Nat))]) => ?_
            refine st_val [0, 2, 3, 4, 5, 6, 7] F175 (d := 75) (v := (.int .i64 ((i + 1 : Nat) : Int))) rfl rfl (by decide) (by simp [execOp, Act.eval, (F175.get 0 rfl), go_sem]; rw [IntKind.wrap_i64]; omega) fun a176 (F177 : Fr 114 a176 [(75, (.int .i64 ((i + 1 : Nat) : Int))), (73, .int .i64 (i : Nat)), (72, (.agg (cn .u32 (diagTo (colTo L0 4) i)))), (7, (.pointer (some ⟨b, 0, none⟩))), (10, (.pointer (some ⟨d, 0, none⟩))), (11, .int .i64 (k : Nat)), (13, .int .i64 (i : Nat))]) => ?_
            refine st_val [0, 2, 3, 4, 5, 6, 7] F177 (d := 76) (v := (.int .i64 (((i + 1) % 4 : Nat) : Int))) rfl rfl (by decide) (by simp [execOp, Act.eval, (F177.get 0 rfl), go_sem]; rw [Int.tmod_eq_emod_of_nonneg (by omega)]) fun a178 (F179 : Fr 114 a178 [(76, (.int .i64 (((i + 1) % 4 : Nat) : Int))), (73, .int .i64 (i : Nat)), (72, (.agg (cn .u32 (diagTo (colTo L0 4) i)))), (7, (.pointer (some ⟨b, 0, none⟩))), (10, (.pointer (some ⟨d, 0, none⟩))), (11, .int .i64 (k : Nat)), (13, .int .i64 (i : Nat))]) => ?_
            refine st_val [0, 2, 3, 4, 5, 6, 7] F179 (d := 77) (v := (.int .i64 ((4 + (i + 1) % 4 : Nat) : Int))) rfl rfl (by decide) (by simp [execOp, Act.eval, (F179.get 0 rfl), go_sem]; rw [IntKind.wrap_i64]; omega) fun a180 (F181 : Fr 114 a180 [(77, (.int .i64 ((4 + (i + 1) % 4 : Nat) : Int))), (73, .int .i64 (i : Nat)), (72, (.agg (cn .u32 (diagTo (colTo L0 4) i)))), (7, (.pointer (some ⟨b, 0, none⟩))), (10, (.pointer (some ⟨d, 0, none⟩))), (11, .int .i64 (k : Nat)), (13, .int .i64 (i : Nat))]) => ?_
            refine st_val [0, 1, 2, 3, 4, 5, 6, 7] F181 (d := 78) (v := .int .i64 (i : Nat)) rfl rfl (by decide) (ex_move rfl (F181.ev 6 rfl)) fun a182 (F183 : Fr 114 a182 [(78, .int .i64 (i : Nat)), (77, (.int .i64 ((4 + (i + 1) % 4 : Nat) : Int))), (73, .int .i64 (i : Nat)), (72, (.agg (cn .u32 (diagTo (colTo L0 4) i)))), (7, (.pointer (some ⟨b, 0, none⟩))), (10, (.pointer (some ⟨d, 0, none⟩))), (11, .int .i64 (k : Nat)), (13, .int .i64 (i : Nat))]) => ?_
            refine st_val [0, 2, 3, 4, 5, 6, 7, 8] F183 (d := 79) (v := (.int .i64 ((i + 2 : Nat) : Int))) rfl rfl (by decide) (by simp [execOp, Act.eval, (F183.get 0 rfl), go_sem]; rw [IntKind.wrap_i64]; omega) fun a184 (F185 : Fr 114 a184 [(79, (.int .i64 ((i + 2 : Nat) : Int))), (77, (.int .i64 ((4 + (i + 1) % 4 : Nat) : Int))), (73, .int .i64 (i : Nat)), (72, (.agg (cn .u32 (diagTo (colTo L0 4) i)))), (7, (.pointer (some ⟨b, 0, none⟩))), (10, (.pointer (some ⟨d, 0, none⟩))), (11, .int .i64 (k : Nat)), (13, .int .i64 (i : Nat))]) => ?_
            refine st_val [0, 2, 3, 4, 5, 6, 7, 8] F185 (d := 80) (v := (.int .i64 (((i + 2) % 4 : Nat) : Int))) rfl rfl (by decide) (by simp [execOp, Act.eval, (F185.get 0 rfl), go_sem]; rw [Int.tmod_eq_emod_of_nonneg (by omega)]) fun a186 (F187 : Fr 114 a186 [(80, (.int .i64 (((i + 2) % 4 : Nat) : Int))), (77, (.int .i64 ((4 + (i + 1) % 4 : Nat) : Int))), (73, .int .i64 (i : Nat)), (72, (.agg (cn .u32 (diagTo (colTo L0 4) i)))), (7, (.pointer (some ⟨b, 0, none⟩))), (10, (.pointer (some ⟨d, 0, none⟩))), (11, .int .i64 (k : Nat)), (13, .int .i64 (i : Nat))]) => ?_
            refine st_val [0, 2, 3, 4, 5, 6, 7, 8] F187 (d := 81) (v := (.int .i64 ((8 + (i + 2) % 4 : Nat) : Int))) rfl rfl (by decide) (by simp [execOp, Act.eval, (F187.get 0 rfl), go_sem]; rw [IntKind.wrap_i64]; omega) fun a188 (F189 : Fr 114 a188 [(81, (.int .i64 ((8 + (i + 2) % 4 : Nat) : Int))), (77, (.int .i64 ((4 + (i + 1) % 4 : Nat) : Int))), (73, .int .i64 (i : Nat)), (72, (.agg (cn .u32 (diagTo (colTo L0 4) i)))), (7, (.pointer (some ⟨b, 0, none⟩))), (10, (.pointer (some ⟨d, 0, none⟩))), (11, .int .i64 (k : Nat)), (13, .int .i64 (i : Nat))]) => ?_
            refine st_val [0, 1, 2, 3, 4, 5, 6, 7, 8] F189 (d := 82) (v := .int .i64 (i : Nat)) rfl rfl (by decide) (ex_move rfl (F189.ev 7 rfl)) fun a190 (F191 : Fr 114 a190 [(82, .int .i64 (i : Nat)), (81, (.int .i64 ((8 + (i + 2) % 4 : Nat) : Int))), (77, (.int .i64 ((4 + (i + 1) % 4 : Nat) : Int))), (73, .int .i64 (i : Nat)), (72, (.agg (cn .u32 (diagTo (colTo L0 4) i)))), (7, (.pointer (some ⟨b, 0, none⟩))), (10, (.pointer (some ⟨d, 0, none⟩))), (11, .int .i64 (k : Nat)), (13, .int .i64 (i : Nat))]) => ?_
            refine st_val [0, 2, 3, 4, 5, 6, 7, 8, 9] F191 (d := 83) (v := (.int .i64 ((i + 3 : Nat) : Int))) rfl rfl (by decide) (by simp [execOp, Act.eval, (F191.get 0 rfl), go_sem]; rw [IntKind.wrap_i64]; omega) fun a192 (F193 : Fr 114 a192 [(83, (.int .i64 ((i + 3 : Nat) : Int))), (81, (.int .i64 ((8 + (i + 2) % 4 : Nat) : Int))), (77, (.int .i64 ((4 + (i + 1) % 4 : Nat) : Int))), (73, .int .i64 (i : Nat)), (72, (.agg (cn .u32 (diagTo (colTo L0 4) i)))), (7, (.pointer (some ⟨b, 0, none⟩))), (10, (.pointer (some ⟨d, 0, none⟩))), (11, .int .i64 (k : Nat)), (13, .int .i64 (i : Nat))]) => ?_
            refine st_val [0, 2, 3, 4, 5, 6, 7, 8, 9] F193 (d := 84) (v := (.int .i64 (((i + 3) % 4 : Nat) : Int))) rfl rfl (by decide) (by simp [execOp, Act.eval, (F193.get 0 rfl), go_sem]; rw [Int.tmod_eq_emod_of_nonneg (by omega)]) fun a194 (F195 : Fr 114 a194 [(84, (.int .i64 (((i + 3) % 4 : Nat) : Int))), (81, (.int .i64 ((8 + (i + 2) % 4 : Nat) : Int))), (77, (.int .i64 ((4 + (i + 1) % 4 : Nat) : Int))), (73, .int .i64 (i : Nat)), (72, (.agg (cn .u32 (diagTo (colTo L0 4) i)))), (7, (.pointer (some ⟨b, 0, none⟩))), (10, (.pointer (some ⟨d, 0, none⟩))), (11, .int .i64 (k : Nat)), (13, .int .i64 (i : Nat))]) => ?_
            refine st_val [0, 2, 3, 4, 5, 6, 7, 8, 9] F195 (d := 85) (v := (.int .i64 ((12 + (i + 3) % 4 : Nat) : Int))) rfl rfl (by decide) (by simp [execOp, Act.eval, (F195.get 0 rfl), go_sem]; rw [IntKind.wrap_i64]; omega) fun a196 (F197 : Fr 114 a196 [(85, (.int .i64 ((12 + (i + 3) % 4 : Nat) : Int))), (81, (.int .i64 ((8 + (i + 2) % 4 : Nat) : Int))), (77, (.int .i64 ((4 + (i + 1) % 4 : Nat) : Int))), (73, .int .i64 (i : Nat)), (72, (.agg (cn .u32 (diagTo (colTo L0 4) i)))), (7, (.pointer (some ⟨b, 0, none⟩))), (10, (.pointer (some ⟨d, 0, none⟩))), (11, .int .i64 (k : Nat)), (13, .int .i64 (i : Nat))]) => ?_
            refine st_call [0, 6, 7, 8, 9] F197 M (d := 86) (f := 39) (args := #[.agg (cn .u32 (diagTo (colTo L0 4) i)), .int .i64 ((i : Nat) : Int), .int .i64 ((4 + (i + 1) % 4 : Nat) : Int), .int .i64 ((8 + (i + 2) % 4 : Nat) : Int), .int .i64 ((12 + (i + 3) % 4 : Nat) : Int)]) (v := (.agg (cn .u32 (diagTo (colTo L0 4) (i + 1))))) rfl rfl (by decide) (by simp [Act.eval, (F197.get 4 rfl), (F197.get 3 rfl), (F197.get 2 rfl), (F197.get 1 rfl), (F197.get 0 rfl), go_sem]) (rquarter_any _ HC (i) (4 + (i + 1) % 4) (8 + (i + 2) % 4) (12 + (i + 3) % 4) (by omega) (by omega) (by omega) (by omega) (by omega) (by omega) (by omega) (by omega) (by omega) (by omega) w) fun a198 w200 (F199 : Fr 114 a198 [(86, (.agg (cn .u32 (diagTo (colTo L0 4) (i + 1))))), (7, (.pointer (some ⟨b, 0, none⟩))), (10, (.pointer (some ⟨d, 0, none⟩))), (11, .int .i64 (k : Nat)), (13, .int .i64 (i : Nat))]) (M201 : Mem w0.heap.size w0 w200 [(d, .cells (cn .u32 (diagTo (colTo L0 4) i)) 50), (b, .cells (cn .u32 L) 50), (bn, .cells (cn .u8 ns) 24), (bk, .cells (cn .u8 ks) 22)]) => ?_
            refine st_store F199 M201 (k := 16) (t := 10) (s := 86) (b := d) (i := 0) (j := 2) (m := 0) rfl rfl rfl rfl (by kernel_rfl) sC sC1 (cn_one _ _) rfl rfl fun w202 (M203 : Mem w0.heap.size w0 w202 [(d, .cells (cn .u32 (diagTo (colTo L0 4) (i + 1))) 50), (b, .cells (cn .u32 L) 50), (bn, .cells (cn .u8 ns) 24), (bk, .cells (cn .u8 ks) 22)]) => ?_
            refine wpl_nil (inb_n (then_n ?_))
            refine wp_region_list ?_
            refine st_val [0, 2, 3, 4, 5] F199 (d := 70) (v := .int .i64 (i : Nat)) rfl rfl (by decide) (ex_move rfl (F199.ev 4 rfl)) fun a204 (F205 : Fr 114 a204 [(70, .int .i64 (i : Nat)), (7, (.pointer (some ⟨b, 0, none⟩))), (10, (.pointer (some ⟨d, 0, none⟩))), (11, .int .i64 (k : Nat)), (13, .int .i64 (i : Nat))]) => ?_
            refine st_val [0, 2, 3, 4, 5] F205 (d := 71) (v := (.int .i64 ((i + 1 : Nat) : Int))) rfl rfl (by decide) (by simp [execOp, Act.eval, (F205.get 0 rfl), go_sem]; rw [IntKind.wrap_i64]; omega) fun a206 (F207 : Fr 114 a206 [(71, (.int .i64 ((i + 1 : Nat) : Int))), (7, (.pointer (some ⟨b, 0, none⟩))), (10, (.pointer (some ⟨d, 0, none⟩))), (11, .int .i64 (k : Nat)), (13, .int .i64 (i : Nat))]) => ?_
            refine st_val [0, 2, 3, 4] F207 (d := 13) (v := (.int .i64 ((i + 1 : Nat) : Int))) rfl rfl (by decide) (ex_assign rfl (F207.ev 0 rfl)) fun a208 (F209 : Fr 114 a208 [(13, (.int .i64 ((i + 1 : Nat) : Int))), (7, (.pointer (some ⟨b, 0, none⟩))), (10, (.pointer (some ⟨d, 0, none⟩))), (11, .int .i64 (k : Nat))]) => ?_
            refine wpl_nil (then_n ⟨⟨i + 1, by omega, F209.pick [1, 2, 3, 0], M203⟩, ?_⟩)
            rw [cnt_of (F209.get 0 rfl), hc_i]; omega
          · obtain rfl : i = 4 := by omega
            refine wp_region_list ?_
            refine st_val [0, 1, 2, 3] F (d := 68) (v := .int .i64 (4 : Nat)) rfl rfl (by decide) (ex_move rfl (F.ev 3 rfl)) fun a210 (F211 : Fr 114 a210 [(68, .int .i64 (4 : Nat)), (7, (.pointer (some ⟨b, 0, none⟩))), (10, (.pointer (some ⟨d, 0, none⟩))), (11, .int .i64 (k : Nat))]) => ?_
            refine st_val [0, 2, 3, 4] F211 (d := 69) (v := (.bool false)) rfl rfl (by decide) (by simp [execOp, Act.eval, (F211.get 0 rfl), go_sem]) fun a212 (F213 : Fr 114 a212 [(69, (.bool false)), (7, (.pointer (some ⟨b, 0, none⟩))), (10, (.pointer (some ⟨d, 0, none⟩))), (11, .int .i64 (k : Nat))]) => ?_
            refine wpl_nil (then_n (.inr ⟨F213.ev 0 rfl, inb_n (then_n ?_)⟩))
            rw [dbl_eq, ← HD] at M
            refine wp_region_list ?_
            refine st_val [0, 2, 3, 4] F213 (d := 53) (v := .int .i64 (k : Nat)) rfl rfl (by decide) (ex_move rfl (F213.ev 3 rfl)) fun a214 (F215 : Fr 114 a214 [(53, .int .i64 (k : Nat)), (7, (.pointer (some ⟨b, 0, none⟩))), (10, (.pointer (some ⟨d, 0, none⟩))), (11, .int .i64 (k : Nat))]) => ?_
            refine st_val [0, 2, 3, 4] F215 (d := 54) (v := (.int .i64 ((k + 1 : Nat) : Int))) rfl rfl (by decide) (by simp [execOp, Act.eval, (F215.get 0 rfl), go_sem]; rw [IntKind.wrap_i64]; omega) fun a216 (F217 : Fr 114 a216 [(54, (.int .i64 ((k + 1 : Nat) : Int))), (7, (.pointer (some ⟨b, 0, none⟩))), (10, (.pointer (some ⟨d, 0, none⟩))), (11, .int .i64 (k : Nat))]) => ?_
            refine st_val [0, 2, 3] F217 (d := 11) (v := (.int .i64 ((k + 1 : Nat) : Int))) rfl rfl (by decide) (ex_assign rfl (F217.ev 0 rfl)) fun a218 (F219 : Fr 114 a218 [(11, (.int .i64 ((k + 1 : Nat) : Int))), (7, (.pointer (some ⟨b, 0, none⟩))), (10, (.pointer (some ⟨d, 0, none⟩)))]) => ?_
            refine wpl_nil (then_n ⟨⟨k + 1, by omega, F219.pick [1, 2, 0], M⟩, ?_⟩)
            rw [cnt_of (F219.get 0 rfl), hc_k]; omega
      · obtain rfl : k = 10 := by omega
        refine wp_region_list ?_
        refine st_val [0, 1, 2] F (d := 51) (v := .int .i64 (10 : Nat)) rfl rfl (by decide) (ex_move rfl (F.ev 2 rfl)) fun a220 (F221 : Fr 114 a220 [(51, .int .i64 (10 : Nat)), (7, (.pointer (some ⟨b, 0, none⟩))), (10, (.pointer (some ⟨d, 0, none⟩)))]) => ?_
        refine st_val [0, 2, 3] F221 (d := 52) (v := (.bool false)) rfl rfl (by decide) (by simp [execOp, Act.eval, (F221.get 0 rfl), go_sem]) fun a222 (F223 : Fr 114 a222 [(52, (.bool false)), (7, (.pointer (some ⟨b, 0, none⟩))), (10, (.pointer (some ⟨d, 0, none⟩)))]) => ?_
        refine wpl_nil (then_n (.inr ⟨F223.ev 0 rfl, then_n ?_⟩))
        have HS := HL.dblN 10
        generalize dblN L 10 = S at *
        refine wp_seq (wp_region_list ?_)
        refine st_val [0, 2, 3] F223 (d := 14) (v := (.slice none 0 0)) rfl rfl (by decide) (ex_assign rfl rfl) fun a224 (F225 : Fr 114 a224 [(14, (.slice none 0 0)), (7, (.pointer (some ⟨b, 0, none⟩))), (10, (.pointer (some ⟨d, 0, none⟩)))]) => ?_
        refine wpl_nil (then_n ?_)
        refine wp_seq (wp_seq (wp_region_list ?_))
        refine st_val [0, 1, 2, 3] F225 (d := 15) (v := (.int .i64 0)) rfl rfl (by decide) (ex_assign rfl rfl) fun a226 (F227 : Fr 114 a226 [(15, (.int .i64 0)), (14, (.slice none 0 0)), (7, (.pointer (some ⟨b, 0, none⟩))), (10, (.pointer (some ⟨d, 0, none⟩)))]) => ?_
        refine wpl_nil (then_n ?_)
        refine wp_for2 (fun a' w' => ∃ i : Nat, ∃ v : Value, i ≤ 16 ∧ Fr 114 a' [(7, (.pointer (some ⟨b, 0, none⟩))), (10, (.pointer (some ⟨d, 0, none⟩))), (15, .int .i64 (i : Nat)), (14, v)] ∧ Mem w0.heap.size w0 w' [(d, .cells (cn .u32 S) 50), (b, .cells (cn .u32 L) 50), (bn, .cells (cn .u8 ns) 24), (bk, .cells (cn .u8 ks) 22)] ∧ RowN w0 w' [(d, .cells (cn .u32 S) 50), (b, .cells (cn .u32 L) 50), (bn, .cells (cn .u8 ns) 24), (bk, .cells (cn .u8 ks) 22)] v 5 .u8 (outTo S L i)) (fun a' _ => (16 - cnt 15 a').toNat) ⟨0, .slice none 0 0, by omega, F227.pick [2, 3, 0, 1], M, RowN.nil⟩ ?_
        rintro a w ⟨i, v, hr_i, F, M, R⟩
        have hc_i := cnt_of (F.get 2 rfl)
        by_cases hlt_i : i < 16
        · refine wp_region_list ?_
          refine st_val [0, 1, 2, 3, 4] F (d := 87) (v := .int .i64 (i : Nat)) rfl rfl (by decide) (ex_move rfl (F.ev 2 rfl)) fun a228 (F229 : Fr 114 a228 [(87, .int .i64 (i : Nat)), (7, (.pointer (some ⟨b, 0, none⟩))), (10, (.pointer (some ⟨d, 0, none⟩))), (15, .int .i64 (i : Nat)), (14, v)]) => ?_
          refine st_val [0, 2, 3, 4, 5] F229 (d := 88) (v := (.bool true)) rfl rfl (by decide) (by simp [execOp, Act.eval, (F229.get 0 rfl), go_sem]; omega) fun a230 (F231 : Fr 114 a230 [(88, (.bool true)), (7, (.pointer (some ⟨b, 0, none⟩))), (10, (.pointer (some ⟨d, 0, none⟩))), (15, .int .i64 (i : Nat)), (14, v)]) => ?_
          refine wpl_nil (then_n (.inl ⟨F231.ev 0 rfl, ?_⟩))
          have gS := cn_get .u32 S i (by rw [HS.len]; exact hlt_i)
          have gL := cn_get .u32 L i (by rw [HL.len]; exact hlt_i)
          have sS := sumI (S.getD i 0) (L.getD i 0)
          have eO1 : outTo S L (i + 1) = outTo S L i ++ [sumW S L i % 256, sumW S L i / 256 % 256, sumW S L i / 65536 % 256, sumW S L i / 16777216 % 256] := rfl
          have lO := outTo_len S L i
          have eS : sumW S L i = (S.getD i 0 + L.getD i 0) % 4294967296 := rfl
          rw [← eS] at sS
          clear eS
          generalize sumW S L i = s_ at *
          generalize S.getD i 0 = x_ at *
          generalize L.getD i 0 = y_ at *
          refine wp_seq (region_list w.heap.size (C := fun w' => Below w.heap.size w w') [.inl (.int .i64 (i : Nat)), .inl (.pointer (some ⟨d, i, none⟩)), .inl (.int .u32 (x_ : Nat)), .inl (.int .i64 (i : Nat)), .inl (.pointer (some ⟨b, i, none⟩)), .inl (.int .u32 (y_ : Nat)), .inl (.int .u32 (s_ : Nat)), .inl (.int .u32 (s_ : Nat))] [] (by kernel_rfl) (by rw [F231.size]; kernel_rfl) ⟨rfl, rfl, rfl, Nat.le_refl _, fun _ _ => rfl⟩ (fun w1 w2 h1 h2 => h1.trans (h2.mono h1.size)) (fun i h => by simp at h) ?_ ?_)
          · refine ⟨?_, ?_, ?_, ?_, ?_, ?_, ?_, ?_, trivial⟩
            · intro s v hC hk hd
              have h15 : s.tmps[15]? = some (.int .i64 (i : Nat)) := (hk 15 (by kernel_rfl)).trans (F231.get 3 rfl)
              exact ok_value rfl (ex_move rfl (eval_tmp h15))
            · intro s v hC hk hd
              have h10 : s.tmps[10]? = some ((.pointer (some ⟨d, 0, none⟩))) := (hk 10 (by kernel_rfl)).trans (F231.get 2 rfl)
              have h91 : s.tmps[91]? = some (.int .i64 (i : Nat)) := hd 0 (by kernel_rfl)
              exact ok_value rfl (ex_idx (i := i) rfl h10 (eval_tmp h91) Try.underlying50 hlt_i (by kernel_rfl))
            · intro s v hC hk hd
              have h92 : s.tmps[92]? = some (.pointer (some ⟨d, i, none⟩)) := hd 1 (by kernel_rfl)
              exact ok_value rfl (ex_load1 rfl h92 ((M.keep hC).get 0 rfl) gS Try.underlying45 rfl)
            · intro s v hC hk hd
              have h15 : s.tmps[15]? = some (.int .i64 (i : Nat)) := (hk 15 (by kernel_rfl)).trans (F231.get 3 rfl)
              exact ok_value rfl (ex_move rfl (eval_tmp h15))
            · intro s v hC hk hd
              have h7 : s.tmps[7]? = some ((.pointer (some ⟨b, 0, none⟩))) := (hk 7 (by kernel_rfl)).trans (F231.get 1 rfl)
              have h94 : s.tmps[94]? = some (.int .i64 (i : Nat)) := hd 3 (by kernel_rfl)
              exact ok_value rfl (ex_idx (i := i) rfl h7 (eval_tmp h94) Try.underlying50 hlt_i (by kernel_rfl))
            · intro s v hC hk hd
              have h95 : s.tmps[95]? = some (.pointer (some ⟨b, i, none⟩)) := hd 4 (by kernel_rfl)
              exact ok_value rfl (ex_load1 rfl h95 ((M.keep hC).get 1 rfl) gL Try.underlying45 rfl)
            · intro s v hC hk hd
              have h93 : s.tmps[93]? = some (.int .u32 (x_ : Nat)) := hd 2 (by kernel_rfl)
              have h96 : s.tmps[96]? = some (.int .u32 (y_ : Nat)) := hd 5 (by kernel_rfl)
              exact ok_value rfl (by simp [execOp, Act.eval, h93, h96, go_sem]; rw [IntKind.wrap_u32']; exact sS)
            · intro s v hC hk hd
              have h97 : s.tmps[97]? = some (.int .u32 (s_ : Nat)) := hd 6 (by kernel_rfl)
              exact ok_value rfl (ex_assign rfl (eval_tmp h97))
          · intro nb w232 hC hf hne
            have M235 := M.keep hC
            refine fr_all [0, 9, 10, 11, 12] F231 (by kernel_rfl) fun a233 (F234 : Fr 114 a233 [(16, (.int .u32 (s_ : Nat))), (7, (.pointer (some ⟨b, 0, none⟩))), (10, (.pointer (some ⟨d, 0, none⟩))), (15, .int .i64 (i : Nat)), (14, v)]) => ?_
            have R1 := R.keep hC
            refine wpl_nil (then_n ?_)
            refine wp_region_list ?_
            refine st_val [0, 1, 2, 3, 4, 5] F234 (d := 98) (v := v) rfl rfl (by decide) (ex_move rfl (F234.ev 4 rfl)) fun a236 (F237 : Fr 114 a236 [(98, v), (16, (.int .u32 (s_ : Nat))), (7, (.pointer (some ⟨b, 0, none⟩))), (10, (.pointer (some ⟨d, 0, none⟩))), (15, .int .i64 (i : Nat)), (14, v)]) => ?_
            refine st_val [0, 1, 2, 3, 4, 5, 6] F237 (d := 99) (v := (.int .u32 (s_ : Nat))) rfl rfl (by decide) (ex_move rfl (F237.ev 1 rfl)) fun a238 (F239 : Fr 114 a238 [(99, (.int .u32 (s_ : Nat))), (98, v), (16, (.int .u32 (s_ : Nat))), (7, (.pointer (some ⟨b, 0, none⟩))), (10, (.pointer (some ⟨d, 0, none⟩))), (15, .int .i64 (i : Nat)), (14, v)]) => ?_
            refine st_val [0, 2, 3, 4, 5, 6, 7] F239 (d := 100) (v := (.int .u8 ((s_) % 256 : Nat))) rfl rfl (by decide) (by simp [execOp, Act.eval, (F239.get 0 rfl), go_sem]; rw [wrapB]) fun a240 (F241 : Fr 114 a240 [(100, (.int .u8 ((s_) % 256 : Nat))), (98, v), (16, (.int .u32 (s_ : Nat))), (7, (.pointer (some ⟨b, 0, none⟩))), (10, (.pointer (some ⟨d, 0, none⟩))), (15, .int .i64 (i : Nat)), (14, v)]) => ?_
            refine st_val [0, 1, 2, 3, 4, 5, 6, 7] F241 (d := 101) (v := (.int .u32 (s_ : Nat))) rfl rfl (by decide) (ex_move rfl (F241.ev 2 rfl)) fun a242 (F243 : Fr 114 a242 [(101, (.int .u32 (s_ : Nat))), (100, (.int .u8 ((s_) % 256 : Nat))), (98, v), (16, (.int .u32 (s_ : Nat))), (7, (.pointer (some ⟨b, 0, none⟩))), (10, (.pointer (some ⟨d, 0, none⟩))), (15, .int .i64 (i : Nat)), (14, v)]) => ?_
            refine st_val [0, 2, 3, 4, 5, 6, 7, 8] F243 (d := 102) (v := (.int .u32 (s_ / 256 : Nat))) rfl rfl (by decide) (by simp [execOp, Act.eval, (F243.get 0 rfl), go_sem]) fun a244 (F245 : Fr 114 a244 [(102, (.int .u32 (s_ / 256 : Nat))), (100, (.int .u8 ((s_) % 256 : Nat))), (98, v), (16, (.int .u32 (s_ : Nat))), (7, (.pointer (some ⟨b, 0, none⟩))), (10, (.pointer (some ⟨d, 0, none⟩))), (15, .int .i64 (i : Nat)), (14, v)]) => ?_
            refine st_val [0, 2, 3, 4, 5, 6, 7, 8] F245 (d := 103) (v := (.int .u8 ((s_ / 256) % 256 : Nat))) rfl rfl (by decide) (by simp [execOp, Act.eval, (F245.get 0 rfl), go_sem]; rw [wrapB]) fun a246 (F247 : Fr 114 a246 [(103, (.int .u8 ((s_ / 256) % 256 : Nat))), (100, (.int .u8 ((s_) % 256 : Nat))), (98, v), (16, (.int .u32 (s_ : Nat))), (7, (.pointer (some ⟨b, 0, none⟩))), (10, (.pointer (some ⟨d, 0, none⟩))), (15, .int .i64 (i : Nat)), (14, v)]) => ?_
            refine st_val [0, 1, 2, 3, 4, 5, 6, 7, 8] F247 (d := 104) (v := (.int .u32 (s_ : Nat))) rfl rfl (by decide) (ex_move rfl (F247.ev 3 rfl)) fun a248 (F249 : Fr 114 a248 [(104, (.int .u32 (s_ : Nat))), (103, (.int .u8 ((s_ / 256) % 256 : Nat))), (100, (.int .u8 ((s_) % 256 : Nat))), (98, v), (16, (.int .u32 (s_ : Nat))), (7, (.pointer (some ⟨b, 0, none⟩))), (10, (.pointer (some ⟨d, 0, none⟩))), (15, .int .i64 (i : Nat)), (14, v)]) => ?_
            refine st_val [0, 2, 3, 4, 5, 6, 7, 8, 9] F249 (d := 105) (v := (.int .u32 (s_ / 65536 : Nat))) rfl rfl (by decide) (by simp [execOp, Act.eval, (F249.get 0 rfl), go_sem]) fun a250 (F251 : Fr 114 a250 [(105, (.int .u32 (s_ / 65536 : Nat))), (103, (.int .u8 ((s_ / 256) % 256 : Nat))), (100, (.int .u8 ((s_) % 256 : Nat))), (98, v), (16, (.int .u32 (s_ : Nat))), (7, (.pointer (some ⟨b, 0, none⟩))), (10, (.pointer (some ⟨d, 0, none⟩))), (15, .int .i64 (i : Nat)), (14, v)]) => ?_
            refine st_val [0, 2, 3, 4, 5, 6, 7, 8, 9] F251 (d := 106) (v := (.int .u8 ((s_ / 65536) % 256 : Nat))) rfl rfl (by decide) (by simp [execOp, Act.eval, (F251.get 0 rfl), go_sem]; rw [wrapB]) fun a252 (F253 : Fr 114 a252 [(106, (.int .u8 ((s_ / 65536) % 256 : Nat))), (103, (.int .u8 ((s_ / 256) % 256 : Nat))), (100, (.int .u8 ((s_) % 256 : Nat))), (98, v), (16, (.int .u32 (s_ : Nat))), (7, (.pointer (some ⟨b, 0, none⟩))), (10, (.pointer (some ⟨d, 0, none⟩))), (15, .int .i64 (i : Nat)), (14, v)]) => ?_
            refine st_val [0, 1, 2, 3, 4, 6, 7, 8, 9] F253 (d := 107) (v := (.int .u32 (s_ : Nat))) rfl rfl (by decide) (ex_move rfl (F253.ev 4 rfl)) fun a254 (F255 : Fr 114 a254 [(107, (.int .u32 (s_ : Nat))), (106, (.int .u8 ((s_ / 65536) % 256 : Nat))), (103, (.int .u8 ((s_ / 256) % 256 : Nat))), (100, (.int .u8 ((s_) % 256 : Nat))), (98, v), (7, (.pointer (some ⟨b, 0, none⟩))), (10, (.pointer (some ⟨d, 0, none⟩))), (15, .int .i64 (i : Nat)), (14, v)]) => ?_
            refine st_val [0, 2, 3, 4, 5, 6, 7, 8, 9] F255 (d := 108) (v := (.int .u32 (s_ / 16777216 : Nat))) rfl rfl (by decide) (by simp [execOp, Act.eval, (F255.get 0 rfl), go_sem]) fun a256 (F257 : Fr 114 a256 [(108, (.int .u32 (s_ / 16777216 : Nat))), (106, (.int .u8 ((s_ / 65536) % 256 : Nat))), (103, (.int .u8 ((s_ / 256) % 256 : Nat))), (100, (.int .u8 ((s_) % 256 : Nat))), (98, v), (7, (.pointer (some ⟨b, 0, none⟩))), (10, (.pointer (some ⟨d, 0, none⟩))), (15, .int .i64 (i : Nat)), (14, v)]) => ?_
            refine st_val [0, 2, 3, 4, 5, 6, 7, 8, 9] F257 (d := 109) (v := (.int .u8 ((s_ / 16777216) % 256 : Nat))) rfl rfl (by decide) (by simp [execOp, Act.eval, (F257.get 0 rfl), go_sem]; rw [wrapB]) fun a258 (F259 : Fr 114 a258 [(109, (.int .u8 ((s_ / 16777216) % 256 : Nat))), (106, (.int .u8 ((s_ / 65536) % 256 : Nat))), (103, (.int .u8 ((s_ / 256) % 256 : Nat))), (100, (.int .u8 ((s_) % 256 : Nat))), (98, v), (7, (.pointer (some ⟨b, 0, none⟩))), (10, (.pointer (some ⟨d, 0, none⟩))), (15, .int .i64 (i : Nat)), (14, v)]) => ?_
            refine st_allocB [0, 5, 6, 7, 8, 9] F259 M235 (d := 110) (.cells (cn .u8 [s_ % 256, s_ / 256 % 256, s_ / 65536 % 256, s_ / 16777216 % 256]) 5) (fun b => .slice (some ⟨b, 0, none⟩) 4 4) rfl rfl (by decide) (by simp [execOp, Act.eval, (F259.get 3 rfl), (F259.get 2 rfl), (F259.get 1 rfl), (F259.get 0 rfl), go_sem, cn]) fun a90 w90 bq (F90 : Fr 114 a90 [(110, (.slice (some ⟨bq, 0, none⟩) 4 4)), (98, v), (7, (.pointer (some ⟨b, 0, none⟩))), (10, (.pointer (some ⟨d, 0, none⟩))), (15, .int .i64 (i : Nat)), (14, v)]) (M90 : Mem w0.heap.size w0 w90 [(d, .cells (cn .u32 S) 50), (b, .cells (cn .u32 L) 50), (bn, .cells (cn .u8 ns) 24), (bk, .cells (cn .u8 ks) 22)]) hB90 hq90 => ?_
            have R2 := R1.keep hB90
            refine st_append [0, 3, 4, 5, 6] F90 M90 R2 (d := 111) (s := 98) (x := 110) (j := 1) (j' := 0) (bb := 1) rfl rfl rfl hq90 rfl (by decide) Try.underlying39 (by kernel_rfl) (by rw [lO]; simp only [maxLen]; omega) (by rw [lO]; omega) rfl rfl (by decide) fun a91 w91 vv (F91 : Fr 114 a91 [(111, vv), (7, (.pointer (some ⟨b, 0, none⟩))), (10, (.pointer (some ⟨d, 0, none⟩))), (15, .int .i64 (i : Nat)), (14, v)]) (M91 : Mem w0.heap.size w0 w91 [(d, .cells (cn .u32 S) 50), (b, .cells (cn .u32 L) 50), (bn, .cells (cn .u8 ns) 24), (bk, .cells (cn .u8 ks) 22)]) R3 => ?_
            have RR : RowN w0 w91 [(d, .cells (cn .u32 S) 50), (b, .cells (cn .u32 L) 50), (bn, .cells (cn .u8 ns) 24), (bk, .cells (cn .u8 ks) 22)] vv 5 .u8 (outTo S L (i + 1)) := by rw [eO1]; exact R3
            refine st_val [0, 2, 3, 4] F91 (d := 14) (v := vv) rfl rfl (by decide) (ex_assign rfl (F91.ev 0 rfl)) fun a260 (F261 : Fr 114 a260 [(14, vv), (7, (.pointer (some ⟨b, 0, none⟩))), (10, (.pointer (some ⟨d, 0, none⟩))), (15, .int .i64 (i : Nat))]) => ?_
            refine wpl_nil (inb_n (then_n ?_))
            refine wp_region_list ?_
            refine st_val [0, 1, 2, 3, 4] F261 (d := 89) (v := .int .i64 (i : Nat)) rfl rfl (by decide) (ex_move rfl (F261.ev 3 rfl)) fun a262 (F263 : Fr 114 a262 [(89, .int .i64 (i : Nat)), (14, vv), (7, (.pointer (some ⟨b, 0, none⟩))), (10, (.pointer (some ⟨d, 0, none⟩))), (15, .int .i64 (i : Nat))]) => ?_
            refine st_val [0, 2, 3, 4, 5] F263 (d := 90) (v := (.int .i64 ((i + 1 : Nat) : Int))) rfl rfl (by decide) (by simp [execOp, Act.eval, (F263.get 0 rfl), go_sem]; rw [IntKind.wrap_i64]; omega) fun a264 (F265 : Fr 114 a264 [(90, (.int .i64 ((i + 1 : Nat) : Int))), (14, vv), (7, (.pointer (some ⟨b, 0, none⟩))), (10, (.pointer (some ⟨d, 0, none⟩))), (15, .int .i64 (i : Nat))]) => ?_
            refine st_val [0, 2, 3, 4] F265 (d := 15) (v := (.int .i64 ((i + 1 : Nat) : Int))) rfl rfl (by decide) (ex_assign rfl (F265.ev 0 rfl)) fun a266 (F267 : Fr 114 a266 [(15, (.int .i64 ((i + 1 : Nat) : Int))), (14, vv), (7, (.pointer (some ⟨b, 0, none⟩))), (10, (.pointer (some ⟨d, 0, none⟩)))]) => ?_
            refine wpl_nil (then_n ⟨⟨i + 1, vv, by omega, F267.pick [2, 3, 0, 1], M91, RR⟩, ?_⟩)
            rw [cnt_of (F267.get 0 rfl), hc_i]; omega
        · obtain rfl : i = 16 := by omega
          refine wp_region_list ?_
          refine st_val [0, 1, 2, 4] F (d := 87) (v := .int .i64 (16 : Nat)) rfl rfl (by decide) (ex_move rfl (F.ev 2 rfl)) fun a268 (F269 : Fr 114 a268 [(87, .int .i64 (16 : Nat)), (7, (.pointer (some ⟨b, 0, none⟩))), (10, (.pointer (some ⟨d, 0, none⟩))), (14, v)]) => ?_
          refine st_val [0, 2, 3, 4] F269 (d := 88) (v := (.bool false)) rfl rfl (by decide) (by simp [execOp, Act.eval, (F269.get 0 rfl), go_sem]) fun a270 (F271 : Fr 114 a270 [(88, (.bool false)), (7, (.pointer (some ⟨b, 0, none⟩))), (10, (.pointer (some ⟨d, 0, none⟩))), (14, v)]) => ?_
          refine wpl_nil (then_n (.inr ⟨F271.ev 0 rfl, then_n ?_⟩))
          rw [eO] at R
          refine wp_seq (wp_region_list ?_)
          refine st_val [0] F271 (d := 112) (v := v) rfl rfl (by decide) (ex_move rfl (F271.ev 3 rfl)) fun a272 (F273 : Fr 114 a272 [(112, v)]) => ?_
          refine st_val [0] F273 (d := 113) (v := (.string (bs (blockW L)))) rfl rfl (by decide) (ex_strRow R rfl (F273.get 0 rfl) Try.underlying39 Try.underlying5 Try.underlying9) fun a274 (F275 : Fr 114 a274 [(113, (.string (bs (blockW L))))]) => ?_
          refine st_val [0] F275 (d := 6) (v := (.string (bs (blockW L)))) rfl rfl (by decide) (ex_assign rfl (F275.ev 0 rfl)) fun a276 (F277 : Fr 114 a276 [(6, (.string (bs (blockW L))))]) => ?_
          refine wpl_nil (then_n ?_)
          exact wp_ret (ret_fr F277 0 Try.results24 rfl ⟨rfl, M.below⟩)

end Go.Proofs.Ytcmoohkkaibgkaa
