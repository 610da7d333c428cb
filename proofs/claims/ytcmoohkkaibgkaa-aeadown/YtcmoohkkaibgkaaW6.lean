/- The walk of Mask. -/
import Derived.Test.YtcmoohkkaibgkaaW5
namespace Go.Proofs.Ytcmoohkkaibgkaa
open Go.RowKit

set_option maxRecDepth 100000 in
set_option maxHeartbeats 1000000 in
theorem Mask_any (ks ns X : List Nat) (c : Nat) (hks : Bytes 32 ks) (hc : c < 4294967296) (hns : Bytes 12 ns) (hX : ∀ i, X.getD i 0 < 256) (w0 : World) :
    Calls Try.prog 14 #[.agg (cn .u8 ks), .int .u32 (c : Nat), .agg (cn .u8 ns), .string (bs X)] w0 fun e w' => e = .returned (.string (bs (maskN ks c ns X))) ∧ Below w0.heap.size w0 w' := by
  have KL := laid_any ks ns c hks hns
  have sk : (cn .u8 ks).size = 32 := by rw [cn_size, hks.len]
  have sn : (cn .u8 ns).size = 12 := by rw [cn_size, hns.len]
  have sL : (cn .u32 (laid ks c ns)).size = 16 := by rw [cn_size]; rfl
  refine enter_fr Try.func14 rfl Try.ntmps14 (by simp) fun a (F : Fr 37 a [(0, .agg (cn .u8 ks)), (1, .int .u32 (c : Nat)), (2, .agg (cn .u8 ns)), (3, .string (bs X))]) => ?_
  have M := Mem.start w0
  refine wp_seq (wp_region_list ?_)
  refine st_alloc [0, 2, 3, 4] F M (d := 4) (.cells (cn .u8 ks) 23) (fun b => .pointer (some ⟨b, 0, none⟩)) rfl rfl (by decide) (by simp [execOp, Act.eval, (F.get 0 rfl), go_sem]) fun a1 w3 bk (F2 : Fr 37 a1 [(4, (.pointer (some ⟨bk, 0, none⟩))), (1, .int .u32 (c : Nat)), (2, .agg (cn .u8 ns)), (3, .string (bs X))]) (M4 : Mem w0.heap.size w0 w3 [(bk, .cells (cn .u8 ks) 23)]) => ?_
  refine st_alloc [0, 1, 2, 4] F2 M4 (d := 6) (.cells (cn .u8 ns) 25) (fun b => .pointer (some ⟨b, 0, none⟩)) rfl rfl (by decide) (by simp [execOp, Act.eval, (F2.get 2 rfl), go_sem]) fun a5 w7 bn (F6 : Fr 37 a5 [(6, (.pointer (some ⟨bn, 0, none⟩))), (4, (.pointer (some ⟨bk, 0, none⟩))), (1, .int .u32 (c : Nat)), (3, .string (bs X))]) (M8 : Mem w0.heap.size w0 w7 [(bn, .cells (cn .u8 ns) 25), (bk, .cells (cn .u8 ks) 23)]) => ?_
  refine st_val [1, 2, 3, 4] F6 (d := 8) (v := (.string { data := #[] })) rfl rfl (by decide) (ex_assign rfl rfl) fun a9 (F10 : Fr 37 a9 [(6, (.pointer (some ⟨bn, 0, none⟩))), (4, (.pointer (some ⟨bk, 0, none⟩))), (1, .int .u32 (c : Nat)), (3, .string (bs X))]) => ?_
  refine wpl_nil (then_n ?_)
  refine wp_seq (wp_region_list ?_)
  refine st_val [0, 1, 2, 3] F10 (d := 12) (v := .string (bs X)) rfl rfl (by decide) (ex_move rfl (F10.ev 3 rfl)) fun a11 (F12 : Fr 37 a11 [(12, .string (bs X)), (6, (.pointer (some ⟨bn, 0, none⟩))), (4, (.pointer (some ⟨bk, 0, none⟩))), (1, .int .u32 (c : Nat))]) => ?_
  refine st_bytes [0, 2, 3, 4] F12 M8 (d := 13) (t := 12) (j := 0) hX rfl rfl Try.underlying9 Try.underlying39 Try.underlying5 rfl rfl (by decide) fun a99 w99 bo cap hcap (F99 : Fr 37 a99 [(13, .slice (some ⟨bo, 0, none⟩) X.length cap), (6, (.pointer (some ⟨bn, 0, none⟩))), (4, (.pointer (some ⟨bk, 0, none⟩))), (1, .int .u32 (c : Nat))]) (M99 : Mem w0.heap.size w0 w99 [(bo, .cells (cn .u8 (X ++ List.replicate (cap - X.length) 0)) 5 (cap, cap + 1)), (bn, .cells (cn .u8 ns) 25), (bk, .cells (cn .u8 ks) 23)]) => ?_
  refine st_val [0, 2, 3, 4] F99 (d := 9) (v := .slice (some ⟨bo, 0, none⟩) X.length cap) rfl rfl (by decide) (ex_assign rfl (F99.ev 0 rfl)) fun a13 (F14 : Fr 37 a13 [(9, .slice (some ⟨bo, 0, none⟩) X.length cap), (6, (.pointer (some ⟨bn, 0, none⟩))), (4, (.pointer (some ⟨bk, 0, none⟩))), (1, .int .u32 (c : Nat))]) => ?_
  refine wpl_nil (then_n ?_)
  refine wp_seq (wp_region_list ?_)
  refine st_load [0, 1, 2, 4] F14 M99 (k := 32) (d := 14) (t := 4) (b := bk) (i := 2) (j := 2) rfl rfl rfl Try.underlying23 rfl (by kernel_rfl) sk rfl rfl (by decide) fun a15 (F16 : Fr 37 a15 [(14, (.agg (cn .u8 ks))), (9, .slice (some ⟨bo, 0, none⟩) X.length cap), (6, (.pointer (some ⟨bn, 0, none⟩))), (1, .int .u32 (c : Nat))]) => ?_
  refine st_val [0, 1, 2, 3] F16 (d := 15) (v := .int .u32 (c : Nat)) rfl rfl (by decide) (ex_move rfl (F16.ev 3 rfl)) fun a17 (F18 : Fr 37 a17 [(15, .int .u32 (c : Nat)), (14, (.agg (cn .u8 ks))), (9, .slice (some ⟨bo, 0, none⟩) X.length cap), (6, (.pointer (some ⟨bn, 0, none⟩)))]) => ?_
  refine st_load [0, 1, 2, 3] F18 M99 (k := 12) (d := 16) (t := 6) (b := bn) (i := 1) (j := 3) rfl rfl rfl Try.underlying25 rfl (by kernel_rfl) sn rfl rfl (by decide) fun a19 (F20 : Fr 37 a19 [(16, (.agg (cn .u8 ns))), (15, .int .u32 (c : Nat)), (14, (.agg (cn .u8 ks))), (9, .slice (some ⟨bo, 0, none⟩) X.length cap)]) => ?_
  refine st_call [0, 4] F20 M99 (d := 17) (f := 21) (args := #[.agg (cn .u8 ks), .int .u32 (c : Nat), .agg (cn .u8 ns)]) (v := (.agg (cn .u32 (laid ks c ns)))) rfl rfl (by decide) (by simp [Act.eval, (F20.get 2 rfl), (F20.get 1 rfl), (F20.get 0 rfl), go_sem]) (KL w99) fun a21 w23 (F22 : Fr 37 a21 [(17, (.agg (cn .u32 (laid ks c ns)))), (9, .slice (some ⟨bo, 0, none⟩) X.length cap)]) (M24 : Mem w0.heap.size w0 w23 [(bo, .cells (cn .u8 (X ++ List.replicate (cap - X.length) 0)) 5 (cap, cap + 1)), (bn, .cells (cn .u8 ns) 25), (bk, .cells (cn .u8 ks) 23)]) => ?_
  refine st_alloc [0, 1, 2] F22 M24 (d := 10) (.cells (cn .u32 (List.replicate 16 0)) 51) (fun b => .pointer (some ⟨b, 0, none⟩)) rfl rfl (by decide) (by simp [execOp, go_sem, cn]) fun a25 w27 b (F26 : Fr 37 a25 [(10, (.pointer (some ⟨b, 0, none⟩))), (17, (.agg (cn .u32 (laid ks c ns)))), (9, .slice (some ⟨bo, 0, none⟩) X.length cap)]) (M28 : Mem w0.heap.size w0 w27 [(b, .cells (cn .u32 (List.replicate 16 0)) 51), (bo, .cells (cn .u8 (X ++ List.replicate (cap - X.length) 0)) 5 (cap, cap + 1)), (bn, .cells (cn .u8 ns) 25), (bk, .cells (cn .u8 ks) 23)]) => ?_
  refine st_store F26 M28 (k := 16) (t := 10) (s := 17) (b := b) (i := 0) (j := 0) (m := 1) rfl rfl rfl rfl (by kernel_rfl) (by rw [cn_size]; rfl) sL (cn_one _ _) rfl rfl fun w29 (M30 : Mem w0.heap.size w0 w29 [(b, .cells (cn .u32 (laid ks c ns)) 51), (bo, .cells (cn .u8 (X ++ List.replicate (cap - X.length) 0)) 5 (cap, cap + 1)), (bn, .cells (cn .u8 ns) 25), (bk, .cells (cn .u8 ks) 23)]) => ?_
  refine wpl_nil (then_n ?_)
  refine wp_seq (wp_seq (wp_region_list ?_))
  refine st_val [0, 1, 3] F26 (d := 18) (v := .slice (some ⟨bo, 0, none⟩) X.length cap) rfl rfl (by decide) (ex_move rfl (F26.ev 2 rfl)) fun a31 (F32 : Fr 37 a31 [(18, .slice (some ⟨bo, 0, none⟩) X.length cap), (10, (.pointer (some ⟨b, 0, none⟩))), (9, .slice (some ⟨bo, 0, none⟩) X.length cap)]) => ?_
  refine st_val [0, 2, 3] F32 (d := 11) (v := .slice (some ⟨bo, 0, none⟩) X.length cap) rfl rfl (by decide) (ex_assign rfl (F32.ev 0 rfl)) fun a33 (F34 : Fr 37 a33 [(11, .slice (some ⟨bo, 0, none⟩) X.length cap), (10, (.pointer (some ⟨b, 0, none⟩))), (9, .slice (some ⟨bo, 0, none⟩) X.length cap)]) => ?_
  refine wpl_nil (then_n ?_)
  have hX0 : ∀ i, (X ++ List.replicate (cap - X.length) 0).getD i 0 < 256 := pad_lt X hX _
  have lX0 : (X ++ List.replicate (cap - X.length) 0).length = cap := by simp; omega
  have hall := fun k h => mTo_all ks c ns X (List.replicate (cap - X.length) 0) k h
  generalize (X ++ List.replicate (cap - X.length) 0) = X0 at *
  refine wp_for2 (fun a' w' => ∃ k o : Nat, (min (64 * k) X.length < X.length → o = min (64 * k) X.length) ∧ Fr 37 a' [(9, .slice (some ⟨bo, 0, none⟩) X.length cap), (10, .pointer (some ⟨b, 0, none⟩)), (11, .slice (some ⟨bo, o, none⟩) (X.length - min (64 * k) X.length) (cap - min (64 * k) X.length))] ∧ Mem w0.heap.size w0 w' [(b, .cells (cn .u32 (laid ks ((c + k) % 4294967296) ns)) 51), (bo, .cells (cn .u8 (mTo ks c ns X0 X.length k)) 5 (cap, cap + 1)), (bn, .cells (cn .u8 ns) 25), (bk, .cells (cn .u8 ks) 23)]) (fun a' _ => lenAt 11 a') ⟨0, 0, fun _ => by omega, by rw [Nat.mul_zero, Nat.zero_min, Nat.sub_zero, Nat.sub_zero]; exact F34.pick [2, 1, 0], by rw [Nat.add_zero, Nat.mod_eq_of_lt hc]; exact M30⟩ ?_
  rintro a w ⟨k, o, ho, F, M⟩
  have hl := lenAt_of (F.get 2 rfl)
  by_cases hlt : min (64 * k) X.length < X.length
  · have ho2 := ho hlt
    clear ho
    obtain ⟨q, hq⟩ : ∃ q, min (64 * k) X.length = q := ⟨_, rfl⟩
    have hqk : q = 64 * k := by omega
    have HC := mTo_lt ks c ns X0 X.length (by omega) hX0 k
    have LC := mTo_len ks c ns X0 X.length k
    have HN : mTo ks c ns X0 X.length (k + 1) = xorTo (mTo ks c ns X0 X.length k) q (blockN ks ((c + k) % 4294967296) ns) (min 64 (X.length - q)) := by rw [mTo, hq]
    have HW := laid_words hks (Nat.mod_lt (c + k) (by decide)) hns
    have KB : ∀ w, Calls Try.prog 23 #[.agg (cn .u32 (laid ks ((c + k) % 4294967296) ns))] w fun e w' => e = .returned (.agg (cn .u8 (blockN ks ((c + k) % 4294967296) ns))) ∧ Below w.heap.size w w' := block_any _ HW
    have lB : (blockN ks ((c + k) % 4294967296) ns).length = 64 := blockW_len _
    have hB8 : ∀ i, (blockN ks ((c + k) % 4294967296) ns).getD i 0 < 256 := blockW_lt _
    have sW : (cn .u32 (laid ks ((c + k) % 4294967296) ns)).size = 16 := by rw [cn_size]; rfl
    have g12 := cn_get .u32 (laid ks ((c + k) % 4294967296) ns) 12 (show 12 < 16 by decide)
    have e12 : (laid ks ((c + k) % 4294967296) ns).getD 12 0 = (c + k) % 4294967296 := rfl
    rw [e12] at g12
    have HS : (cn .u32 (laid ks ((c + k) % 4294967296) ns)).setIfInBounds 12 (.int .u32 ((c + (k + 1)) % 4294967296 : Nat)) = cn .u32 (laid ks ((c + (k + 1)) % 4294967296) ns) := by rw [cn_set, laid_set]
    have he : ((c + k) % 4294967296 + 1) % 4294967296 = (c + (k + 1)) % 4294967296 := by omega
    rw [hq] at F hl hlt ho2
    rw [ho2] at F
    clear ho2
    generalize blockN ks ((c + k) % 4294967296) ns = B at *
    generalize laid ks ((c + k) % 4294967296) ns = L at *
    generalize mTo ks c ns X0 X.length k = C at *
    refine wp_region_list ?_
    refine st_val [0, 1, 2, 3] F (d := 19) (v := .slice (some ⟨bo, q, none⟩) (X.length - q) (cap - q)) rfl rfl (by decide) (ex_move rfl (F.ev 2 rfl)) fun a35 (F36 : Fr 37 a35 [(19, .slice (some ⟨bo, q, none⟩) (X.length - q) (cap - q)), (9, .slice (some ⟨bo, 0, none⟩) X.length cap), (10, .pointer (some ⟨b, 0, none⟩)), (11, .slice (some ⟨bo, q, none⟩) (X.length - q) (cap - q))]) => ?_
    refine st_val [0, 2, 3, 4] F36 (d := 20) (v := (.int .i64 ((X.length - q : Nat) : Int))) rfl rfl (by decide) (by simp [Act.eval, (F36.get 0 rfl), go_sem]) fun a37 (F38 : Fr 37 a37 [(20, (.int .i64 ((X.length - q : Nat) : Int))), (9, .slice (some ⟨bo, 0, none⟩) X.length cap), (10, .pointer (some ⟨b, 0, none⟩)), (11, .slice (some ⟨bo, q, none⟩) (X.length - q) (cap - q))]) => ?_
    refine st_val [0, 2, 3, 4] F38 (d := 21) (v := (.bool true)) rfl rfl (by decide) (by simp [execOp, Act.eval, (F38.get 0 rfl), go_sem]; omega) fun a39 (F40 : Fr 37 a39 [(21, (.bool true)), (9, .slice (some ⟨bo, 0, none⟩) X.length cap), (10, .pointer (some ⟨b, 0, none⟩)), (11, .slice (some ⟨bo, q, none⟩) (X.length - q) (cap - q))]) => ?_
    refine wpl_nil (then_n (.inl ⟨F40.ev 0 rfl, ?_⟩))
    refine wp_seq (wp_region_list ?_)
    refine st_val [0, 2, 3, 4] F40 (d := 27) (v := .slice (some ⟨bo, q, none⟩) (X.length - q) (cap - q)) rfl rfl (by decide) (ex_move rfl (F40.ev 3 rfl)) fun a41 (F42 : Fr 37 a41 [(27, .slice (some ⟨bo, q, none⟩) (X.length - q) (cap - q)), (9, .slice (some ⟨bo, 0, none⟩) X.length cap), (10, .pointer (some ⟨b, 0, none⟩)), (11, .slice (some ⟨bo, q, none⟩) (X.length - q) (cap - q))]) => ?_
    refine st_load [0, 1, 2, 3, 4] F42 M (k := 16) (d := 28) (t := 10) (b := b) (i := 0) (j := 2) rfl rfl rfl Try.underlying51 rfl (by kernel_rfl) sW rfl rfl (by decide) fun a43 (F44 : Fr 37 a43 [(28, (.agg (cn .u32 L))), (27, .slice (some ⟨bo, q, none⟩) (X.length - q) (cap - q)), (9, .slice (some ⟨bo, 0, none⟩) X.length cap), (10, .pointer (some ⟨b, 0, none⟩)), (11, .slice (some ⟨bo, q, none⟩) (X.length - q) (cap - q))]) => ?_
    refine st_call [0, 2, 3, 4, 5] F44 M (d := 29) (f := 23) (args := #[.agg (cn .u32 L)]) (v := (.agg (cn .u8 B))) rfl rfl (by decide) (by simp [Act.eval, (F44.get 0 rfl), go_sem]) (KB w) fun a45 w47 (F46 : Fr 37 a45 [(29, (.agg (cn .u8 B))), (27, .slice (some ⟨bo, q, none⟩) (X.length - q) (cap - q)), (9, .slice (some ⟨bo, 0, none⟩) X.length cap), (10, .pointer (some ⟨b, 0, none⟩)), (11, .slice (some ⟨bo, q, none⟩) (X.length - q) (cap - q))]) (M48 : Mem w0.heap.size w0 w47 [(b, .cells (cn .u32 L) 51), (bo, .cells (cn .u8 C) 5 (cap, cap + 1)), (bn, .cells (cn .u8 ns) 25), (bk, .cells (cn .u8 ks) 23)]) => ?_
    refine st_callw [3, 4, 5] F46 (d := 30) (f := 22) (args := #[.slice (some ⟨bo, q, none⟩) (X.length - q) (cap - q), .agg (cn .u8 B)]) (v := .tuple #[]) rfl rfl (by decide) (by simp [Act.eval, (F46.get 1 rfl), (F46.get 0 rfl), go_sem]) (turn_any C B HC lB hB8 bo q (X.length - q) (cap - q) _ (cap, cap + 1) (by omega) (by show _ ≤ cap; omega) w0 w47 _ M48.swap) fun a49 w50 (F51 : Fr 37 a49 [(9, .slice (some ⟨bo, 0, none⟩) X.length cap), (10, .pointer (some ⟨b, 0, none⟩)), (11, .slice (some ⟨bo, q, none⟩) (X.length - q) (cap - q))]) M52x => ?_
    have M52 : Mem w0.heap.size w0 w50 [(b, .cells (cn .u32 L) 51), (bo, .cells (cn .u8 (xorTo C q B (min 64 (X.length - q)))) 5 (cap, cap + 1)), (bn, .cells (cn .u8 ns) 25), (bk, .cells (cn .u8 ks) 23)] := M52x.swap
    refine wpl_nil (then_n ?_)
    refine wp_region_list ?_
    refine st_val [0, 1, 2, 3] F51 (d := 31) (v := (.pointer (some ⟨b, 12, none⟩))) rfl rfl (by decide) (ex_idx (i := 12) rfl (F51.get 1 rfl) rfl Try.underlying51 (by decide) (by kernel_rfl)) fun a53 (F54 : Fr 37 a53 [(31, (.pointer (some ⟨b, 12, none⟩))), (9, .slice (some ⟨bo, 0, none⟩) X.length cap), (10, .pointer (some ⟨b, 0, none⟩)), (11, .slice (some ⟨bo, q, none⟩) (X.length - q) (cap - q))]) => ?_
    refine st_val [0, 2, 3, 4] F54 (d := 32) (v := (.int .u32 ((c + k) % 4294967296 : Nat))) rfl rfl (by decide) (ex_load1 rfl (F54.get 0 rfl) (M52.get 0 rfl) g12 Try.underlying45 rfl) fun a55 (F56 : Fr 37 a55 [(32, (.int .u32 ((c + k) % 4294967296 : Nat))), (9, .slice (some ⟨bo, 0, none⟩) X.length cap), (10, .pointer (some ⟨b, 0, none⟩)), (11, .slice (some ⟨bo, q, none⟩) (X.length - q) (cap - q))]) => ?_
    refine st_val [0, 2, 3, 4] F56 (d := 33) (v := (.int .u32 ((c + (k + 1)) % 4294967296 : Nat))) rfl rfl (by decide) (by rw [← he]; simp [execOp, Act.eval, (F56.get 0 rfl), go_sem]; rw [IntKind.wrap_u32']; omega) fun a57 (F58 : Fr 37 a57 [(33, (.int .u32 ((c + (k + 1)) % 4294967296 : Nat))), (9, .slice (some ⟨bo, 0, none⟩) X.length cap), (10, .pointer (some ⟨b, 0, none⟩)), (11, .slice (some ⟨bo, q, none⟩) (X.length - q) (cap - q))]) => ?_
    refine st_val [0, 1, 2, 3, 4] F58 (d := 34) (v := (.pointer (some ⟨b, 12, none⟩))) rfl rfl (by decide) (ex_idx (i := 12) rfl (F58.get 2 rfl) rfl Try.underlying51 (by decide) (by kernel_rfl)) fun a59 (F60 : Fr 37 a59 [(34, (.pointer (some ⟨b, 12, none⟩))), (33, (.int .u32 ((c + (k + 1)) % 4294967296 : Nat))), (9, .slice (some ⟨bo, 0, none⟩) X.length cap), (10, .pointer (some ⟨b, 0, none⟩)), (11, .slice (some ⟨bo, q, none⟩) (X.length - q) (cap - q))]) => ?_
    refine st_put F60 M52 (t := 34) (s := 33) (b := b) (o := 12) (i := 0) (j := 0) (m := 1) rfl rfl rfl rfl (by kernel_rfl) (by rw [sW]; decide) rfl rfl rfl fun w61 h63 => ?_
    have M62 : Mem w0.heap.size w0 w61 [(b, .cells (cn .u32 (laid ks ((c + (k + 1)) % 4294967296) ns)) 51), (bo, .cells (cn .u8 (xorTo C q B (min 64 (X.length - q)))) 5 (cap, cap + 1)), (bn, .cells (cn .u8 ns) 25), (bk, .cells (cn .u8 ks) 23)] := by rw [HS] at h63; exact h63
    clear h63
    refine wpl_nil (inb_n (then_n ?_))
    refine wp_region_list ?_
    refine st_val [0, 3, 4, 5] F60 (d := 22) (v := .slice (some ⟨bo, q, none⟩) (X.length - q) (cap - q)) rfl rfl (by decide) (ex_move rfl (F60.ev 4 rfl)) fun a64 (F65 : Fr 37 a64 [(22, .slice (some ⟨bo, q, none⟩) (X.length - q) (cap - q)), (9, .slice (some ⟨bo, 0, none⟩) X.length cap), (10, .pointer (some ⟨b, 0, none⟩)), (11, .slice (some ⟨bo, q, none⟩) (X.length - q) (cap - q))]) => ?_
    refine st_val [0, 1, 2, 3, 4] F65 (d := 23) (v := .slice (some ⟨bo, q, none⟩) (X.length - q) (cap - q)) rfl rfl (by decide) (ex_move rfl (F65.ev 3 rfl)) fun a66 (F67 : Fr 37 a66 [(23, .slice (some ⟨bo, q, none⟩) (X.length - q) (cap - q)), (22, .slice (some ⟨bo, q, none⟩) (X.length - q) (cap - q)), (9, .slice (some ⟨bo, 0, none⟩) X.length cap), (10, .pointer (some ⟨b, 0, none⟩)), (11, .slice (some ⟨bo, q, none⟩) (X.length - q) (cap - q))]) => ?_
    refine st_val [0, 2, 3, 4, 5] F67 (d := 24) (v := (.int .i64 ((X.length - q : Nat) : Int))) rfl rfl (by decide) (by simp [Act.eval, (F67.get 0 rfl), go_sem]) fun a68 (F69 : Fr 37 a68 [(24, (.int .i64 ((X.length - q : Nat) : Int))), (22, .slice (some ⟨bo, q, none⟩) (X.length - q) (cap - q)), (9, .slice (some ⟨bo, 0, none⟩) X.length cap), (10, .pointer (some ⟨b, 0, none⟩)), (11, .slice (some ⟨bo, q, none⟩) (X.length - q) (cap - q))]) => ?_
    refine st_val [0, 2, 3, 4, 5] F69 (d := 25) (v := (.int .i64 ((min 64 (X.length - q) : Nat) : Int))) rfl rfl (by decide) (by simp [Act.eval, (F69.get 0 rfl), go_sem]; split <;> omega) fun a70 (F71 : Fr 37 a70 [(25, (.int .i64 ((min 64 (X.length - q) : Nat) : Int))), (22, .slice (some ⟨bo, q, none⟩) (X.length - q) (cap - q)), (9, .slice (some ⟨bo, 0, none⟩) X.length cap), (10, .pointer (some ⟨b, 0, none⟩)), (11, .slice (some ⟨bo, q, none⟩) (X.length - q) (cap - q))]) => ?_
    refine st_val [0, 3, 4, 5] F71 (d := 26) (v := (.slice (some ⟨bo, (if cap - q = min 64 (X.length - q) then q else q + min 64 (X.length - q)), none⟩) (X.length - q - min 64 (X.length - q)) (cap - q - min 64 (X.length - q)))) rfl rfl (by decide) (ex_sliceS (some (min 64 (X.length - q))) none rfl (F71.get 1 rfl) (by simp [optI, (F71.ev 0 rfl)]) rfl Try.underlying39 (by kernel_rfl) (show min 64 (X.length - q) ≤ X.length - q by omega) (Nat.zero_le _)) fun a72 (F73 : Fr 37 a72 [(26, (.slice (some ⟨bo, (if cap - q = min 64 (X.length - q) then q else q + min 64 (X.length - q)), none⟩) (X.length - q - min 64 (X.length - q)) (cap - q - min 64 (X.length - q)))), (9, .slice (some ⟨bo, 0, none⟩) X.length cap), (10, .pointer (some ⟨b, 0, none⟩)), (11, .slice (some ⟨bo, q, none⟩) (X.length - q) (cap - q))]) => ?_
    refine st_val [0, 2, 3] F73 (d := 11) (v := (.slice (some ⟨bo, (if cap - q = min 64 (X.length - q) then q else q + min 64 (X.length - q)), none⟩) (X.length - q - min 64 (X.length - q)) (cap - q - min 64 (X.length - q)))) rfl rfl (by decide) (ex_assign rfl (F73.ev 0 rfl)) fun a74 (F75 : Fr 37 a74 [(11, (.slice (some ⟨bo, (if cap - q = min 64 (X.length - q) then q else q + min 64 (X.length - q)), none⟩) (X.length - q - min 64 (X.length - q)) (cap - q - min 64 (X.length - q)))), (9, .slice (some ⟨bo, 0, none⟩) X.length cap), (10, .pointer (some ⟨b, 0, none⟩))]) => ?_
    refine wpl_nil (then_n ⟨⟨k + 1, (if cap - q = min 64 (X.length - q) then q else q + min 64 (X.length - q)), fun h => ?_, ?_, by rw [HN]; exact M62⟩, ?_⟩)
    · rw [if_neg (by omega)]; omega
    · rw [show min (64 * (k + 1)) X.length = q + min 64 (X.length - q) by omega, ← Nat.sub_sub, ← Nat.sub_sub]
      exact F75.pick [1, 2, 0]
    · rw [lenAt_of (F75.get 0 rfl), hl]; omega
  · have hq : min (64 * k) X.length = X.length := by omega
    rw [hq, Nat.sub_self] at F
    have HA := hall k (by omega)
    have LC := mTo_len ks c ns X0 X.length k
    generalize mTo ks c ns X0 X.length k = C at *
    refine wp_region_list ?_
    refine st_val [0, 1] F (d := 19) (v := .slice (some ⟨bo, o, none⟩) 0 (cap - X.length)) rfl rfl (by decide) (ex_move rfl (F.ev 2 rfl)) fun a76 (F77 : Fr 37 a76 [(19, .slice (some ⟨bo, o, none⟩) 0 (cap - X.length)), (9, .slice (some ⟨bo, 0, none⟩) X.length cap)]) => ?_
    refine st_val [0, 2] F77 (d := 20) (v := (.int .i64 0)) rfl rfl (by decide) (by simp [Act.eval, (F77.get 0 rfl), go_sem]) fun a78 (F79 : Fr 37 a78 [(20, (.int .i64 0)), (9, .slice (some ⟨bo, 0, none⟩) X.length cap)]) => ?_
    refine st_val [0, 2] F79 (d := 21) (v := (.bool false)) rfl rfl (by decide) (by simp [execOp, Act.eval, (F79.get 0 rfl), go_sem]) fun a80 (F81 : Fr 37 a80 [(21, (.bool false)), (9, .slice (some ⟨bo, 0, none⟩) X.length cap)]) => ?_
    refine wpl_nil (then_n (.inr ⟨F81.ev 0 rfl, then_n ?_⟩))
    refine wp_seq (wp_region_list ?_)
    refine st_val [0] F81 (d := 35) (v := .slice (some ⟨bo, 0, none⟩) X.length cap) rfl rfl (by decide) (ex_move rfl (F81.ev 1 rfl)) fun a82 (F83 : Fr 37 a82 [(35, .slice (some ⟨bo, 0, none⟩) X.length cap)]) => ?_
    refine st_val [0] F83 (d := 36) (v := (.string (bs (maskN ks c ns X)))) rfl rfl (by decide) (by rw [← HA]; exact ex_str (o := 0) rfl (F83.get 0 rfl) (M.get 1 rfl) (by omega) Try.underlying39 Try.underlying5 Try.underlying9) fun a84 (F85 : Fr 37 a84 [(36, (.string (bs (maskN ks c ns X))))]) => ?_
    refine st_val [0] F85 (d := 8) (v := (.string (bs (maskN ks c ns X)))) rfl rfl (by decide) (ex_assign rfl (F85.ev 0 rfl)) fun a86 (F87 : Fr 37 a86 [(8, (.string (bs (maskN ks c ns X))))]) => ?_
    refine wpl_nil (then_n ?_)
    exact wp_ret (ret_fr F87 0 Try.results14 rfl ⟨rfl, M.below⟩)

end Go.Proofs.Ytcmoohkkaibgkaa
