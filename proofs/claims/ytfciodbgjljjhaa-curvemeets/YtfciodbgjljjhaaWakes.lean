/- What 'wakes' of the statements of layer 2 comes to: true. -/
import Derived.Test.YtfciodbgjljjhaaC5
namespace Go.Proofs.Ytfciodbgjljjhaa
open Go.RowKit

theorem wS_key : (keyL wS == zero32) = false := by
  rw [keyL_eq_zero wS (curveN_lt _ _)]
  have h := wakes_2
  rw [beq_eq_false_iff_ne] at h
  simp [h]
theorem key_self (r : Nat) : (keyL r == keyL r) = true := beq_self_eq_true _

set_option maxRecDepth 100000 in
set_option maxHeartbeats 8000000 in
theorem wakes_any (w : World) :
    Calls Try.prog 13 #[] w fun e w' => e = .returned (.bool true) ∧ Below w.heap.size w w' := by
  go_enter Try.func13, Try.ntmps13
  go_upto_region 1 with fail
  have HM : Hid (Mem w.heap.size w w []) := Mem.start w
  refine wp_region_list ?_
  refine wpList_ok (base := 0) (v := .agg (cs8 eight32)) (ok_value rfl (by rw [eight32_key]; simp [execOp, Act.eval, go_sem])) fun u1 hb => ?_
  have HM2 : Hid (Mem w.heap.size w u1 []) := (HM.out).keep hb
  clear hb HM
  simp only [Act.put, List.setIfInBounds_toArray, List.set_cons_succ, List.set_cons_zero]
  refine wpList_ok (base := 0) (v := .agg (cs8 sixteen32)) (ok_value rfl (by rw [sixteen32_key]; simp [execOp, Act.eval, go_sem])) fun u3 hb => ?_
  have HM4 : Hid (Mem w.heap.size w u3 []) := (HM2.out).keep hb
  clear hb HM2
  simp only [Act.put, List.setIfInBounds_toArray, List.set_cons_succ, List.set_cons_zero]
  refine wpList_alloc (o := .cells #[.int .u8 0, .int .u8 0, .int .u8 0, .int .u8 0, .int .u8 0, .int .u8 0, .int .u8 0, .int .u8 0, .int .u8 0, .int .u8 0, .int .u8 0, .int .u8 0, .int .u8 0, .int .u8 0, .int .u8 0, .int .u8 0, .int .u8 0, .int .u8 0, .int .u8 0, .int .u8 0, .int .u8 0, .int .u8 0, .int .u8 0, .int .u8 0, .int .u8 0, .int .u8 0, .int .u8 0, .int .u8 0, .int .u8 0, .int .u8 0, .int .u8 0, .int .u8 0] 23) (v := .pointer (some ⟨u3.heap.size, 0, none⟩)) rfl (by simp [execOp, go_sem]) ?_
  simp only [Act.put, List.setIfInBounds_toArray, List.set_cons_succ, List.set_cons_zero]
  have HM7 : Hid (Mem w.heap.size w _ [(u3.heap.size, .cells #[.int .u8 0, .int .u8 0, .int .u8 0, .int .u8 0, .int .u8 0, .int .u8 0, .int .u8 0, .int .u8 0, .int .u8 0, .int .u8 0, .int .u8 0, .int .u8 0, .int .u8 0, .int .u8 0, .int .u8 0, .int .u8 0, .int .u8 0, .int .u8 0, .int .u8 0, .int .u8 0, .int .u8 0, .int .u8 0, .int .u8 0, .int .u8 0, .int .u8 0, .int .u8 0, .int .u8 0, .int .u8 0, .int .u8 0, .int .u8 0, .int .u8 0, .int .u8 0] 23)]) := (HM4.out).alloc (.cells #[.int .u8 0, .int .u8 0, .int .u8 0, .int .u8 0, .int .u8 0, .int .u8 0, .int .u8 0, .int .u8 0, .int .u8 0, .int .u8 0, .int .u8 0, .int .u8 0, .int .u8 0, .int .u8 0, .int .u8 0, .int .u8 0, .int .u8 0, .int .u8 0, .int .u8 0, .int .u8 0, .int .u8 0, .int .u8 0, .int .u8 0, .int .u8 0, .int .u8 0, .int .u8 0, .int .u8 0, .int .u8 0, .int .u8 0, .int .u8 0, .int .u8 0, .int .u8 0] 23)
  clear HM4
  generalize u3.alloc (.cells #[.int .u8 0, .int .u8 0, .int .u8 0, .int .u8 0, .int .u8 0, .int .u8 0, .int .u8 0, .int .u8 0, .int .u8 0, .int .u8 0, .int .u8 0, .int .u8 0, .int .u8 0, .int .u8 0, .int .u8 0, .int .u8 0, .int .u8 0, .int .u8 0, .int .u8 0, .int .u8 0, .int .u8 0, .int .u8 0, .int .u8 0, .int .u8 0, .int .u8 0, .int .u8 0, .int .u8 0, .int .u8 0, .int .u8 0, .int .u8 0, .int .u8 0, .int .u8 0] 23) = V5 at *
  generalize u3.heap.size = g8 at *
  refine wpList_alloc (o := .cells #[.int .u8 0, .int .u8 0, .int .u8 0, .int .u8 0, .int .u8 0, .int .u8 0, .int .u8 0, .int .u8 0, .int .u8 0, .int .u8 0, .int .u8 0, .int .u8 0, .int .u8 0, .int .u8 0, .int .u8 0, .int .u8 0, .int .u8 0, .int .u8 0, .int .u8 0, .int .u8 0, .int .u8 0, .int .u8 0, .int .u8 0, .int .u8 0, .int .u8 0, .int .u8 0, .int .u8 0, .int .u8 0, .int .u8 0, .int .u8 0, .int .u8 0, .int .u8 0] 23) (v := .pointer (some ⟨V5.heap.size, 0, none⟩)) rfl (by simp [execOp, go_sem]) ?_
  simp only [Act.put, List.setIfInBounds_toArray, List.set_cons_succ, List.set_cons_zero]
  have HM11 : Hid (Mem w.heap.size w _ [(V5.heap.size, .cells #[.int .u8 0, .int .u8 0, .int .u8 0, .int .u8 0, .int .u8 0, .int .u8 0, .int .u8 0, .int .u8 0, .int .u8 0, .int .u8 0, .int .u8 0, .int .u8 0, .int .u8 0, .int .u8 0, .int .u8 0, .int .u8 0, .int .u8 0, .int .u8 0, .int .u8 0, .int .u8 0, .int .u8 0, .int .u8 0, .int .u8 0, .int .u8 0, .int .u8 0, .int .u8 0, .int .u8 0, .int .u8 0, .int .u8 0, .int .u8 0, .int .u8 0, .int .u8 0] 23), (g8, .cells #[.int .u8 0, .int .u8 0, .int .u8 0, .int .u8 0, .int .u8 0, .int .u8 0, .int .u8 0, .int .u8 0, .int .u8 0, .int .u8 0, .int .u8 0, .int .u8 0, .int .u8 0, .int .u8 0, .int .u8 0, .int .u8 0, .int .u8 0, .int .u8 0, .int .u8 0, .int .u8 0, .int .u8 0, .int .u8 0, .int .u8 0, .int .u8 0, .int .u8 0, .int .u8 0, .int .u8 0, .int .u8 0, .int .u8 0, .int .u8 0, .int .u8 0, .int .u8 0] 23)]) := (HM7.out).alloc (.cells #[.int .u8 0, .int .u8 0, .int .u8 0, .int .u8 0, .int .u8 0, .int .u8 0, .int .u8 0, .int .u8 0, .int .u8 0, .int .u8 0, .int .u8 0, .int .u8 0, .int .u8 0, .int .u8 0, .int .u8 0, .int .u8 0, .int .u8 0, .int .u8 0, .int .u8 0, .int .u8 0, .int .u8 0, .int .u8 0, .int .u8 0, .int .u8 0, .int .u8 0, .int .u8 0, .int .u8 0, .int .u8 0, .int .u8 0, .int .u8 0, .int .u8 0, .int .u8 0] 23)
  clear HM7
  generalize V5.alloc (.cells #[.int .u8 0, .int .u8 0, .int .u8 0, .int .u8 0, .int .u8 0, .int .u8 0, .int .u8 0, .int .u8 0, .int .u8 0, .int .u8 0, .int .u8 0, .int .u8 0, .int .u8 0, .int .u8 0, .int .u8 0, .int .u8 0, .int .u8 0, .int .u8 0, .int .u8 0, .int .u8 0, .int .u8 0, .int .u8 0, .int .u8 0, .int .u8 0, .int .u8 0, .int .u8 0, .int .u8 0, .int .u8 0, .int .u8 0, .int .u8 0, .int .u8 0, .int .u8 0] 23) = V9 at *
  generalize V5.heap.size = g12 at *
  refine wpList_store_blk (b := g8) rfl rfl rfl rfl ((HM11.out).get 1 rfl) (by kernel_rfl) (rfl) ((cs8_size rfl)) (cs8_one _) ?_
  simp only [Act.put]
  generalize hV14 : World.setCells V9 (g8) 0 _ = V13
  have HM15 : Hid (Mem w.heap.size w V13 [(g12, .cells #[.int .u8 0, .int .u8 0, .int .u8 0, .int .u8 0, .int .u8 0, .int .u8 0, .int .u8 0, .int .u8 0, .int .u8 0, .int .u8 0, .int .u8 0, .int .u8 0, .int .u8 0, .int .u8 0, .int .u8 0, .int .u8 0, .int .u8 0, .int .u8 0, .int .u8 0, .int .u8 0, .int .u8 0, .int .u8 0, .int .u8 0, .int .u8 0, .int .u8 0, .int .u8 0, .int .u8 0, .int .u8 0, .int .u8 0, .int .u8 0, .int .u8 0, .int .u8 0] 23), (g8, .cells (cs8 eight32) 23)]) := (by rw [← hV14]; exact (HM11.out).store 1 (cs8 eight32) rfl ((rfl).trans ((cs8_size rfl)).symm) : Mem w.heap.size w V13 [(g12, .cells #[.int .u8 0, .int .u8 0, .int .u8 0, .int .u8 0, .int .u8 0, .int .u8 0, .int .u8 0, .int .u8 0, .int .u8 0, .int .u8 0, .int .u8 0, .int .u8 0, .int .u8 0, .int .u8 0, .int .u8 0, .int .u8 0, .int .u8 0, .int .u8 0, .int .u8 0, .int .u8 0, .int .u8 0, .int .u8 0, .int .u8 0, .int .u8 0, .int .u8 0, .int .u8 0, .int .u8 0, .int .u8 0, .int .u8 0, .int .u8 0, .int .u8 0, .int .u8 0] 23), (g8, .cells (cs8 eight32) 23)])
  clear hV14 HM11
  refine wpList_store_blk (b := g12) rfl rfl rfl rfl ((HM15.out).get 0 rfl) (by kernel_rfl) (rfl) ((cs8_size rfl)) (cs8_one _) ?_
  simp only [Act.put]
  generalize hV17 : World.setCells V13 (g12) 0 _ = V16
  have HM18 : Hid (Mem w.heap.size w V16 [(g12, .cells (cs8 sixteen32) 23), (g8, .cells (cs8 eight32) 23)]) := (by rw [← hV17]; exact (HM15.out).store 0 (cs8 sixteen32) rfl ((rfl).trans ((cs8_size rfl)).symm) : Mem w.heap.size w V16 [(g12, .cells (cs8 sixteen32) 23), (g8, .cells (cs8 eight32) 23)])
  clear hV17 HM15
  go_wp2_with fail
  refine region_list V16.heap.size (C := fun w' => Below V16.heap.size V16 w') [.inl (.agg (cs8 eight32)), .inl (.agg (cs8 (keyL wP))), .inl (.agg (cs8 sixteen32)), .inl (.agg (cs8 (keyL wQ))), .inr (.cells #[.int .u8 0, .int .u8 0, .int .u8 0, .int .u8 0, .int .u8 0, .int .u8 0, .int .u8 0, .int .u8 0, .int .u8 0, .int .u8 0, .int .u8 0, .int .u8 0, .int .u8 0, .int .u8 0, .int .u8 0, .int .u8 0, .int .u8 0, .int .u8 0, .int .u8 0, .int .u8 0, .int .u8 0, .int .u8 0, .int .u8 0, .int .u8 0, .int .u8 0, .int .u8 0, .int .u8 0, .int .u8 0, .int .u8 0, .int .u8 0, .int .u8 0, .int .u8 0] 23, fun b => .pointer (some ⟨b, 0, none⟩)), .inr (.cells #[.int .u8 0, .int .u8 0, .int .u8 0, .int .u8 0, .int .u8 0, .int .u8 0, .int .u8 0, .int .u8 0, .int .u8 0, .int .u8 0, .int .u8 0, .int .u8 0, .int .u8 0, .int .u8 0, .int .u8 0, .int .u8 0, .int .u8 0, .int .u8 0, .int .u8 0, .int .u8 0, .int .u8 0, .int .u8 0, .int .u8 0, .int .u8 0, .int .u8 0, .int .u8 0, .int .u8 0, .int .u8 0, .int .u8 0, .int .u8 0, .int .u8 0, .int .u8 0] 23, fun b => .pointer (some ⟨b, 0, none⟩))] [4, 5] (by kernel_rfl) (by kernel_rfl) ⟨rfl, rfl, rfl, Nat.le_refl _, fun _ _ => rfl⟩
    (fun w1 w2 h1 h2 => h1.trans (h2.mono h1.size)) (fun i h => by
      obtain rfl | rfl : i = 4 ∨ i = 5 := by simpa using h
      all_goals exact ⟨_, rfl⟩) ?_ ?_
  · refine ⟨?_, ?_, ?_, ?_, ?_, ?_, trivial⟩
    · intro s v hC hk hd
      have h0 : s.tmps[1]? = some (.pointer (some ⟨g8, 0, none⟩)) := hk 1 (by kernel_rfl)
      exact ok_load rfl rfl h0 (((HM18.out).keep hC).get 1 rfl) Try.underlying23 rfl (by kernel_rfl) ((cs8_size rfl))
    · intro s v hC hk hd
      have h0 : s.tmps[13]? = some (.agg (cs8 eight32)) := hd 0 (by kernel_rfl)
      exact ok_call rfl (by simp [Act.eval, h0, go_sem]) (public_any eight32 eight32_bytes v)
    · intro s v hC hk hd
      have h0 : s.tmps[2]? = some (.pointer (some ⟨g12, 0, none⟩)) := hk 2 (by kernel_rfl)
      exact ok_load rfl rfl h0 (((HM18.out).keep hC).get 0 rfl) Try.underlying23 rfl (by kernel_rfl) ((cs8_size rfl))
    · intro s v hC hk hd
      have h0 : s.tmps[15]? = some (.agg (cs8 sixteen32)) := hd 2 (by kernel_rfl)
      exact ok_call rfl (by simp [Act.eval, h0, go_sem]) (public_any sixteen32 sixteen32_bytes v)
    · intro s v hC hk hd
      exact ok_alloc hC.size rfl (by simp [execOp, go_sem])
    · intro s v hC hk hd
      exact ok_alloc hC.size rfl (by simp [execOp, go_sem])
  · intro nb wA19 hC hf hne
    have M20 := (HM18.out).keep hC
    obtain ⟨⟨l4, f4⟩, ⟨l5, f5⟩, _⟩ := hf
    simp only [Nat.zero_add, Nat.reduceAdd] at l4 f4 l5 f5
    have M21 := (M20).also ((HM18.out).ne_new l4) (Nat.le_trans (HM18.out).size l4) f4
    have M22 := (M21).also (Mem.ne_cons (hne 4 5 rfl rfl (by decide)) ((HM18.out).ne_new l5)) (Nat.le_trans (HM18.out).size l5) f5
    clear hne hC l4 f4 l5 f5
    simp [valsOf, valOf, putAll, Act.put]
    generalize nb 4 = g23 at *
    generalize nb 5 = g24 at *
    have HM25 : Hid (Mem w.heap.size w wA19 [(g24, .cells #[.int .u8 0, .int .u8 0, .int .u8 0, .int .u8 0, .int .u8 0, .int .u8 0, .int .u8 0, .int .u8 0, .int .u8 0, .int .u8 0, .int .u8 0, .int .u8 0, .int .u8 0, .int .u8 0, .int .u8 0, .int .u8 0, .int .u8 0, .int .u8 0, .int .u8 0, .int .u8 0, .int .u8 0, .int .u8 0, .int .u8 0, .int .u8 0, .int .u8 0, .int .u8 0, .int .u8 0, .int .u8 0, .int .u8 0, .int .u8 0, .int .u8 0, .int .u8 0] 23), (g23, .cells #[.int .u8 0, .int .u8 0, .int .u8 0, .int .u8 0, .int .u8 0, .int .u8 0, .int .u8 0, .int .u8 0, .int .u8 0, .int .u8 0, .int .u8 0, .int .u8 0, .int .u8 0, .int .u8 0, .int .u8 0, .int .u8 0, .int .u8 0, .int .u8 0, .int .u8 0, .int .u8 0, .int .u8 0, .int .u8 0, .int .u8 0, .int .u8 0, .int .u8 0, .int .u8 0, .int .u8 0, .int .u8 0, .int .u8 0, .int .u8 0, .int .u8 0, .int .u8 0] 23), (g12, .cells (cs8 sixteen32) 23), (g8, .cells (cs8 eight32) 23)]) := M22
    refine wpList_store_blk (b := g23) rfl rfl rfl rfl ((HM25.out).get 1 rfl) (by kernel_rfl) (rfl) ((cs8_size (keyL_len _))) (cs8_one _) ?_
    simp only [Act.put]
    generalize hV27 : World.setCells wA19 (g23) 0 _ = V26
    have HM28 : Hid (Mem w.heap.size w V26 [(g24, .cells #[.int .u8 0, .int .u8 0, .int .u8 0, .int .u8 0, .int .u8 0, .int .u8 0, .int .u8 0, .int .u8 0, .int .u8 0, .int .u8 0, .int .u8 0, .int .u8 0, .int .u8 0, .int .u8 0, .int .u8 0, .int .u8 0, .int .u8 0, .int .u8 0, .int .u8 0, .int .u8 0, .int .u8 0, .int .u8 0, .int .u8 0, .int .u8 0, .int .u8 0, .int .u8 0, .int .u8 0, .int .u8 0, .int .u8 0, .int .u8 0, .int .u8 0, .int .u8 0] 23), (g23, .cells (cs8 (keyL wP)) 23), (g12, .cells (cs8 sixteen32) 23), (g8, .cells (cs8 eight32) 23)]) := (by rw [← hV27]; exact (HM25.out).store 1 (cs8 (keyL wP)) rfl ((rfl).trans ((cs8_size (keyL_len _))).symm) : Mem w.heap.size w V26 [(g24, .cells #[.int .u8 0, .int .u8 0, .int .u8 0, .int .u8 0, .int .u8 0, .int .u8 0, .int .u8 0, .int .u8 0, .int .u8 0, .int .u8 0, .int .u8 0, .int .u8 0, .int .u8 0, .int .u8 0, .int .u8 0, .int .u8 0, .int .u8 0, .int .u8 0, .int .u8 0, .int .u8 0, .int .u8 0, .int .u8 0, .int .u8 0, .int .u8 0, .int .u8 0, .int .u8 0, .int .u8 0, .int .u8 0, .int .u8 0, .int .u8 0, .int .u8 0, .int .u8 0] 23), (g23, .cells (cs8 (keyL wP)) 23), (g12, .cells (cs8 sixteen32) 23), (g8, .cells (cs8 eight32) 23)])
    clear hV27 HM25
    refine wpList_store_blk (b := g24) rfl rfl rfl rfl ((HM28.out).get 0 rfl) (by kernel_rfl) (rfl) ((cs8_size (keyL_len _))) (cs8_one _) ?_
    simp only [Act.put]
    generalize hV30 : World.setCells V26 (g24) 0 _ = V29
    have HM31 : Hid (Mem w.heap.size w V29 [(g24, .cells (cs8 (keyL wQ)) 23), (g23, .cells (cs8 (keyL wP)) 23), (g12, .cells (cs8 sixteen32) 23), (g8, .cells (cs8 eight32) 23)]) := (by rw [← hV30]; exact (HM28.out).store 0 (cs8 (keyL wQ)) rfl ((rfl).trans ((cs8_size (keyL_len _))).symm) : Mem w.heap.size w V29 [(g24, .cells (cs8 (keyL wQ)) 23), (g23, .cells (cs8 (keyL wP)) 23), (g12, .cells (cs8 sixteen32) 23), (g8, .cells (cs8 eight32) 23)])
    clear hV30 HM28
    go_upto_region 3 with fail
    refine wp_region_list ?_
    refine wpList_ok (base := 0) (v := .agg (cs8 eight32)) (ok_load rfl rfl rfl ((HM31.out).get 3 rfl) Try.underlying23 rfl (by kernel_rfl) ((cs8_size rfl))) fun u32 hb => ?_
    have HM33 : Hid (Mem w.heap.size w u32 [(g24, .cells (cs8 (keyL wQ)) 23), (g23, .cells (cs8 (keyL wP)) 23), (g12, .cells (cs8 sixteen32) 23), (g8, .cells (cs8 eight32) 23)]) := (HM31.out).keep hb
    clear hb HM31
    simp only [Act.put, List.setIfInBounds_toArray, List.set_cons_succ, List.set_cons_zero]
    refine wpList_ok (base := 0) (v := .agg (cs8 (keyL wQ))) (ok_load rfl rfl rfl ((HM33.out).get 0 rfl) Try.underlying23 rfl (by kernel_rfl) ((cs8_size (keyL_len _)))) fun u34 hb => ?_
    have HM35 : Hid (Mem w.heap.size w u34 [(g24, .cells (cs8 (keyL wQ)) 23), (g23, .cells (cs8 (keyL wP)) 23), (g12, .cells (cs8 sixteen32) 23), (g8, .cells (cs8 eight32) 23)]) := (HM33.out).keep hb
    clear hb HM33
    simp only [Act.put, List.setIfInBounds_toArray, List.set_cons_succ, List.set_cons_zero]
    refine wpList_ok (base := 0) (v := .tuple #[.agg (cs8 (keyL wS)), .int .i64 0]) (ok_call rfl (by simp [Act.eval, go_sem]) (shared_ok eight32 (keyL wQ) eight32_bytes (keyL_bytes _) wS rfl wS_key _)) fun u36 hb => ?_
    have HM37 : Hid (Mem w.heap.size w u36 [(g24, .cells (cs8 (keyL wQ)) 23), (g23, .cells (cs8 (keyL wP)) 23), (g12, .cells (cs8 sixteen32) 23), (g8, .cells (cs8 eight32) 23)]) := (HM35.out).keep hb
    clear hb HM35
    simp only [Act.put, List.setIfInBounds_toArray, List.set_cons_succ, List.set_cons_zero]
    refine wpList_ok (base := 0) (v := .tuple #[.agg (cs8 (keyL wS)), .int .i64 0]) (ok_value rfl (by simp [execOp, Act.eval])) fun u38 hb => ?_
    have HM39 : Hid (Mem w.heap.size w u38 [(g24, .cells (cs8 (keyL wQ)) 23), (g23, .cells (cs8 (keyL wP)) 23), (g12, .cells (cs8 sixteen32) 23), (g8, .cells (cs8 eight32) 23)]) := (HM37.out).keep hb
    clear hb HM37
    simp only [Act.put, List.setIfInBounds_toArray, List.set_cons_succ, List.set_cons_zero]
    refine wpList_ok (base := 0) (v := .agg (cs8 (keyL wS))) (ok_value rfl (by simp [execOp, Act.eval, go_sem])) fun u40 hb => ?_
    have HM41 : Hid (Mem w.heap.size w u40 [(g24, .cells (cs8 (keyL wQ)) 23), (g23, .cells (cs8 (keyL wP)) 23), (g12, .cells (cs8 sixteen32) 23), (g8, .cells (cs8 eight32) 23)]) := (HM39.out).keep hb
    clear hb HM39
    simp only [Act.put, List.setIfInBounds_toArray, List.set_cons_succ, List.set_cons_zero]
    refine wpList_ok (base := 0) (v := .int .i64 0) (ok_value rfl (by simp [execOp, Act.eval, go_sem])) fun u42 hb => ?_
    have HM43 : Hid (Mem w.heap.size w u42 [(g24, .cells (cs8 (keyL wQ)) 23), (g23, .cells (cs8 (keyL wP)) 23), (g12, .cells (cs8 sixteen32) 23), (g8, .cells (cs8 eight32) 23)]) := (HM41.out).keep hb
    clear hb HM41
    simp only [Act.put, List.setIfInBounds_toArray, List.set_cons_succ, List.set_cons_zero]
    refine wpList_alloc (o := .cells #[.int .u8 0, .int .u8 0, .int .u8 0, .int .u8 0, .int .u8 0, .int .u8 0, .int .u8 0, .int .u8 0, .int .u8 0, .int .u8 0, .int .u8 0, .int .u8 0, .int .u8 0, .int .u8 0, .int .u8 0, .int .u8 0, .int .u8 0, .int .u8 0, .int .u8 0, .int .u8 0, .int .u8 0, .int .u8 0, .int .u8 0, .int .u8 0, .int .u8 0, .int .u8 0, .int .u8 0, .int .u8 0, .int .u8 0, .int .u8 0, .int .u8 0, .int .u8 0] 23) (v := .pointer (some ⟨u42.heap.size, 0, none⟩)) rfl (by simp [execOp, go_sem]) ?_
    simp only [Act.put, List.setIfInBounds_toArray, List.set_cons_succ, List.set_cons_zero]
    have HM46 : Hid (Mem w.heap.size w _ [(u42.heap.size, .cells #[.int .u8 0, .int .u8 0, .int .u8 0, .int .u8 0, .int .u8 0, .int .u8 0, .int .u8 0, .int .u8 0, .int .u8 0, .int .u8 0, .int .u8 0, .int .u8 0, .int .u8 0, .int .u8 0, .int .u8 0, .int .u8 0, .int .u8 0, .int .u8 0, .int .u8 0, .int .u8 0, .int .u8 0, .int .u8 0, .int .u8 0, .int .u8 0, .int .u8 0, .int .u8 0, .int .u8 0, .int .u8 0, .int .u8 0, .int .u8 0, .int .u8 0, .int .u8 0] 23), (g24, .cells (cs8 (keyL wQ)) 23), (g23, .cells (cs8 (keyL wP)) 23), (g12, .cells (cs8 sixteen32) 23), (g8, .cells (cs8 eight32) 23)]) := (HM43.out).alloc (.cells #[.int .u8 0, .int .u8 0, .int .u8 0, .int .u8 0, .int .u8 0, .int .u8 0, .int .u8 0, .int .u8 0, .int .u8 0, .int .u8 0, .int .u8 0, .int .u8 0, .int .u8 0, .int .u8 0, .int .u8 0, .int .u8 0, .int .u8 0, .int .u8 0, .int .u8 0, .int .u8 0, .int .u8 0, .int .u8 0, .int .u8 0, .int .u8 0, .int .u8 0, .int .u8 0, .int .u8 0, .int .u8 0, .int .u8 0, .int .u8 0, .int .u8 0, .int .u8 0] 23)
    clear HM43
    generalize u42.alloc (.cells #[.int .u8 0, .int .u8 0, .int .u8 0, .int .u8 0, .int .u8 0, .int .u8 0, .int .u8 0, .int .u8 0, .int .u8 0, .int .u8 0, .int .u8 0, .int .u8 0, .int .u8 0, .int .u8 0, .int .u8 0, .int .u8 0, .int .u8 0, .int .u8 0, .int .u8 0, .int .u8 0, .int .u8 0, .int .u8 0, .int .u8 0, .int .u8 0, .int .u8 0, .int .u8 0, .int .u8 0, .int .u8 0, .int .u8 0, .int .u8 0, .int .u8 0, .int .u8 0] 23) = V44 at *
    generalize u42.heap.size = g47 at *
    refine wpList_store_blk (b := g47) rfl rfl rfl rfl ((HM46.out).get 0 rfl) (by kernel_rfl) (rfl) ((cs8_size (keyL_len _))) (cs8_one _) ?_
    simp only [Act.put]
    generalize hV49 : World.setCells V44 (g47) 0 _ = V48
    have HM50 : Hid (Mem w.heap.size w V48 [(g47, .cells (cs8 (keyL wS)) 23), (g24, .cells (cs8 (keyL wQ)) 23), (g23, .cells (cs8 (keyL wP)) 23), (g12, .cells (cs8 sixteen32) 23), (g8, .cells (cs8 eight32) 23)]) := (by rw [← hV49]; exact (HM46.out).store 0 (cs8 (keyL wS)) rfl ((rfl).trans ((cs8_size (keyL_len _))).symm) : Mem w.heap.size w V48 [(g47, .cells (cs8 (keyL wS)) 23), (g24, .cells (cs8 (keyL wQ)) 23), (g23, .cells (cs8 (keyL wP)) 23), (g12, .cells (cs8 sixteen32) 23), (g8, .cells (cs8 eight32) 23)])
    clear hV49 HM46
    refine wpList_ok (base := 0) (v := .int .i64 0) (ok_value rfl (by simp [execOp, Act.eval])) fun u51 hb => ?_
    have HM52 : Hid (Mem w.heap.size w u51 [(g47, .cells (cs8 (keyL wS)) 23), (g24, .cells (cs8 (keyL wQ)) 23), (g23, .cells (cs8 (keyL wP)) 23), (g12, .cells (cs8 sixteen32) 23), (g8, .cells (cs8 eight32) 23)]) := (HM50.out).keep hb
    clear hb HM50
    simp only [Act.put, List.setIfInBounds_toArray, List.set_cons_succ, List.set_cons_zero]
    go_upto_region 4 with fail
    refine wp_region_list ?_
    refine wpList_ok (base := 0) (v := .agg (cs8 sixteen32)) (ok_load rfl rfl rfl ((HM52.out).get 3 rfl) Try.underlying23 rfl (by kernel_rfl) ((cs8_size rfl))) fun u53 hb => ?_
    have HM54 : Hid (Mem w.heap.size w u53 [(g47, .cells (cs8 (keyL wS)) 23), (g24, .cells (cs8 (keyL wQ)) 23), (g23, .cells (cs8 (keyL wP)) 23), (g12, .cells (cs8 sixteen32) 23), (g8, .cells (cs8 eight32) 23)]) := (HM52.out).keep hb
    clear hb HM52
    simp only [Act.put, List.setIfInBounds_toArray, List.set_cons_succ, List.set_cons_zero]
    refine wpList_ok (base := 0) (v := .agg (cs8 (keyL wP))) (ok_load rfl rfl rfl ((HM54.out).get 2 rfl) Try.underlying23 rfl (by kernel_rfl) ((cs8_size (keyL_len _)))) fun u55 hb => ?_
    have HM56 : Hid (Mem w.heap.size w u55 [(g47, .cells (cs8 (keyL wS)) 23), (g24, .cells (cs8 (keyL wQ)) 23), (g23, .cells (cs8 (keyL wP)) 23), (g12, .cells (cs8 sixteen32) 23), (g8, .cells (cs8 eight32) 23)]) := (HM54.out).keep hb
    clear hb HM54
    simp only [Act.put, List.setIfInBounds_toArray, List.set_cons_succ, List.set_cons_zero]
    refine wpList_ok (base := 0) (v := .tuple #[.agg (cs8 (keyL wS)), .int .i64 0]) (ok_call rfl (by simp [Act.eval, go_sem]) (shared_ok sixteen32 (keyL wP) sixteen32_bytes (keyL_bytes _) wS wakes_1 wS_key _)) fun u57 hb => ?_
    have HM58 : Hid (Mem w.heap.size w u57 [(g47, .cells (cs8 (keyL wS)) 23), (g24, .cells (cs8 (keyL wQ)) 23), (g23, .cells (cs8 (keyL wP)) 23), (g12, .cells (cs8 sixteen32) 23), (g8, .cells (cs8 eight32) 23)]) := (HM56.out).keep hb
    clear hb HM56
    simp only [Act.put, List.setIfInBounds_toArray, List.set_cons_succ, List.set_cons_zero]
    refine wpList_ok (base := 0) (v := .tuple #[.agg (cs8 (keyL wS)), .int .i64 0]) (ok_value rfl (by simp [execOp, Act.eval])) fun u59 hb => ?_
    have HM60 : Hid (Mem w.heap.size w u59 [(g47, .cells (cs8 (keyL wS)) 23), (g24, .cells (cs8 (keyL wQ)) 23), (g23, .cells (cs8 (keyL wP)) 23), (g12, .cells (cs8 sixteen32) 23), (g8, .cells (cs8 eight32) 23)]) := (HM58.out).keep hb
    clear hb HM58
    simp only [Act.put, List.setIfInBounds_toArray, List.set_cons_succ, List.set_cons_zero]
    refine wpList_ok (base := 0) (v := .agg (cs8 (keyL wS))) (ok_value rfl (by simp [execOp, Act.eval, go_sem])) fun u61 hb => ?_
    have HM62 : Hid (Mem w.heap.size w u61 [(g47, .cells (cs8 (keyL wS)) 23), (g24, .cells (cs8 (keyL wQ)) 23), (g23, .cells (cs8 (keyL wP)) 23), (g12, .cells (cs8 sixteen32) 23), (g8, .cells (cs8 eight32) 23)]) := (HM60.out).keep hb
    clear hb HM60
    simp only [Act.put, List.setIfInBounds_toArray, List.set_cons_succ, List.set_cons_zero]
    refine wpList_ok (base := 0) (v := .int .i64 0) (ok_value rfl (by simp [execOp, Act.eval, go_sem])) fun u63 hb => ?_
    have HM64 : Hid (Mem w.heap.size w u63 [(g47, .cells (cs8 (keyL wS)) 23), (g24, .cells (cs8 (keyL wQ)) 23), (g23, .cells (cs8 (keyL wP)) 23), (g12, .cells (cs8 sixteen32) 23), (g8, .cells (cs8 eight32) 23)]) := (HM62.out).keep hb
    clear hb HM62
    simp only [Act.put, List.setIfInBounds_toArray, List.set_cons_succ, List.set_cons_zero]
    refine wpList_alloc (o := .cells #[.int .u8 0, .int .u8 0, .int .u8 0, .int .u8 0, .int .u8 0, .int .u8 0, .int .u8 0, .int .u8 0, .int .u8 0, .int .u8 0, .int .u8 0, .int .u8 0, .int .u8 0, .int .u8 0, .int .u8 0, .int .u8 0, .int .u8 0, .int .u8 0, .int .u8 0, .int .u8 0, .int .u8 0, .int .u8 0, .int .u8 0, .int .u8 0, .int .u8 0, .int .u8 0, .int .u8 0, .int .u8 0, .int .u8 0, .int .u8 0, .int .u8 0, .int .u8 0] 23) (v := .pointer (some ⟨u63.heap.size, 0, none⟩)) rfl (by simp [execOp, go_sem]) ?_
    simp only [Act.put, List.setIfInBounds_toArray, List.set_cons_succ, List.set_cons_zero]
    have HM67 : Hid (Mem w.heap.size w _ [(u63.heap.size, .cells #[.int .u8 0, .int .u8 0, .int .u8 0, .int .u8 0, .int .u8 0, .int .u8 0, .int .u8 0, .int .u8 0, .int .u8 0, .int .u8 0, .int .u8 0, .int .u8 0, .int .u8 0, .int .u8 0, .int .u8 0, .int .u8 0, .int .u8 0, .int .u8 0, .int .u8 0, .int .u8 0, .int .u8 0, .int .u8 0, .int .u8 0, .int .u8 0, .int .u8 0, .int .u8 0, .int .u8 0, .int .u8 0, .int .u8 0, .int .u8 0, .int .u8 0, .int .u8 0] 23), (g47, .cells (cs8 (keyL wS)) 23), (g24, .cells (cs8 (keyL wQ)) 23), (g23, .cells (cs8 (keyL wP)) 23), (g12, .cells (cs8 sixteen32) 23), (g8, .cells (cs8 eight32) 23)]) := (HM64.out).alloc (.cells #[.int .u8 0, .int .u8 0, .int .u8 0, .int .u8 0, .int .u8 0, .int .u8 0, .int .u8 0, .int .u8 0, .int .u8 0, .int .u8 0, .int .u8 0, .int .u8 0, .int .u8 0, .int .u8 0, .int .u8 0, .int .u8 0, .int .u8 0, .int .u8 0, .int .u8 0, .int .u8 0, .int .u8 0, .int .u8 0, .int .u8 0, .int .u8 0, .int .u8 0, .int .u8 0, .int .u8 0, .int .u8 0, .int .u8 0, .int .u8 0, .int .u8 0, .int .u8 0] 23)
    clear HM64
    generalize u63.alloc (.cells #[.int .u8 0, .int .u8 0, .int .u8 0, .int .u8 0, .int .u8 0, .int .u8 0, .int .u8 0, .int .u8 0, .int .u8 0, .int .u8 0, .int .u8 0, .int .u8 0, .int .u8 0, .int .u8 0, .int .u8 0, .int .u8 0, .int .u8 0, .int .u8 0, .int .u8 0, .int .u8 0, .int .u8 0, .int .u8 0, .int .u8 0, .int .u8 0, .int .u8 0, .int .u8 0, .int .u8 0, .int .u8 0, .int .u8 0, .int .u8 0, .int .u8 0, .int .u8 0] 23) = V65 at *
    generalize u63.heap.size = g68 at *
    refine wpList_store_blk (b := g68) rfl rfl rfl rfl ((HM67.out).get 0 rfl) (by kernel_rfl) (rfl) ((cs8_size (keyL_len _))) (cs8_one _) ?_
    simp only [Act.put]
    generalize hV70 : World.setCells V65 (g68) 0 _ = V69
    have HM71 : Hid (Mem w.heap.size w V69 [(g68, .cells (cs8 (keyL wS)) 23), (g47, .cells (cs8 (keyL wS)) 23), (g24, .cells (cs8 (keyL wQ)) 23), (g23, .cells (cs8 (keyL wP)) 23), (g12, .cells (cs8 sixteen32) 23), (g8, .cells (cs8 eight32) 23)]) := (by rw [← hV70]; exact (HM67.out).store 0 (cs8 (keyL wS)) rfl ((rfl).trans ((cs8_size (keyL_len _))).symm) : Mem w.heap.size w V69 [(g68, .cells (cs8 (keyL wS)) 23), (g47, .cells (cs8 (keyL wS)) 23), (g24, .cells (cs8 (keyL wQ)) 23), (g23, .cells (cs8 (keyL wP)) 23), (g12, .cells (cs8 sixteen32) 23), (g8, .cells (cs8 eight32) 23)])
    clear hV70 HM67
    refine wpList_ok (base := 0) (v := .int .i64 0) (ok_value rfl (by simp [execOp, Act.eval])) fun u72 hb => ?_
    have HM73 : Hid (Mem w.heap.size w u72 [(g68, .cells (cs8 (keyL wS)) 23), (g47, .cells (cs8 (keyL wS)) 23), (g24, .cells (cs8 (keyL wQ)) 23), (g23, .cells (cs8 (keyL wP)) 23), (g12, .cells (cs8 sixteen32) 23), (g8, .cells (cs8 eight32) 23)]) := (HM71.out).keep hb
    clear hb HM71
    simp only [Act.put, List.setIfInBounds_toArray, List.set_cons_succ, List.set_cons_zero]
    go_upto_region 5 with fail
    refine wp_region_list ?_
    refine wpList_ok (base := 0) (v := .agg (cs8 eight32)) (ok_load rfl rfl rfl ((HM73.out).get 5 rfl) Try.underlying23 rfl (by kernel_rfl) ((cs8_size rfl))) fun u74 hb => ?_
    have HM75 : Hid (Mem w.heap.size w u74 [(g68, .cells (cs8 (keyL wS)) 23), (g47, .cells (cs8 (keyL wS)) 23), (g24, .cells (cs8 (keyL wQ)) 23), (g23, .cells (cs8 (keyL wP)) 23), (g12, .cells (cs8 sixteen32) 23), (g8, .cells (cs8 eight32) 23)]) := (HM73.out).keep hb
    clear hb HM73
    simp only [Act.put, List.setIfInBounds_toArray, List.set_cons_succ, List.set_cons_zero]
    refine wpList_ok (base := 0) (v := .agg (cs8 zero32)) (ok_value rfl (by rw [zero32_key]; simp [execOp, go_sem])) fun u76 hb => ?_
    have HM77 : Hid (Mem w.heap.size w u76 [(g68, .cells (cs8 (keyL wS)) 23), (g47, .cells (cs8 (keyL wS)) 23), (g24, .cells (cs8 (keyL wQ)) 23), (g23, .cells (cs8 (keyL wP)) 23), (g12, .cells (cs8 sixteen32) 23), (g8, .cells (cs8 eight32) 23)]) := (HM75.out).keep hb
    clear hb HM75
    simp only [Act.put, List.setIfInBounds_toArray, List.set_cons_succ, List.set_cons_zero]
    refine wpList_ok (base := 0) (v := .tuple #[.agg (cs8 (keyL 0)), .int .i64 2]) (ok_call rfl (by simp [Act.eval, go_sem]) (shared_weak eight32 zero32 eight32_bytes zero32_bytes 0 wakes_3 (by rw [keyL_zero]; rfl) _)) fun u78 hb => ?_
    have HM79 : Hid (Mem w.heap.size w u78 [(g68, .cells (cs8 (keyL wS)) 23), (g47, .cells (cs8 (keyL wS)) 23), (g24, .cells (cs8 (keyL wQ)) 23), (g23, .cells (cs8 (keyL wP)) 23), (g12, .cells (cs8 sixteen32) 23), (g8, .cells (cs8 eight32) 23)]) := (HM77.out).keep hb
    clear hb HM77
    simp only [Act.put, List.setIfInBounds_toArray, List.set_cons_succ, List.set_cons_zero]
    refine wpList_ok (base := 0) (v := .tuple #[.agg (cs8 (keyL 0)), .int .i64 2]) (ok_value rfl (by simp [execOp, Act.eval])) fun u80 hb => ?_
    have HM81 : Hid (Mem w.heap.size w u80 [(g68, .cells (cs8 (keyL wS)) 23), (g47, .cells (cs8 (keyL wS)) 23), (g24, .cells (cs8 (keyL wQ)) 23), (g23, .cells (cs8 (keyL wP)) 23), (g12, .cells (cs8 sixteen32) 23), (g8, .cells (cs8 eight32) 23)]) := (HM79.out).keep hb
    clear hb HM79
    simp only [Act.put, List.setIfInBounds_toArray, List.set_cons_succ, List.set_cons_zero]
    refine wpList_ok (base := 0) (v := .agg (cs8 (keyL 0))) (ok_value rfl (by simp [execOp, Act.eval, go_sem])) fun u82 hb => ?_
    have HM83 : Hid (Mem w.heap.size w u82 [(g68, .cells (cs8 (keyL wS)) 23), (g47, .cells (cs8 (keyL wS)) 23), (g24, .cells (cs8 (keyL wQ)) 23), (g23, .cells (cs8 (keyL wP)) 23), (g12, .cells (cs8 sixteen32) 23), (g8, .cells (cs8 eight32) 23)]) := (HM81.out).keep hb
    clear hb HM81
    simp only [Act.put, List.setIfInBounds_toArray, List.set_cons_succ, List.set_cons_zero]
    refine wpList_ok (base := 0) (v := .int .i64 2) (ok_value rfl (by simp [execOp, Act.eval, go_sem])) fun u84 hb => ?_
    have HM85 : Hid (Mem w.heap.size w u84 [(g68, .cells (cs8 (keyL wS)) 23), (g47, .cells (cs8 (keyL wS)) 23), (g24, .cells (cs8 (keyL wQ)) 23), (g23, .cells (cs8 (keyL wP)) 23), (g12, .cells (cs8 sixteen32) 23), (g8, .cells (cs8 eight32) 23)]) := (HM83.out).keep hb
    clear hb HM83
    simp only [Act.put, List.setIfInBounds_toArray, List.set_cons_succ, List.set_cons_zero]
    refine wpList_alloc (o := .cells #[.int .u8 0, .int .u8 0, .int .u8 0, .int .u8 0, .int .u8 0, .int .u8 0, .int .u8 0, .int .u8 0, .int .u8 0, .int .u8 0, .int .u8 0, .int .u8 0, .int .u8 0, .int .u8 0, .int .u8 0, .int .u8 0, .int .u8 0, .int .u8 0, .int .u8 0, .int .u8 0, .int .u8 0, .int .u8 0, .int .u8 0, .int .u8 0, .int .u8 0, .int .u8 0, .int .u8 0, .int .u8 0, .int .u8 0, .int .u8 0, .int .u8 0, .int .u8 0] 23) (v := .pointer (some ⟨u84.heap.size, 0, none⟩)) rfl (by simp [execOp, go_sem]) ?_
    simp only [Act.put, List.setIfInBounds_toArray, List.set_cons_succ, List.set_cons_zero]
    have HM88 : Hid (Mem w.heap.size w _ [(u84.heap.size, .cells #[.int .u8 0, .int .u8 0, .int .u8 0, .int .u8 0, .int .u8 0, .int .u8 0, .int .u8 0, .int .u8 0, .int .u8 0, .int .u8 0, .int .u8 0, .int .u8 0, .int .u8 0, .int .u8 0, .int .u8 0, .int .u8 0, .int .u8 0, .int .u8 0, .int .u8 0, .int .u8 0, .int .u8 0, .int .u8 0, .int .u8 0, .int .u8 0, .int .u8 0, .int .u8 0, .int .u8 0, .int .u8 0, .int .u8 0, .int .u8 0, .int .u8 0, .int .u8 0] 23), (g68, .cells (cs8 (keyL wS)) 23), (g47, .cells (cs8 (keyL wS)) 23), (g24, .cells (cs8 (keyL wQ)) 23), (g23, .cells (cs8 (keyL wP)) 23), (g12, .cells (cs8 sixteen32) 23), (g8, .cells (cs8 eight32) 23)]) := (HM85.out).alloc (.cells #[.int .u8 0, .int .u8 0, .int .u8 0, .int .u8 0, .int .u8 0, .int .u8 0, .int .u8 0, .int .u8 0, .int .u8 0, .int .u8 0, .int .u8 0, .int .u8 0, .int .u8 0, .int .u8 0, .int .u8 0, .int .u8 0, .int .u8 0, .int .u8 0, .int .u8 0, .int .u8 0, .int .u8 0, .int .u8 0, .int .u8 0, .int .u8 0, .int .u8 0, .int .u8 0, .int .u8 0, .int .u8 0, .int .u8 0, .int .u8 0, .int .u8 0, .int .u8 0] 23)
    clear HM85
    generalize u84.alloc (.cells #[.int .u8 0, .int .u8 0, .int .u8 0, .int .u8 0, .int .u8 0, .int .u8 0, .int .u8 0, .int .u8 0, .int .u8 0, .int .u8 0, .int .u8 0, .int .u8 0, .int .u8 0, .int .u8 0, .int .u8 0, .int .u8 0, .int .u8 0, .int .u8 0, .int .u8 0, .int .u8 0, .int .u8 0, .int .u8 0, .int .u8 0, .int .u8 0, .int .u8 0, .int .u8 0, .int .u8 0, .int .u8 0, .int .u8 0, .int .u8 0, .int .u8 0, .int .u8 0] 23) = V86 at *
    generalize u84.heap.size = g89 at *
    refine wpList_store_blk (b := g89) rfl rfl rfl rfl ((HM88.out).get 0 rfl) (by kernel_rfl) (rfl) ((cs8_size (keyL_len _))) (cs8_one _) ?_
    simp only [Act.put]
    generalize hV91 : World.setCells V86 (g89) 0 _ = V90
    have HM92 : Hid (Mem w.heap.size w V90 [(g89, .cells (cs8 (keyL 0)) 23), (g68, .cells (cs8 (keyL wS)) 23), (g47, .cells (cs8 (keyL wS)) 23), (g24, .cells (cs8 (keyL wQ)) 23), (g23, .cells (cs8 (keyL wP)) 23), (g12, .cells (cs8 sixteen32) 23), (g8, .cells (cs8 eight32) 23)]) := (by rw [← hV91]; exact (HM88.out).store 0 (cs8 (keyL 0)) rfl ((rfl).trans ((cs8_size (keyL_len _))).symm) : Mem w.heap.size w V90 [(g89, .cells (cs8 (keyL 0)) 23), (g68, .cells (cs8 (keyL wS)) 23), (g47, .cells (cs8 (keyL wS)) 23), (g24, .cells (cs8 (keyL wQ)) 23), (g23, .cells (cs8 (keyL wP)) 23), (g12, .cells (cs8 sixteen32) 23), (g8, .cells (cs8 eight32) 23)])
    clear hV91 HM88
    refine wpList_ok (base := 0) (v := .int .i64 2) (ok_value rfl (by simp [execOp, Act.eval])) fun u93 hb => ?_
    have HM94 : Hid (Mem w.heap.size w u93 [(g89, .cells (cs8 (keyL 0)) 23), (g68, .cells (cs8 (keyL wS)) 23), (g47, .cells (cs8 (keyL wS)) 23), (g24, .cells (cs8 (keyL wQ)) 23), (g23, .cells (cs8 (keyL wP)) 23), (g12, .cells (cs8 sixteen32) 23), (g8, .cells (cs8 eight32) 23)]) := (HM92.out).keep hb
    clear hb HM92
    simp only [Act.put, List.setIfInBounds_toArray, List.set_cons_succ, List.set_cons_zero]
    go_wp2_with fail
    refine region_list u93.heap.size (C := fun w' => Below u93.heap.size u93 w') [.inl (.int .i64 0), .inl (.bool true), .inl (.bool true), .inl (.int .i64 0), .inl (.bool true), .inl (.bool true), .inl (.bool true), .inl (.int .i64 2), .inl (.bool true), .inl (.bool true), .inl (.bool true), .inl (.agg (cs8 (keyL wS))), .inl (.agg (cs8 (keyL wS))), .inl (.bool true), .inl (.bool true), .inl (.bool true), .inl (.agg (cs8 (keyL wS))), .inl (.agg (cs8 zero32)), .inl (.bool true), .inl (.bool true), .inl (.bool true), .inl (.agg (cs8 (keyL wP))), .inl (.agg (cs8 eight32)), .inl (.agg (cs8 (keyL wP))), .inl (.bool true), .inl (.bool true), .inl (.bool true)] [] (by kernel_rfl) (by kernel_rfl) ⟨rfl, rfl, rfl, Nat.le_refl _, fun _ _ => rfl⟩
      (fun w1 w2 h1 h2 => h1.trans (h2.mono h1.size)) (fun i h => by simp at h) ?_ ?_
    · refine ⟨?_, ?_, ?_, ?_, ?_, ?_, ?_, ?_, ?_, ?_, ?_, ?_, ?_, ?_, ?_, ?_, ?_, ?_, ?_, ?_, ?_, ?_, ?_, ?_, ?_, ?_, ?_, trivial⟩
      · intro s v hC hk hd
        have h0 : s.tmps[6]? = some (.int .i64 0) := hk 6 (by kernel_rfl)
        exact ok_value rfl (by simp [execOp, Act.eval, h0])
      · intro s v hC hk hd
        have h0 : s.tmps[35]? = some (.int .i64 0) := hd 0 (by kernel_rfl)
        exact ok_value rfl (by simp [execOp, Act.eval, h0, go_sem])
      · intro s v hC hk hd
        have h0 : s.tmps[36]? = some (.bool true) := hd 1 (by kernel_rfl)
        exact ok_value rfl (by simp [execOp, Act.eval, h0])
      · intro s v hC hk hd
        have h0 : s.tmps[8]? = some (.int .i64 0) := hk 8 (by kernel_rfl)
        exact ok_value (wanted_of rfl rfl (hd 2 (by kernel_rfl))) (by simp [execOp, Act.eval, h0])
      · intro s v hC hk hd
        have h0 : s.tmps[38]? = some (.int .i64 0) := hd 3 (by kernel_rfl)
        exact ok_value (wanted_of rfl rfl (hd 2 (by kernel_rfl))) (by simp [execOp, Act.eval, h0, go_sem])
      · intro s v hC hk hd
        have h0 : s.tmps[37]? = some (.bool true) := hd 2 (by kernel_rfl)
        have h1 : s.tmps[39]? = some (.bool true) := hd 4 (by kernel_rfl)
        exact ok_value rfl (by simp [execOp, Act.eval, h0, h1, go_sem])
      · intro s v hC hk hd
        have h0 : s.tmps[40]? = some (.bool true) := hd 5 (by kernel_rfl)
        exact ok_value rfl (by simp [execOp, Act.eval, h0])
      · intro s v hC hk hd
        have h0 : s.tmps[10]? = some (.int .i64 2) := hk 10 (by kernel_rfl)
        exact ok_value (wanted_of rfl rfl (hd 6 (by kernel_rfl))) (by simp [execOp, Act.eval, h0])
      · intro s v hC hk hd
        have h0 : s.tmps[42]? = some (.int .i64 2) := hd 7 (by kernel_rfl)
        exact ok_value (wanted_of rfl rfl (hd 6 (by kernel_rfl))) (by simp [execOp, Act.eval, h0, go_sem])
      · intro s v hC hk hd
        have h0 : s.tmps[41]? = some (.bool true) := hd 6 (by kernel_rfl)
        have h1 : s.tmps[43]? = some (.bool true) := hd 8 (by kernel_rfl)
        exact ok_value rfl (by simp [execOp, Act.eval, h0, h1, go_sem])
      · intro s v hC hk hd
        have h0 : s.tmps[44]? = some (.bool true) := hd 9 (by kernel_rfl)
        exact ok_value rfl (by simp [execOp, Act.eval, h0])
      · intro s v hC hk hd
        have h0 : s.tmps[5]? = some (.pointer (some ⟨g47, 0, none⟩)) := hk 5 (by kernel_rfl)
        exact ok_load (wanted_of rfl rfl (hd 10 (by kernel_rfl))) rfl h0 (((HM94.out).keep hC).get 2 rfl) Try.underlying23 rfl (by kernel_rfl) ((cs8_size (keyL_len _)))
      · intro s v hC hk hd
        have h0 : s.tmps[7]? = some (.pointer (some ⟨g68, 0, none⟩)) := hk 7 (by kernel_rfl)
        exact ok_load (wanted_of rfl rfl (hd 10 (by kernel_rfl))) rfl h0 (((HM94.out).keep hC).get 1 rfl) Try.underlying23 rfl (by kernel_rfl) ((cs8_size (keyL_len _)))
      · intro s v hC hk hd
        have h0 : s.tmps[46]? = some (.agg (cs8 (keyL wS))) := hd 11 (by kernel_rfl)
        have h1 : s.tmps[47]? = some (.agg (cs8 (keyL wS))) := hd 12 (by kernel_rfl)
        exact ok_eql_cs8 (keyL wS) (keyL wS) true (wanted_of rfl rfl (hd 10 (by kernel_rfl))) rfl rfl (keyL_len _) (keyL_len _) (key_self _) h0 h1
      · intro s v hC hk hd
        have h0 : s.tmps[45]? = some (.bool true) := hd 10 (by kernel_rfl)
        have h1 : s.tmps[48]? = some (.bool true) := hd 13 (by kernel_rfl)
        exact ok_value rfl (by simp [execOp, Act.eval, h0, h1, go_sem])
      · intro s v hC hk hd
        have h0 : s.tmps[49]? = some (.bool true) := hd 14 (by kernel_rfl)
        exact ok_value rfl (by simp [execOp, Act.eval, h0])
      · intro s v hC hk hd
        have h0 : s.tmps[5]? = some (.pointer (some ⟨g47, 0, none⟩)) := hk 5 (by kernel_rfl)
        exact ok_load (wanted_of rfl rfl (hd 15 (by kernel_rfl))) rfl h0 (((HM94.out).keep hC).get 2 rfl) Try.underlying23 rfl (by kernel_rfl) ((cs8_size (keyL_len _)))
      · intro s v hC hk hd
        exact ok_value (wanted_of rfl rfl (hd 15 (by kernel_rfl))) (by rw [zero32_key]; simp [execOp, go_sem])
      · intro s v hC hk hd
        have h0 : s.tmps[51]? = some (.agg (cs8 (keyL wS))) := hd 16 (by kernel_rfl)
        have h1 : s.tmps[52]? = some (.agg (cs8 zero32)) := hd 17 (by kernel_rfl)
        exact ok_neq_cs8 (keyL wS) zero32 true (wanted_of rfl rfl (hd 15 (by kernel_rfl))) rfl Try.underlying23 Try.underlying5 (by kernel_rfl) (by kernel_rfl) (by kernel_rfl) (keyL_len _) rfl (by rw [wS_key]; rfl) h0 h1
      · intro s v hC hk hd
        have h0 : s.tmps[50]? = some (.bool true) := hd 15 (by kernel_rfl)
        have h1 : s.tmps[53]? = some (.bool true) := hd 18 (by kernel_rfl)
        exact ok_value rfl (by simp [execOp, Act.eval, h0, h1, go_sem])
      · intro s v hC hk hd
        have h0 : s.tmps[54]? = some (.bool true) := hd 19 (by kernel_rfl)
        exact ok_value rfl (by simp [execOp, Act.eval, h0])
      · intro s v hC hk hd
        have h0 : s.tmps[3]? = some (.pointer (some ⟨g23, 0, none⟩)) := hk 3 (by kernel_rfl)
        exact ok_load (wanted_of rfl rfl (hd 20 (by kernel_rfl))) rfl h0 (((HM94.out).keep hC).get 4 rfl) Try.underlying23 rfl (by kernel_rfl) ((cs8_size (keyL_len _)))
      · intro s v hC hk hd
        have h0 : s.tmps[1]? = some (.pointer (some ⟨g8, 0, none⟩)) := hk 1 (by kernel_rfl)
        exact ok_load (wanted_of rfl rfl (hd 20 (by kernel_rfl))) rfl h0 (((HM94.out).keep hC).get 6 rfl) Try.underlying23 rfl (by kernel_rfl) ((cs8_size rfl))
      · intro s v hC hk hd
        have h0 : s.tmps[57]? = some (.agg (cs8 eight32)) := hd 22 (by kernel_rfl)
        exact ok_call (wanted_of rfl rfl (hd 20 (by kernel_rfl))) (by simp [Act.eval, h0, go_sem]) (rpublic_any eight32 eight32_bytes v)
      · intro s v hC hk hd
        have h0 : s.tmps[56]? = some (.agg (cs8 (keyL wP))) := hd 21 (by kernel_rfl)
        have h1 : s.tmps[58]? = some (.agg (cs8 (keyL wP))) := hd 23 (by kernel_rfl)
        exact ok_eql_cs8 (keyL wP) (keyL wP) true (wanted_of rfl rfl (hd 20 (by kernel_rfl))) rfl rfl (keyL_len _) (keyL_len _) (key_self _) h0 h1
      · intro s v hC hk hd
        have h0 : s.tmps[55]? = some (.bool true) := hd 20 (by kernel_rfl)
        have h1 : s.tmps[59]? = some (.bool true) := hd 24 (by kernel_rfl)
        exact ok_value rfl (by simp [execOp, Act.eval, h0, h1, go_sem])
      · intro s v hC hk hd
        have h0 : s.tmps[60]? = some (.bool true) := hd 25 (by kernel_rfl)
        exact ok_value rfl (by simp [execOp, Act.eval, h0])
    · intro nb wA95 hC hf hne
      have M96 := (HM94.out).keep hC
      clear hf hne hC
      simp [valsOf, valOf, putAll, Act.put]
      have HM97 : Hid (Mem w.heap.size w wA95 [(g89, .cells (cs8 (keyL 0)) 23), (g68, .cells (cs8 (keyL wS)) 23), (g47, .cells (cs8 (keyL wS)) 23), (g24, .cells (cs8 (keyL wQ)) 23), (g23, .cells (cs8 (keyL wP)) 23), (g12, .cells (cs8 sixteen32) 23), (g8, .cells (cs8 eight32) 23)]) := M96
      go_wp2_with fail
      go_ret
      exact ⟨rfl, (HM97.out).below⟩
end Go.Proofs.Ytfciodbgjljjhaa
