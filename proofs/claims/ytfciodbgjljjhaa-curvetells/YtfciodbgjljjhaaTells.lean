/- CurveTells: the walk. -/
import Derived.Test.YtfciodbgjljjhaaWakes
namespace Go.Proofs.Ytfciodbgjljjhaa
open Go.RowKit

set_option maxRecDepth 100000 in
set_option maxHeartbeats 8000000 in
theorem tells_weak (ks us : List Nat) (bk : Bytes ks) (bu : Bytes us) (r : Nat) (hr : curveN ks us = r) (hz : (keyL r == zero32) = true) (w : World) :
    Calls Try.prog 3 #[.agg (cs8 ks), .agg (cs8 us)] w fun e w' => e = .returned (.bool true) ∧ Below w.heap.size w w' := by
  go_enter Try.func3, Try.ntmps3
  go_upto_region 1 with fail
  generalize hW : World.alloc (World.alloc w _) _ = W
  have HM : Hid (Mem w.heap.size w W [(w.heap.size + 1, .cells (cs8 us) 23), (w.heap.size, .cells (cs8 ks) 23)]) := (by rw [← hW]; exact ((Mem.start w).allocAt _ rfl).allocAt _ (by simp) : Mem w.heap.size w W [(w.heap.size + 1, .cells (cs8 us) 23), (w.heap.size, .cells (cs8 ks) 23)])
  clear hW
  refine wp_region_list ?_
  refine wpList_ok (base := 0) (v := .agg (cs8 ks)) (ok_load rfl rfl rfl ((HM.out).get 1 rfl) Try.underlying23 rfl (by kernel_rfl) ((cs8_size bk.1))) fun u1 hb => ?_
  have HM2 : Hid (Mem w.heap.size w u1 [(w.heap.size + 1, .cells (cs8 us) 23), (w.heap.size, .cells (cs8 ks) 23)]) := (HM.out).keep hb
  clear hb HM
  simp only [Act.put, List.setIfInBounds_toArray, List.set_cons_succ, List.set_cons_zero]
  refine wpList_ok (base := 0) (v := .agg (cs8 us)) (ok_load rfl rfl rfl ((HM2.out).get 0 rfl) Try.underlying23 rfl (by kernel_rfl) ((cs8_size bu.1))) fun u3 hb => ?_
  have HM4 : Hid (Mem w.heap.size w u3 [(w.heap.size + 1, .cells (cs8 us) 23), (w.heap.size, .cells (cs8 ks) 23)]) := (HM2.out).keep hb
  clear hb HM2
  simp only [Act.put, List.setIfInBounds_toArray, List.set_cons_succ, List.set_cons_zero]
  refine wpList_ok (base := 0) (v := .tuple #[.agg (cs8 (keyL r)), .bool false]) (ok_call rfl (by simp [Act.eval, go_sem]) (rshared_weak ks us bk bu r hr hz _)) fun u5 hb => ?_
  have HM6 : Hid (Mem w.heap.size w u5 [(w.heap.size + 1, .cells (cs8 us) 23), (w.heap.size, .cells (cs8 ks) 23)]) := (HM4.out).keep hb
  clear hb HM4
  simp only [Act.put, List.setIfInBounds_toArray, List.set_cons_succ, List.set_cons_zero]
  refine wpList_ok (base := 0) (v := .tuple #[.agg (cs8 (keyL r)), .bool false]) (ok_value rfl (by simp [execOp, Act.eval])) fun u7 hb => ?_
  have HM8 : Hid (Mem w.heap.size w u7 [(w.heap.size + 1, .cells (cs8 us) 23), (w.heap.size, .cells (cs8 ks) 23)]) := (HM6.out).keep hb
  clear hb HM6
  simp only [Act.put, List.setIfInBounds_toArray, List.set_cons_succ, List.set_cons_zero]
  refine wpList_ok (base := 0) (v := .agg (cs8 (keyL r))) (ok_value rfl (by simp [execOp, Act.eval, go_sem])) fun u9 hb => ?_
  have HM10 : Hid (Mem w.heap.size w u9 [(w.heap.size + 1, .cells (cs8 us) 23), (w.heap.size, .cells (cs8 ks) 23)]) := (HM8.out).keep hb
  clear hb HM8
  simp only [Act.put, List.setIfInBounds_toArray, List.set_cons_succ, List.set_cons_zero]
  refine wpList_ok (base := 0) (v := .bool false) (ok_value rfl (by simp [execOp, Act.eval, go_sem])) fun u11 hb => ?_
  have HM12 : Hid (Mem w.heap.size w u11 [(w.heap.size + 1, .cells (cs8 us) 23), (w.heap.size, .cells (cs8 ks) 23)]) := (HM10.out).keep hb
  clear hb HM10
  simp only [Act.put, List.setIfInBounds_toArray, List.set_cons_succ, List.set_cons_zero]
  refine wpList_alloc (o := .cells #[.int .u8 0, .int .u8 0, .int .u8 0, .int .u8 0, .int .u8 0, .int .u8 0, .int .u8 0, .int .u8 0, .int .u8 0, .int .u8 0, .int .u8 0, .int .u8 0, .int .u8 0, .int .u8 0, .int .u8 0, .int .u8 0, .int .u8 0, .int .u8 0, .int .u8 0, .int .u8 0, .int .u8 0, .int .u8 0, .int .u8 0, .int .u8 0, .int .u8 0, .int .u8 0, .int .u8 0, .int .u8 0, .int .u8 0, .int .u8 0, .int .u8 0, .int .u8 0] 22) (v := .pointer (some ⟨u11.heap.size, 0, none⟩)) rfl (by simp [execOp, go_sem]) ?_
  simp only [Act.put, List.setIfInBounds_toArray, List.set_cons_succ, List.set_cons_zero]
  have HM15 : Hid (Mem w.heap.size w _ [(u11.heap.size, .cells #[.int .u8 0, .int .u8 0, .int .u8 0, .int .u8 0, .int .u8 0, .int .u8 0, .int .u8 0, .int .u8 0, .int .u8 0, .int .u8 0, .int .u8 0, .int .u8 0, .int .u8 0, .int .u8 0, .int .u8 0, .int .u8 0, .int .u8 0, .int .u8 0, .int .u8 0, .int .u8 0, .int .u8 0, .int .u8 0, .int .u8 0, .int .u8 0, .int .u8 0, .int .u8 0, .int .u8 0, .int .u8 0, .int .u8 0, .int .u8 0, .int .u8 0, .int .u8 0] 22), (w.heap.size + 1, .cells (cs8 us) 23), (w.heap.size, .cells (cs8 ks) 23)]) := (HM12.out).alloc (.cells #[.int .u8 0, .int .u8 0, .int .u8 0, .int .u8 0, .int .u8 0, .int .u8 0, .int .u8 0, .int .u8 0, .int .u8 0, .int .u8 0, .int .u8 0, .int .u8 0, .int .u8 0, .int .u8 0, .int .u8 0, .int .u8 0, .int .u8 0, .int .u8 0, .int .u8 0, .int .u8 0, .int .u8 0, .int .u8 0, .int .u8 0, .int .u8 0, .int .u8 0, .int .u8 0, .int .u8 0, .int .u8 0, .int .u8 0, .int .u8 0, .int .u8 0, .int .u8 0] 22)
  clear HM12
  generalize u11.alloc (.cells #[.int .u8 0, .int .u8 0, .int .u8 0, .int .u8 0, .int .u8 0, .int .u8 0, .int .u8 0, .int .u8 0, .int .u8 0, .int .u8 0, .int .u8 0, .int .u8 0, .int .u8 0, .int .u8 0, .int .u8 0, .int .u8 0, .int .u8 0, .int .u8 0, .int .u8 0, .int .u8 0, .int .u8 0, .int .u8 0, .int .u8 0, .int .u8 0, .int .u8 0, .int .u8 0, .int .u8 0, .int .u8 0, .int .u8 0, .int .u8 0, .int .u8 0, .int .u8 0] 22) = V13 at *
  generalize u11.heap.size = g16 at *
  refine wpList_store_blk (b := g16) rfl rfl rfl rfl ((HM15.out).get 0 rfl) (by kernel_rfl) (rfl) ((cs8_size (keyL_len _))) (cs8_one _) ?_
  simp only [Act.put]
  generalize hV18 : World.setCells V13 (g16) 0 _ = V17
  have HM19 : Hid (Mem w.heap.size w V17 [(g16, .cells (cs8 (keyL r)) 22), (w.heap.size + 1, .cells (cs8 us) 23), (w.heap.size, .cells (cs8 ks) 23)]) := (by rw [← hV18]; exact (HM15.out).store 0 (cs8 (keyL r)) rfl ((rfl).trans ((cs8_size (keyL_len _))).symm) : Mem w.heap.size w V17 [(g16, .cells (cs8 (keyL r)) 22), (w.heap.size + 1, .cells (cs8 us) 23), (w.heap.size, .cells (cs8 ks) 23)])
  clear hV18 HM15
  refine wpList_ok (base := 0) (v := .bool false) (ok_value rfl (by simp [execOp, Act.eval])) fun u20 hb => ?_
  have HM21 : Hid (Mem w.heap.size w u20 [(g16, .cells (cs8 (keyL r)) 22), (w.heap.size + 1, .cells (cs8 us) 23), (w.heap.size, .cells (cs8 ks) 23)]) := (HM19.out).keep hb
  clear hb HM19
  simp only [Act.put, List.setIfInBounds_toArray, List.set_cons_succ, List.set_cons_zero]
  go_upto_region 2 with fail
  refine wp_region_list ?_
  refine wpList_ok (base := 0) (v := .agg (cs8 ks)) (ok_load rfl rfl rfl ((HM21.out).get 2 rfl) Try.underlying23 rfl (by kernel_rfl) ((cs8_size bk.1))) fun u22 hb => ?_
  have HM23 : Hid (Mem w.heap.size w u22 [(g16, .cells (cs8 (keyL r)) 22), (w.heap.size + 1, .cells (cs8 us) 23), (w.heap.size, .cells (cs8 ks) 23)]) := (HM21.out).keep hb
  clear hb HM21
  simp only [Act.put, List.setIfInBounds_toArray, List.set_cons_succ, List.set_cons_zero]
  refine wpList_ok (base := 0) (v := .agg (cs8 us)) (ok_load rfl rfl rfl ((HM23.out).get 1 rfl) Try.underlying23 rfl (by kernel_rfl) ((cs8_size bu.1))) fun u24 hb => ?_
  have HM25 : Hid (Mem w.heap.size w u24 [(g16, .cells (cs8 (keyL r)) 22), (w.heap.size + 1, .cells (cs8 us) 23), (w.heap.size, .cells (cs8 ks) 23)]) := (HM23.out).keep hb
  clear hb HM23
  simp only [Act.put, List.setIfInBounds_toArray, List.set_cons_succ, List.set_cons_zero]
  refine wpList_ok (base := 0) (v := .tuple #[.agg (cs8 (keyL r)), .int .i64 2]) (ok_call rfl (by simp [Act.eval, go_sem]) (shared_weak ks us bk bu r hr hz _)) fun u26 hb => ?_
  have HM27 : Hid (Mem w.heap.size w u26 [(g16, .cells (cs8 (keyL r)) 22), (w.heap.size + 1, .cells (cs8 us) 23), (w.heap.size, .cells (cs8 ks) 23)]) := (HM25.out).keep hb
  clear hb HM25
  simp only [Act.put, List.setIfInBounds_toArray, List.set_cons_succ, List.set_cons_zero]
  refine wpList_ok (base := 0) (v := .tuple #[.agg (cs8 (keyL r)), .int .i64 2]) (ok_value rfl (by simp [execOp, Act.eval])) fun u28 hb => ?_
  have HM29 : Hid (Mem w.heap.size w u28 [(g16, .cells (cs8 (keyL r)) 22), (w.heap.size + 1, .cells (cs8 us) 23), (w.heap.size, .cells (cs8 ks) 23)]) := (HM27.out).keep hb
  clear hb HM27
  simp only [Act.put, List.setIfInBounds_toArray, List.set_cons_succ, List.set_cons_zero]
  refine wpList_ok (base := 0) (v := .agg (cs8 (keyL r))) (ok_value rfl (by simp [execOp, Act.eval, go_sem])) fun u30 hb => ?_
  have HM31 : Hid (Mem w.heap.size w u30 [(g16, .cells (cs8 (keyL r)) 22), (w.heap.size + 1, .cells (cs8 us) 23), (w.heap.size, .cells (cs8 ks) 23)]) := (HM29.out).keep hb
  clear hb HM29
  simp only [Act.put, List.setIfInBounds_toArray, List.set_cons_succ, List.set_cons_zero]
  refine wpList_ok (base := 0) (v := .int .i64 2) (ok_value rfl (by simp [execOp, Act.eval, go_sem])) fun u32 hb => ?_
  have HM33 : Hid (Mem w.heap.size w u32 [(g16, .cells (cs8 (keyL r)) 22), (w.heap.size + 1, .cells (cs8 us) 23), (w.heap.size, .cells (cs8 ks) 23)]) := (HM31.out).keep hb
  clear hb HM31
  simp only [Act.put, List.setIfInBounds_toArray, List.set_cons_succ, List.set_cons_zero]
  refine wpList_alloc (o := .cells #[.int .u8 0, .int .u8 0, .int .u8 0, .int .u8 0, .int .u8 0, .int .u8 0, .int .u8 0, .int .u8 0, .int .u8 0, .int .u8 0, .int .u8 0, .int .u8 0, .int .u8 0, .int .u8 0, .int .u8 0, .int .u8 0, .int .u8 0, .int .u8 0, .int .u8 0, .int .u8 0, .int .u8 0, .int .u8 0, .int .u8 0, .int .u8 0, .int .u8 0, .int .u8 0, .int .u8 0, .int .u8 0, .int .u8 0, .int .u8 0, .int .u8 0, .int .u8 0] 23) (v := .pointer (some ⟨u32.heap.size, 0, none⟩)) rfl (by simp [execOp, go_sem]) ?_
  simp only [Act.put, List.setIfInBounds_toArray, List.set_cons_succ, List.set_cons_zero]
  have HM36 : Hid (Mem w.heap.size w _ [(u32.heap.size, .cells #[.int .u8 0, .int .u8 0, .int .u8 0, .int .u8 0, .int .u8 0, .int .u8 0, .int .u8 0, .int .u8 0, .int .u8 0, .int .u8 0, .int .u8 0, .int .u8 0, .int .u8 0, .int .u8 0, .int .u8 0, .int .u8 0, .int .u8 0, .int .u8 0, .int .u8 0, .int .u8 0, .int .u8 0, .int .u8 0, .int .u8 0, .int .u8 0, .int .u8 0, .int .u8 0, .int .u8 0, .int .u8 0, .int .u8 0, .int .u8 0, .int .u8 0, .int .u8 0] 23), (g16, .cells (cs8 (keyL r)) 22), (w.heap.size + 1, .cells (cs8 us) 23), (w.heap.size, .cells (cs8 ks) 23)]) := (HM33.out).alloc (.cells #[.int .u8 0, .int .u8 0, .int .u8 0, .int .u8 0, .int .u8 0, .int .u8 0, .int .u8 0, .int .u8 0, .int .u8 0, .int .u8 0, .int .u8 0, .int .u8 0, .int .u8 0, .int .u8 0, .int .u8 0, .int .u8 0, .int .u8 0, .int .u8 0, .int .u8 0, .int .u8 0, .int .u8 0, .int .u8 0, .int .u8 0, .int .u8 0, .int .u8 0, .int .u8 0, .int .u8 0, .int .u8 0, .int .u8 0, .int .u8 0, .int .u8 0, .int .u8 0] 23)
  clear HM33
  generalize u32.alloc (.cells #[.int .u8 0, .int .u8 0, .int .u8 0, .int .u8 0, .int .u8 0, .int .u8 0, .int .u8 0, .int .u8 0, .int .u8 0, .int .u8 0, .int .u8 0, .int .u8 0, .int .u8 0, .int .u8 0, .int .u8 0, .int .u8 0, .int .u8 0, .int .u8 0, .int .u8 0, .int .u8 0, .int .u8 0, .int .u8 0, .int .u8 0, .int .u8 0, .int .u8 0, .int .u8 0, .int .u8 0, .int .u8 0, .int .u8 0, .int .u8 0, .int .u8 0, .int .u8 0] 23) = V34 at *
  generalize u32.heap.size = g37 at *
  refine wpList_store_blk (b := g37) rfl rfl rfl rfl ((HM36.out).get 0 rfl) (by kernel_rfl) (rfl) ((cs8_size (keyL_len _))) (cs8_one _) ?_
  simp only [Act.put]
  generalize hV39 : World.setCells V34 (g37) 0 _ = V38
  have HM40 : Hid (Mem w.heap.size w V38 [(g37, .cells (cs8 (keyL r)) 23), (g16, .cells (cs8 (keyL r)) 22), (w.heap.size + 1, .cells (cs8 us) 23), (w.heap.size, .cells (cs8 ks) 23)]) := (by rw [← hV39]; exact (HM36.out).store 0 (cs8 (keyL r)) rfl ((rfl).trans ((cs8_size (keyL_len _))).symm) : Mem w.heap.size w V38 [(g37, .cells (cs8 (keyL r)) 23), (g16, .cells (cs8 (keyL r)) 22), (w.heap.size + 1, .cells (cs8 us) 23), (w.heap.size, .cells (cs8 ks) 23)])
  clear hV39 HM36
  refine wpList_ok (base := 0) (v := .int .i64 2) (ok_value rfl (by simp [execOp, Act.eval])) fun u41 hb => ?_
  have HM42 : Hid (Mem w.heap.size w u41 [(g37, .cells (cs8 (keyL r)) 23), (g16, .cells (cs8 (keyL r)) 22), (w.heap.size + 1, .cells (cs8 us) 23), (w.heap.size, .cells (cs8 ks) 23)]) := (HM40.out).keep hb
  clear hb HM40
  simp only [Act.put, List.setIfInBounds_toArray, List.set_cons_succ, List.set_cons_zero]
  go_wp2_with fail
  refine region_list u41.heap.size (C := fun w' => Below u41.heap.size u41 w') [.inl (.agg (cs8 ks)), .inl (.agg (cs8 us)), .inl (.agg (cs8 (keyL r))), .inl (.agg (cs8 (keyL r))), .inl (.bool true), .inl (.bool true), .inl (.agg (cs8 ks)), .inl (.agg (cs8 (keyL (pubN ks)))), .inl (.agg (cs8 ks)), .inl (.agg (cs8 (keyL (pubN ks)))), .inl (.bool true), .inl (.bool true), .inl (.bool true), .inl (.agg (cs8 (keyL r))), .inl (.agg (cs8 (keyL r))), .inl (.bool true), .inl (.bool true), .inl (.bool true), .inl (.int .i64 2), .inl (.bool false), .inl (.bool false), .inl (.bool true), .inl (.bool true), .inl (.bool true), .inl (.bool false), .inl (.bool false), .inl (.int .i64 2), .inl (.bool true), .inl (.bool true), .inl (.bool true), .inl (.bool true), .inl (.bool true), .inl (.bool true), .inl (.bool true)] [] (by kernel_rfl) (by kernel_rfl) ⟨rfl, rfl, rfl, Nat.le_refl _, fun _ _ => rfl⟩
    (fun w1 w2 h1 h2 => h1.trans (h2.mono h1.size)) (fun i h => by simp at h) ?_ ?_
  · refine ⟨?_, ?_, ?_, ?_, ?_, ?_, ?_, ?_, ?_, ?_, ?_, ?_, ?_, ?_, ?_, ?_, ?_, ?_, ?_, ?_, ?_, ?_, ?_, ?_, ?_, ?_, ?_, ?_, ?_, ?_, ?_, ?_, ?_, ?_, trivial⟩
    · intro s v hC hk hd
      have h0 : s.tmps[2]? = some (.pointer (some ⟨w.heap.size, 0, none⟩)) := hk 2 (by kernel_rfl)
      exact ok_load rfl rfl h0 (((HM42.out).keep hC).get 3 rfl) Try.underlying23 rfl (by kernel_rfl) ((cs8_size bk.1))
    · intro s v hC hk hd
      have h0 : s.tmps[3]? = some (.pointer (some ⟨w.heap.size + 1, 0, none⟩)) := hk 3 (by kernel_rfl)
      exact ok_load rfl rfl h0 (((HM42.out).keep hC).get 2 rfl) Try.underlying23 rfl (by kernel_rfl) ((cs8_size bu.1))
    · intro s v hC hk hd
      have h0 : s.tmps[21]? = some (.agg (cs8 ks)) := hd 0 (by kernel_rfl)
      have h1 : s.tmps[22]? = some (.agg (cs8 us)) := hd 1 (by kernel_rfl)
      exact ok_call rfl (by simp [Act.eval, h0, h1, go_sem]) (hr ▸ cmul_any ks us bk bu v)
    · intro s v hC hk hd
      have h0 : s.tmps[5]? = some (.pointer (some ⟨g16, 0, none⟩)) := hk 5 (by kernel_rfl)
      exact ok_load rfl rfl h0 (((HM42.out).keep hC).get 1 rfl) Try.underlying22 rfl (by kernel_rfl) ((cs8_size (keyL_len _)))
    · intro s v hC hk hd
      have h0 : s.tmps[23]? = some (.agg (cs8 (keyL r))) := hd 2 (by kernel_rfl)
      have h1 : s.tmps[24]? = some (.agg (cs8 (keyL r))) := hd 3 (by kernel_rfl)
      exact ok_eql_cs8 (keyL r) (keyL r) true rfl rfl rfl (keyL_len _) (keyL_len _) (key_self _) h0 h1
    · intro s v hC hk hd
      have h0 : s.tmps[25]? = some (.bool true) := hd 4 (by kernel_rfl)
      exact ok_value rfl (by simp [execOp, Act.eval, h0])
    · intro s v hC hk hd
      have h0 : s.tmps[2]? = some (.pointer (some ⟨w.heap.size, 0, none⟩)) := hk 2 (by kernel_rfl)
      exact ok_load (wanted_of rfl rfl (hd 5 (by kernel_rfl))) rfl h0 (((HM42.out).keep hC).get 3 rfl) Try.underlying23 rfl (by kernel_rfl) ((cs8_size bk.1))
    · intro s v hC hk hd
      have h0 : s.tmps[27]? = some (.agg (cs8 ks)) := hd 6 (by kernel_rfl)
      exact ok_call (wanted_of rfl rfl (hd 5 (by kernel_rfl))) (by simp [Act.eval, h0, go_sem]) (public_any ks bk v)
    · intro s v hC hk hd
      have h0 : s.tmps[2]? = some (.pointer (some ⟨w.heap.size, 0, none⟩)) := hk 2 (by kernel_rfl)
      exact ok_load (wanted_of rfl rfl (hd 5 (by kernel_rfl))) rfl h0 (((HM42.out).keep hC).get 3 rfl) Try.underlying23 rfl (by kernel_rfl) ((cs8_size bk.1))
    · intro s v hC hk hd
      have h0 : s.tmps[29]? = some (.agg (cs8 ks)) := hd 8 (by kernel_rfl)
      exact ok_call (wanted_of rfl rfl (hd 5 (by kernel_rfl))) (by simp [Act.eval, h0, go_sem]) (rpublic_any ks bk v)
    · intro s v hC hk hd
      have h0 : s.tmps[28]? = some (.agg (cs8 (keyL (pubN ks)))) := hd 7 (by kernel_rfl)
      have h1 : s.tmps[30]? = some (.agg (cs8 (keyL (pubN ks)))) := hd 9 (by kernel_rfl)
      exact ok_eql_cs8 (keyL (pubN ks)) (keyL (pubN ks)) true (wanted_of rfl rfl (hd 5 (by kernel_rfl))) rfl rfl (keyL_len _) (keyL_len _) (key_self _) h0 h1
    · intro s v hC hk hd
      have h0 : s.tmps[26]? = some (.bool true) := hd 5 (by kernel_rfl)
      have h1 : s.tmps[31]? = some (.bool true) := hd 10 (by kernel_rfl)
      exact ok_value rfl (by simp [execOp, Act.eval, h0, h1, go_sem])
    · intro s v hC hk hd
      have h0 : s.tmps[32]? = some (.bool true) := hd 11 (by kernel_rfl)
      exact ok_value rfl (by simp [execOp, Act.eval, h0])
    · intro s v hC hk hd
      have h0 : s.tmps[7]? = some (.pointer (some ⟨g37, 0, none⟩)) := hk 7 (by kernel_rfl)
      exact ok_load (wanted_of rfl rfl (hd 12 (by kernel_rfl))) rfl h0 (((HM42.out).keep hC).get 0 rfl) Try.underlying23 rfl (by kernel_rfl) ((cs8_size (keyL_len _)))
    · intro s v hC hk hd
      have h0 : s.tmps[5]? = some (.pointer (some ⟨g16, 0, none⟩)) := hk 5 (by kernel_rfl)
      exact ok_load (wanted_of rfl rfl (hd 12 (by kernel_rfl))) rfl h0 (((HM42.out).keep hC).get 1 rfl) Try.underlying22 rfl (by kernel_rfl) ((cs8_size (keyL_len _)))
    · intro s v hC hk hd
      have h0 : s.tmps[34]? = some (.agg (cs8 (keyL r))) := hd 13 (by kernel_rfl)
      have h1 : s.tmps[35]? = some (.agg (cs8 (keyL r))) := hd 14 (by kernel_rfl)
      exact ok_eql_cs8 (keyL r) (keyL r) true (wanted_of rfl rfl (hd 12 (by kernel_rfl))) rfl rfl (keyL_len _) (keyL_len _) (key_self _) h0 h1
    · intro s v hC hk hd
      have h0 : s.tmps[33]? = some (.bool true) := hd 12 (by kernel_rfl)
      have h1 : s.tmps[36]? = some (.bool true) := hd 15 (by kernel_rfl)
      exact ok_value rfl (by simp [execOp, Act.eval, h0, h1, go_sem])
    · intro s v hC hk hd
      have h0 : s.tmps[37]? = some (.bool true) := hd 16 (by kernel_rfl)
      exact ok_value rfl (by simp [execOp, Act.eval, h0])
    · intro s v hC hk hd
      have h0 : s.tmps[8]? = some (.int .i64 2) := hk 8 (by kernel_rfl)
      exact ok_value (wanted_of rfl rfl (hd 17 (by kernel_rfl))) (by simp [execOp, Act.eval, h0])
    · intro s v hC hk hd
      have h0 : s.tmps[39]? = some (.int .i64 2) := hd 18 (by kernel_rfl)
      exact ok_value (wanted_of rfl rfl (hd 17 (by kernel_rfl))) (by simp [execOp, Act.eval, h0, go_sem])
    · intro s v hC hk hd
      have h0 : s.tmps[6]? = some (.bool false) := hk 6 (by kernel_rfl)
      exact ok_value (wanted_of rfl rfl (hd 17 (by kernel_rfl))) (by simp [execOp, Act.eval, h0])
    · intro s v hC hk hd
      have h0 : s.tmps[40]? = some (.bool false) := hd 19 (by kernel_rfl)
      have h1 : s.tmps[41]? = some (.bool false) := hd 20 (by kernel_rfl)
      exact ok_value (wanted_of rfl rfl (hd 17 (by kernel_rfl))) (by simp [execOp, Act.eval, h0, h1, go_sem])
    · intro s v hC hk hd
      have h0 : s.tmps[38]? = some (.bool true) := hd 17 (by kernel_rfl)
      have h1 : s.tmps[42]? = some (.bool true) := hd 21 (by kernel_rfl)
      exact ok_value rfl (by simp [execOp, Act.eval, h0, h1, go_sem])
    · intro s v hC hk hd
      have h0 : s.tmps[43]? = some (.bool true) := hd 22 (by kernel_rfl)
      exact ok_value rfl (by simp [execOp, Act.eval, h0])
    · intro s v hC hk hd
      have h0 : s.tmps[6]? = some (.bool false) := hk 6 (by kernel_rfl)
      exact ok_value (wanted_of rfl rfl (hd 23 (by kernel_rfl))) (by simp [execOp, Act.eval, h0])
    · intro s v hC hk hd
      have h0 : s.tmps[45]? = some (.bool false) := hd 24 (by kernel_rfl)
      exact ok_value (wanted_of rfl rfl (hd 23 (by kernel_rfl))) (by simp [execOp, Act.eval, h0])
    · intro s v hC hk hd
      have h0 : s.tmps[8]? = some (.int .i64 2) := hk 8 (by kernel_rfl)
      exact ok_value (wanted_of rfl rfl (hd 25 (by kernel_rfl))) (by simp [execOp, Act.eval, h0])
    · intro s v hC hk hd
      have h0 : s.tmps[47]? = some (.int .i64 2) := hd 26 (by kernel_rfl)
      exact ok_value (wanted_of rfl rfl (hd 25 (by kernel_rfl))) (by simp [execOp, Act.eval, h0, go_sem])
    · intro s v hC hk hd
      have h0 : s.tmps[46]? = some (.bool false) := hd 25 (by kernel_rfl)
      have h1 : s.tmps[48]? = some (.bool true) := hd 27 (by kernel_rfl)
      exact ok_value (wanted_of rfl rfl (hd 23 (by kernel_rfl))) (by simp [execOp, Act.eval, h0, h1, go_sem])
    · intro s v hC hk hd
      have h0 : s.tmps[44]? = some (.bool true) := hd 23 (by kernel_rfl)
      have h1 : s.tmps[49]? = some (.bool true) := hd 28 (by kernel_rfl)
      exact ok_value rfl (by simp [execOp, Act.eval, h0, h1, go_sem])
    · intro s v hC hk hd
      have h0 : s.tmps[50]? = some (.bool true) := hd 29 (by kernel_rfl)
      exact ok_value rfl (by simp [execOp, Act.eval, h0])
    · intro s v hC hk hd
      exact ok_call (wanted_of rfl rfl (hd 30 (by kernel_rfl))) (by simp [go_sem]) (wakes_any v)
    · intro s v hC hk hd
      have h0 : s.tmps[51]? = some (.bool true) := hd 30 (by kernel_rfl)
      have h1 : s.tmps[52]? = some (.bool true) := hd 31 (by kernel_rfl)
      exact ok_value rfl (by simp [execOp, Act.eval, h0, h1, go_sem])
    · intro s v hC hk hd
      have h0 : s.tmps[53]? = some (.bool true) := hd 32 (by kernel_rfl)
      exact ok_value rfl (by simp [execOp, Act.eval, h0])
  · intro nb wA43 hC hf hne
    have M44 := (HM42.out).keep hC
    clear hf hne hC
    simp [valsOf, valOf, putAll, Act.put]
    have HM45 : Hid (Mem w.heap.size w wA43 [(g37, .cells (cs8 (keyL r)) 23), (g16, .cells (cs8 (keyL r)) 22), (w.heap.size + 1, .cells (cs8 us) 23), (w.heap.size, .cells (cs8 ks) 23)]) := M44
    go_wp2_with fail
    go_ret
    exact ⟨rfl, (HM45.out).below⟩

set_option maxRecDepth 100000 in
set_option maxHeartbeats 8000000 in
theorem tells_ok (ks us : List Nat) (bk : Bytes ks) (bu : Bytes us) (r : Nat) (hr : curveN ks us = r) (hz : (keyL r == zero32) = false) (w : World) :
    Calls Try.prog 3 #[.agg (cs8 ks), .agg (cs8 us)] w fun e w' => e = .returned (.bool true) ∧ Below w.heap.size w w' := by
  go_enter Try.func3, Try.ntmps3
  go_upto_region 1 with fail
  generalize hW : World.alloc (World.alloc w _) _ = W
  have HM : Hid (Mem w.heap.size w W [(w.heap.size + 1, .cells (cs8 us) 23), (w.heap.size, .cells (cs8 ks) 23)]) := (by rw [← hW]; exact ((Mem.start w).allocAt _ rfl).allocAt _ (by simp) : Mem w.heap.size w W [(w.heap.size + 1, .cells (cs8 us) 23), (w.heap.size, .cells (cs8 ks) 23)])
  clear hW
  refine wp_region_list ?_
  refine wpList_ok (base := 0) (v := .agg (cs8 ks)) (ok_load rfl rfl rfl ((HM.out).get 1 rfl) Try.underlying23 rfl (by kernel_rfl) ((cs8_size bk.1))) fun u1 hb => ?_
  have HM2 : Hid (Mem w.heap.size w u1 [(w.heap.size + 1, .cells (cs8 us) 23), (w.heap.size, .cells (cs8 ks) 23)]) := (HM.out).keep hb
  clear hb HM
  simp only [Act.put, List.setIfInBounds_toArray, List.set_cons_succ, List.set_cons_zero]
  refine wpList_ok (base := 0) (v := .agg (cs8 us)) (ok_load rfl rfl rfl ((HM2.out).get 0 rfl) Try.underlying23 rfl (by kernel_rfl) ((cs8_size bu.1))) fun u3 hb => ?_
  have HM4 : Hid (Mem w.heap.size w u3 [(w.heap.size + 1, .cells (cs8 us) 23), (w.heap.size, .cells (cs8 ks) 23)]) := (HM2.out).keep hb
  clear hb HM2
  simp only [Act.put, List.setIfInBounds_toArray, List.set_cons_succ, List.set_cons_zero]
  refine wpList_ok (base := 0) (v := .tuple #[.agg (cs8 (keyL r)), .bool true]) (ok_call rfl (by simp [Act.eval, go_sem]) (rshared_ok ks us bk bu r hr hz _)) fun u5 hb => ?_
  have HM6 : Hid (Mem w.heap.size w u5 [(w.heap.size + 1, .cells (cs8 us) 23), (w.heap.size, .cells (cs8 ks) 23)]) := (HM4.out).keep hb
  clear hb HM4
  simp only [Act.put, List.setIfInBounds_toArray, List.set_cons_succ, List.set_cons_zero]
  refine wpList_ok (base := 0) (v := .tuple #[.agg (cs8 (keyL r)), .bool true]) (ok_value rfl (by simp [execOp, Act.eval])) fun u7 hb => ?_
  have HM8 : Hid (Mem w.heap.size w u7 [(w.heap.size + 1, .cells (cs8 us) 23), (w.heap.size, .cells (cs8 ks) 23)]) := (HM6.out).keep hb
  clear hb HM6
  simp only [Act.put, List.setIfInBounds_toArray, List.set_cons_succ, List.set_cons_zero]
  refine wpList_ok (base := 0) (v := .agg (cs8 (keyL r))) (ok_value rfl (by simp [execOp, Act.eval, go_sem])) fun u9 hb => ?_
  have HM10 : Hid (Mem w.heap.size w u9 [(w.heap.size + 1, .cells (cs8 us) 23), (w.heap.size, .cells (cs8 ks) 23)]) := (HM8.out).keep hb
  clear hb HM8
  simp only [Act.put, List.setIfInBounds_toArray, List.set_cons_succ, List.set_cons_zero]
  refine wpList_ok (base := 0) (v := .bool true) (ok_value rfl (by simp [execOp, Act.eval, go_sem])) fun u11 hb => ?_
  have HM12 : Hid (Mem w.heap.size w u11 [(w.heap.size + 1, .cells (cs8 us) 23), (w.heap.size, .cells (cs8 ks) 23)]) := (HM10.out).keep hb
  clear hb HM10
  simp only [Act.put, List.setIfInBounds_toArray, List.set_cons_succ, List.set_cons_zero]
  refine wpList_alloc (o := .cells #[.int .u8 0, .int .u8 0, .int .u8 0, .int .u8 0, .int .u8 0, .int .u8 0, .int .u8 0, .int .u8 0, .int .u8 0, .int .u8 0, .int .u8 0, .int .u8 0, .int .u8 0, .int .u8 0, .int .u8 0, .int .u8 0, .int .u8 0, .int .u8 0, .int .u8 0, .int .u8 0, .int .u8 0, .int .u8 0, .int .u8 0, .int .u8 0, .int .u8 0, .int .u8 0, .int .u8 0, .int .u8 0, .int .u8 0, .int .u8 0, .int .u8 0, .int .u8 0] 22) (v := .pointer (some ⟨u11.heap.size, 0, none⟩)) rfl (by simp [execOp, go_sem]) ?_
  simp only [Act.put, List.setIfInBounds_toArray, List.set_cons_succ, List.set_cons_zero]
  have HM15 : Hid (Mem w.heap.size w _ [(u11.heap.size, .cells #[.int .u8 0, .int .u8 0, .int .u8 0, .int .u8 0, .int .u8 0, .int .u8 0, .int .u8 0, .int .u8 0, .int .u8 0, .int .u8 0, .int .u8 0, .int .u8 0, .int .u8 0, .int .u8 0, .int .u8 0, .int .u8 0, .int .u8 0, .int .u8 0, .int .u8 0, .int .u8 0, .int .u8 0, .int .u8 0, .int .u8 0, .int .u8 0, .int .u8 0, .int .u8 0, .int .u8 0, .int .u8 0, .int .u8 0, .int .u8 0, .int .u8 0, .int .u8 0] 22), (w.heap.size + 1, .cells (cs8 us) 23), (w.heap.size, .cells (cs8 ks) 23)]) := (HM12.out).alloc (.cells #[.int .u8 0, .int .u8 0, .int .u8 0, .int .u8 0, .int .u8 0, .int .u8 0, .int .u8 0, .int .u8 0, .int .u8 0, .int .u8 0, .int .u8 0, .int .u8 0, .int .u8 0, .int .u8 0, .int .u8 0, .int .u8 0, .int .u8 0, .int .u8 0, .int .u8 0, .int .u8 0, .int .u8 0, .int .u8 0, .int .u8 0, .int .u8 0, .int .u8 0, .int .u8 0, .int .u8 0, .int .u8 0, .int .u8 0, .int .u8 0, .int .u8 0, .int .u8 0] 22)
  clear HM12
  generalize u11.alloc (.cells #[.int .u8 0, .int .u8 0, .int .u8 0, .int .u8 0, .int .u8 0, .int .u8 0, .int .u8 0, .int .u8 0, .int .u8 0, .int .u8 0, .int .u8 0, .int .u8 0, .int .u8 0, .int .u8 0, .int .u8 0, .int .u8 0, .int .u8 0, .int .u8 0, .int .u8 0, .int .u8 0, .int .u8 0, .int .u8 0, .int .u8 0, .int .u8 0, .int .u8 0, .int .u8 0, .int .u8 0, .int .u8 0, .int .u8 0, .int .u8 0, .int .u8 0, .int .u8 0] 22) = V13 at *
  generalize u11.heap.size = g16 at *
  refine wpList_store_blk (b := g16) rfl rfl rfl rfl ((HM15.out).get 0 rfl) (by kernel_rfl) (rfl) ((cs8_size (keyL_len _))) (cs8_one _) ?_
  simp only [Act.put]
  generalize hV18 : World.setCells V13 (g16) 0 _ = V17
  have HM19 : Hid (Mem w.heap.size w V17 [(g16, .cells (cs8 (keyL r)) 22), (w.heap.size + 1, .cells (cs8 us) 23), (w.heap.size, .cells (cs8 ks) 23)]) := (by rw [← hV18]; exact (HM15.out).store 0 (cs8 (keyL r)) rfl ((rfl).trans ((cs8_size (keyL_len _))).symm) : Mem w.heap.size w V17 [(g16, .cells (cs8 (keyL r)) 22), (w.heap.size + 1, .cells (cs8 us) 23), (w.heap.size, .cells (cs8 ks) 23)])
  clear hV18 HM15
  refine wpList_ok (base := 0) (v := .bool true) (ok_value rfl (by simp [execOp, Act.eval])) fun u20 hb => ?_
  have HM21 : Hid (Mem w.heap.size w u20 [(g16, .cells (cs8 (keyL r)) 22), (w.heap.size + 1, .cells (cs8 us) 23), (w.heap.size, .cells (cs8 ks) 23)]) := (HM19.out).keep hb
  clear hb HM19
  simp only [Act.put, List.setIfInBounds_toArray, List.set_cons_succ, List.set_cons_zero]
  go_upto_region 2 with fail
  refine wp_region_list ?_
  refine wpList_ok (base := 0) (v := .agg (cs8 ks)) (ok_load rfl rfl rfl ((HM21.out).get 2 rfl) Try.underlying23 rfl (by kernel_rfl) ((cs8_size bk.1))) fun u22 hb => ?_
  have HM23 : Hid (Mem w.heap.size w u22 [(g16, .cells (cs8 (keyL r)) 22), (w.heap.size + 1, .cells (cs8 us) 23), (w.heap.size, .cells (cs8 ks) 23)]) := (HM21.out).keep hb
  clear hb HM21
  simp only [Act.put, List.setIfInBounds_toArray, List.set_cons_succ, List.set_cons_zero]
  refine wpList_ok (base := 0) (v := .agg (cs8 us)) (ok_load rfl rfl rfl ((HM23.out).get 1 rfl) Try.underlying23 rfl (by kernel_rfl) ((cs8_size bu.1))) fun u24 hb => ?_
  have HM25 : Hid (Mem w.heap.size w u24 [(g16, .cells (cs8 (keyL r)) 22), (w.heap.size + 1, .cells (cs8 us) 23), (w.heap.size, .cells (cs8 ks) 23)]) := (HM23.out).keep hb
  clear hb HM23
  simp only [Act.put, List.setIfInBounds_toArray, List.set_cons_succ, List.set_cons_zero]
  refine wpList_ok (base := 0) (v := .tuple #[.agg (cs8 (keyL r)), .int .i64 0]) (ok_call rfl (by simp [Act.eval, go_sem]) (shared_ok ks us bk bu r hr hz _)) fun u26 hb => ?_
  have HM27 : Hid (Mem w.heap.size w u26 [(g16, .cells (cs8 (keyL r)) 22), (w.heap.size + 1, .cells (cs8 us) 23), (w.heap.size, .cells (cs8 ks) 23)]) := (HM25.out).keep hb
  clear hb HM25
  simp only [Act.put, List.setIfInBounds_toArray, List.set_cons_succ, List.set_cons_zero]
  refine wpList_ok (base := 0) (v := .tuple #[.agg (cs8 (keyL r)), .int .i64 0]) (ok_value rfl (by simp [execOp, Act.eval])) fun u28 hb => ?_
  have HM29 : Hid (Mem w.heap.size w u28 [(g16, .cells (cs8 (keyL r)) 22), (w.heap.size + 1, .cells (cs8 us) 23), (w.heap.size, .cells (cs8 ks) 23)]) := (HM27.out).keep hb
  clear hb HM27
  simp only [Act.put, List.setIfInBounds_toArray, List.set_cons_succ, List.set_cons_zero]
  refine wpList_ok (base := 0) (v := .agg (cs8 (keyL r))) (ok_value rfl (by simp [execOp, Act.eval, go_sem])) fun u30 hb => ?_
  have HM31 : Hid (Mem w.heap.size w u30 [(g16, .cells (cs8 (keyL r)) 22), (w.heap.size + 1, .cells (cs8 us) 23), (w.heap.size, .cells (cs8 ks) 23)]) := (HM29.out).keep hb
  clear hb HM29
  simp only [Act.put, List.setIfInBounds_toArray, List.set_cons_succ, List.set_cons_zero]
  refine wpList_ok (base := 0) (v := .int .i64 0) (ok_value rfl (by simp [execOp, Act.eval, go_sem])) fun u32 hb => ?_
  have HM33 : Hid (Mem w.heap.size w u32 [(g16, .cells (cs8 (keyL r)) 22), (w.heap.size + 1, .cells (cs8 us) 23), (w.heap.size, .cells (cs8 ks) 23)]) := (HM31.out).keep hb
  clear hb HM31
  simp only [Act.put, List.setIfInBounds_toArray, List.set_cons_succ, List.set_cons_zero]
  refine wpList_alloc (o := .cells #[.int .u8 0, .int .u8 0, .int .u8 0, .int .u8 0, .int .u8 0, .int .u8 0, .int .u8 0, .int .u8 0, .int .u8 0, .int .u8 0, .int .u8 0, .int .u8 0, .int .u8 0, .int .u8 0, .int .u8 0, .int .u8 0, .int .u8 0, .int .u8 0, .int .u8 0, .int .u8 0, .int .u8 0, .int .u8 0, .int .u8 0, .int .u8 0, .int .u8 0, .int .u8 0, .int .u8 0, .int .u8 0, .int .u8 0, .int .u8 0, .int .u8 0, .int .u8 0] 23) (v := .pointer (some ⟨u32.heap.size, 0, none⟩)) rfl (by simp [execOp, go_sem]) ?_
  simp only [Act.put, List.setIfInBounds_toArray, List.set_cons_succ, List.set_cons_zero]
  have HM36 : Hid (Mem w.heap.size w _ [(u32.heap.size, .cells #[.int .u8 0, .int .u8 0, .int .u8 0, .int .u8 0, .int .u8 0, .int .u8 0, .int .u8 0, .int .u8 0, .int .u8 0, .int .u8 0, .int .u8 0, .int .u8 0, .int .u8 0, .int .u8 0, .int .u8 0, .int .u8 0, .int .u8 0, .int .u8 0, .int .u8 0, .int .u8 0, .int .u8 0, .int .u8 0, .int .u8 0, .int .u8 0, .int .u8 0, .int .u8 0, .int .u8 0, .int .u8 0, .int .u8 0, .int .u8 0, .int .u8 0, .int .u8 0] 23), (g16, .cells (cs8 (keyL r)) 22), (w.heap.size + 1, .cells (cs8 us) 23), (w.heap.size, .cells (cs8 ks) 23)]) := (HM33.out).alloc (.cells #[.int .u8 0, .int .u8 0, .int .u8 0, .int .u8 0, .int .u8 0, .int .u8 0, .int .u8 0, .int .u8 0, .int .u8 0, .int .u8 0, .int .u8 0, .int .u8 0, .int .u8 0, .int .u8 0, .int .u8 0, .int .u8 0, .int .u8 0, .int .u8 0, .int .u8 0, .int .u8 0, .int .u8 0, .int .u8 0, .int .u8 0, .int .u8 0, .int .u8 0, .int .u8 0, .int .u8 0, .int .u8 0, .int .u8 0, .int .u8 0, .int .u8 0, .int .u8 0] 23)
  clear HM33
  generalize u32.alloc (.cells #[.int .u8 0, .int .u8 0, .int .u8 0, .int .u8 0, .int .u8 0, .int .u8 0, .int .u8 0, .int .u8 0, .int .u8 0, .int .u8 0, .int .u8 0, .int .u8 0, .int .u8 0, .int .u8 0, .int .u8 0, .int .u8 0, .int .u8 0, .int .u8 0, .int .u8 0, .int .u8 0, .int .u8 0, .int .u8 0, .int .u8 0, .int .u8 0, .int .u8 0, .int .u8 0, .int .u8 0, .int .u8 0, .int .u8 0, .int .u8 0, .int .u8 0, .int .u8 0] 23) = V34 at *
  generalize u32.heap.size = g37 at *
  refine wpList_store_blk (b := g37) rfl rfl rfl rfl ((HM36.out).get 0 rfl) (by kernel_rfl) (rfl) ((cs8_size (keyL_len _))) (cs8_one _) ?_
  simp only [Act.put]
  generalize hV39 : World.setCells V34 (g37) 0 _ = V38
  have HM40 : Hid (Mem w.heap.size w V38 [(g37, .cells (cs8 (keyL r)) 23), (g16, .cells (cs8 (keyL r)) 22), (w.heap.size + 1, .cells (cs8 us) 23), (w.heap.size, .cells (cs8 ks) 23)]) := (by rw [← hV39]; exact (HM36.out).store 0 (cs8 (keyL r)) rfl ((rfl).trans ((cs8_size (keyL_len _))).symm) : Mem w.heap.size w V38 [(g37, .cells (cs8 (keyL r)) 23), (g16, .cells (cs8 (keyL r)) 22), (w.heap.size + 1, .cells (cs8 us) 23), (w.heap.size, .cells (cs8 ks) 23)])
  clear hV39 HM36
  refine wpList_ok (base := 0) (v := .int .i64 0) (ok_value rfl (by simp [execOp, Act.eval])) fun u41 hb => ?_
  have HM42 : Hid (Mem w.heap.size w u41 [(g37, .cells (cs8 (keyL r)) 23), (g16, .cells (cs8 (keyL r)) 22), (w.heap.size + 1, .cells (cs8 us) 23), (w.heap.size, .cells (cs8 ks) 23)]) := (HM40.out).keep hb
  clear hb HM40
  simp only [Act.put, List.setIfInBounds_toArray, List.set_cons_succ, List.set_cons_zero]
  go_wp2_with fail
  refine region_list u41.heap.size (C := fun w' => Below u41.heap.size u41 w') [.inl (.agg (cs8 ks)), .inl (.agg (cs8 us)), .inl (.agg (cs8 (keyL r))), .inl (.agg (cs8 (keyL r))), .inl (.bool true), .inl (.bool true), .inl (.agg (cs8 ks)), .inl (.agg (cs8 (keyL (pubN ks)))), .inl (.agg (cs8 ks)), .inl (.agg (cs8 (keyL (pubN ks)))), .inl (.bool true), .inl (.bool true), .inl (.bool true), .inl (.agg (cs8 (keyL r))), .inl (.agg (cs8 (keyL r))), .inl (.bool true), .inl (.bool true), .inl (.bool true), .inl (.int .i64 0), .inl (.bool true), .inl (.bool true), .inl (.bool true), .inl (.bool true), .inl (.bool true), .inl (.bool true), .inl (.bool true), .inl (undef), .inl (undef), .inl (.bool true), .inl (.bool true), .inl (.bool true), .inl (.bool true), .inl (.bool true), .inl (.bool true)] [] (by kernel_rfl) (by kernel_rfl) ⟨rfl, rfl, rfl, Nat.le_refl _, fun _ _ => rfl⟩
    (fun w1 w2 h1 h2 => h1.trans (h2.mono h1.size)) (fun i h => by simp at h) ?_ ?_
  · refine ⟨?_, ?_, ?_, ?_, ?_, ?_, ?_, ?_, ?_, ?_, ?_, ?_, ?_, ?_, ?_, ?_, ?_, ?_, ?_, ?_, ?_, ?_, ?_, ?_, ?_, ?_, ?_, ?_, ?_, ?_, ?_, ?_, ?_, ?_, trivial⟩
    · intro s v hC hk hd
      have h0 : s.tmps[2]? = some (.pointer (some ⟨w.heap.size, 0, none⟩)) := hk 2 (by kernel_rfl)
      exact ok_load rfl rfl h0 (((HM42.out).keep hC).get 3 rfl) Try.underlying23 rfl (by kernel_rfl) ((cs8_size bk.1))
    · intro s v hC hk hd
      have h0 : s.tmps[3]? = some (.pointer (some ⟨w.heap.size + 1, 0, none⟩)) := hk 3 (by kernel_rfl)
      exact ok_load rfl rfl h0 (((HM42.out).keep hC).get 2 rfl) Try.underlying23 rfl (by kernel_rfl) ((cs8_size bu.1))
    · intro s v hC hk hd
      have h0 : s.tmps[21]? = some (.agg (cs8 ks)) := hd 0 (by kernel_rfl)
      have h1 : s.tmps[22]? = some (.agg (cs8 us)) := hd 1 (by kernel_rfl)
      exact ok_call rfl (by simp [Act.eval, h0, h1, go_sem]) (hr ▸ cmul_any ks us bk bu v)
    · intro s v hC hk hd
      have h0 : s.tmps[5]? = some (.pointer (some ⟨g16, 0, none⟩)) := hk 5 (by kernel_rfl)
      exact ok_load rfl rfl h0 (((HM42.out).keep hC).get 1 rfl) Try.underlying22 rfl (by kernel_rfl) ((cs8_size (keyL_len _)))
    · intro s v hC hk hd
      have h0 : s.tmps[23]? = some (.agg (cs8 (keyL r))) := hd 2 (by kernel_rfl)
      have h1 : s.tmps[24]? = some (.agg (cs8 (keyL r))) := hd 3 (by kernel_rfl)
      exact ok_eql_cs8 (keyL r) (keyL r) true rfl rfl rfl (keyL_len _) (keyL_len _) (key_self _) h0 h1
    · intro s v hC hk hd
      have h0 : s.tmps[25]? = some (.bool true) := hd 4 (by kernel_rfl)
      exact ok_value rfl (by simp [execOp, Act.eval, h0])
    · intro s v hC hk hd
      have h0 : s.tmps[2]? = some (.pointer (some ⟨w.heap.size, 0, none⟩)) := hk 2 (by kernel_rfl)
      exact ok_load (wanted_of rfl rfl (hd 5 (by kernel_rfl))) rfl h0 (((HM42.out).keep hC).get 3 rfl) Try.underlying23 rfl (by kernel_rfl) ((cs8_size bk.1))
    · intro s v hC hk hd
      have h0 : s.tmps[27]? = some (.agg (cs8 ks)) := hd 6 (by kernel_rfl)
      exact ok_call (wanted_of rfl rfl (hd 5 (by kernel_rfl))) (by simp [Act.eval, h0, go_sem]) (public_any ks bk v)
    · intro s v hC hk hd
      have h0 : s.tmps[2]? = some (.pointer (some ⟨w.heap.size, 0, none⟩)) := hk 2 (by kernel_rfl)
      exact ok_load (wanted_of rfl rfl (hd 5 (by kernel_rfl))) rfl h0 (((HM42.out).keep hC).get 3 rfl) Try.underlying23 rfl (by kernel_rfl) ((cs8_size bk.1))
    · intro s v hC hk hd
      have h0 : s.tmps[29]? = some (.agg (cs8 ks)) := hd 8 (by kernel_rfl)
      exact ok_call (wanted_of rfl rfl (hd 5 (by kernel_rfl))) (by simp [Act.eval, h0, go_sem]) (rpublic_any ks bk v)
    · intro s v hC hk hd
      have h0 : s.tmps[28]? = some (.agg (cs8 (keyL (pubN ks)))) := hd 7 (by kernel_rfl)
      have h1 : s.tmps[30]? = some (.agg (cs8 (keyL (pubN ks)))) := hd 9 (by kernel_rfl)
      exact ok_eql_cs8 (keyL (pubN ks)) (keyL (pubN ks)) true (wanted_of rfl rfl (hd 5 (by kernel_rfl))) rfl rfl (keyL_len _) (keyL_len _) (key_self _) h0 h1
    · intro s v hC hk hd
      have h0 : s.tmps[26]? = some (.bool true) := hd 5 (by kernel_rfl)
      have h1 : s.tmps[31]? = some (.bool true) := hd 10 (by kernel_rfl)
      exact ok_value rfl (by simp [execOp, Act.eval, h0, h1, go_sem])
    · intro s v hC hk hd
      have h0 : s.tmps[32]? = some (.bool true) := hd 11 (by kernel_rfl)
      exact ok_value rfl (by simp [execOp, Act.eval, h0])
    · intro s v hC hk hd
      have h0 : s.tmps[7]? = some (.pointer (some ⟨g37, 0, none⟩)) := hk 7 (by kernel_rfl)
      exact ok_load (wanted_of rfl rfl (hd 12 (by kernel_rfl))) rfl h0 (((HM42.out).keep hC).get 0 rfl) Try.underlying23 rfl (by kernel_rfl) ((cs8_size (keyL_len _)))
    · intro s v hC hk hd
      have h0 : s.tmps[5]? = some (.pointer (some ⟨g16, 0, none⟩)) := hk 5 (by kernel_rfl)
      exact ok_load (wanted_of rfl rfl (hd 12 (by kernel_rfl))) rfl h0 (((HM42.out).keep hC).get 1 rfl) Try.underlying22 rfl (by kernel_rfl) ((cs8_size (keyL_len _)))
    · intro s v hC hk hd
      have h0 : s.tmps[34]? = some (.agg (cs8 (keyL r))) := hd 13 (by kernel_rfl)
      have h1 : s.tmps[35]? = some (.agg (cs8 (keyL r))) := hd 14 (by kernel_rfl)
      exact ok_eql_cs8 (keyL r) (keyL r) true (wanted_of rfl rfl (hd 12 (by kernel_rfl))) rfl rfl (keyL_len _) (keyL_len _) (key_self _) h0 h1
    · intro s v hC hk hd
      have h0 : s.tmps[33]? = some (.bool true) := hd 12 (by kernel_rfl)
      have h1 : s.tmps[36]? = some (.bool true) := hd 15 (by kernel_rfl)
      exact ok_value rfl (by simp [execOp, Act.eval, h0, h1, go_sem])
    · intro s v hC hk hd
      have h0 : s.tmps[37]? = some (.bool true) := hd 16 (by kernel_rfl)
      exact ok_value rfl (by simp [execOp, Act.eval, h0])
    · intro s v hC hk hd
      have h0 : s.tmps[8]? = some (.int .i64 0) := hk 8 (by kernel_rfl)
      exact ok_value (wanted_of rfl rfl (hd 17 (by kernel_rfl))) (by simp [execOp, Act.eval, h0])
    · intro s v hC hk hd
      have h0 : s.tmps[39]? = some (.int .i64 0) := hd 18 (by kernel_rfl)
      exact ok_value (wanted_of rfl rfl (hd 17 (by kernel_rfl))) (by simp [execOp, Act.eval, h0, go_sem])
    · intro s v hC hk hd
      have h0 : s.tmps[6]? = some (.bool true) := hk 6 (by kernel_rfl)
      exact ok_value (wanted_of rfl rfl (hd 17 (by kernel_rfl))) (by simp [execOp, Act.eval, h0])
    · intro s v hC hk hd
      have h0 : s.tmps[40]? = some (.bool true) := hd 19 (by kernel_rfl)
      have h1 : s.tmps[41]? = some (.bool true) := hd 20 (by kernel_rfl)
      exact ok_value (wanted_of rfl rfl (hd 17 (by kernel_rfl))) (by simp [execOp, Act.eval, h0, h1, go_sem])
    · intro s v hC hk hd
      have h0 : s.tmps[38]? = some (.bool true) := hd 17 (by kernel_rfl)
      have h1 : s.tmps[42]? = some (.bool true) := hd 21 (by kernel_rfl)
      exact ok_value rfl (by simp [execOp, Act.eval, h0, h1, go_sem])
    · intro s v hC hk hd
      have h0 : s.tmps[43]? = some (.bool true) := hd 22 (by kernel_rfl)
      exact ok_value rfl (by simp [execOp, Act.eval, h0])
    · intro s v hC hk hd
      have h0 : s.tmps[6]? = some (.bool true) := hk 6 (by kernel_rfl)
      exact ok_value (wanted_of rfl rfl (hd 23 (by kernel_rfl))) (by simp [execOp, Act.eval, h0])
    · intro s v hC hk hd
      have h0 : s.tmps[45]? = some (.bool true) := hd 24 (by kernel_rfl)
      exact ok_value (wanted_of rfl rfl (hd 23 (by kernel_rfl))) (by simp [execOp, Act.eval, h0])
    · intro s v hC hk hd
      exact ok_skip (unwanted_of rfl rfl (hd 25 (by kernel_rfl)))
    · intro s v hC hk hd
      exact ok_skip (unwanted_of rfl rfl (hd 25 (by kernel_rfl)))
    · intro s v hC hk hd
      have h0 : s.tmps[46]? = some (.bool true) := hd 25 (by kernel_rfl)
      exact ok_value (wanted_of rfl rfl (hd 23 (by kernel_rfl))) (by simp [execOp, Act.eval, h0, go_sem])
    · intro s v hC hk hd
      have h0 : s.tmps[44]? = some (.bool true) := hd 23 (by kernel_rfl)
      have h1 : s.tmps[49]? = some (.bool true) := hd 28 (by kernel_rfl)
      exact ok_value rfl (by simp [execOp, Act.eval, h0, h1, go_sem])
    · intro s v hC hk hd
      have h0 : s.tmps[50]? = some (.bool true) := hd 29 (by kernel_rfl)
      exact ok_value rfl (by simp [execOp, Act.eval, h0])
    · intro s v hC hk hd
      exact ok_call (wanted_of rfl rfl (hd 30 (by kernel_rfl))) (by simp [go_sem]) (wakes_any v)
    · intro s v hC hk hd
      have h0 : s.tmps[51]? = some (.bool true) := hd 30 (by kernel_rfl)
      have h1 : s.tmps[52]? = some (.bool true) := hd 31 (by kernel_rfl)
      exact ok_value rfl (by simp [execOp, Act.eval, h0, h1, go_sem])
    · intro s v hC hk hd
      have h0 : s.tmps[53]? = some (.bool true) := hd 32 (by kernel_rfl)
      exact ok_value rfl (by simp [execOp, Act.eval, h0])
  · intro nb wA43 hC hf hne
    have M44 := (HM42.out).keep hC
    clear hf hne hC
    simp [valsOf, valOf, putAll, Act.put]
    have HM45 : Hid (Mem w.heap.size w wA43 [(g37, .cells (cs8 (keyL r)) 23), (g16, .cells (cs8 (keyL r)) 22), (w.heap.size + 1, .cells (cs8 us) 23), (w.heap.size, .cells (cs8 ks) 23)]) := M44
    go_wp2_with fail
    go_ret
    exact ⟨rfl, (HM45.out).below⟩

end Go.Proofs.Ytfciodbgjljjhaa
