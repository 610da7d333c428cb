/- The walks of Public and Shared of package curve and of the document's answer. -/
import Derived.Test.YtfciodbgjljjhaaKey
import Derived.Test.YtfciodbgjljjhaaReg4
namespace Go.Proofs.Ytfciodbgjljjhaa
open Go.RowKit

theorem cs8_size {X : List Nat} (h : X.length = 32) : (cs8 X).size = 32 := by simp [cs8, h]
theorem results_pair {P : Program} {fn : Func} {tmps : Array Value} {w : World} {t t2 b n : Nat} {ty T : TypeId} {cs : Array Value} {fr : Nat × Nat} {d : TypeDesc} {v2 : Value}
    (hf : fn.results = #[.cell t ty, .tmp t2]) (ha : tmps[t]? = some (.pointer (some ⟨b, 0, none⟩))) (hb : w.heap[b]? = some (.cells cs T fr)) (hu : P.underlying ty = some d) (hd : d.isRow = true)
    (hi : (P.info? ty).map (·.size) = some n) (hn : cs.size = n) (h2 : tmps[t2]? = some v2) : (results fn tmps).run P w = .ok (.tuple #[.agg cs, v2]) w := by
  have hl := run_loadVar_mid (P := P) w b 0 ty cs.toList d (fun j v hv => by rw [Nat.zero_add, cell_of hb]; simpa using hv) hu hd (by rw [hi]; simp [hn])
  simp [results, hf, ha, h2, hl, asAddr]

abbrev pubN (ks : List Nat) : Nat := curveN ks nine32

set_option maxRecDepth 100000 in
set_option maxHeartbeats 4000000 in
theorem public_any (ks : List Nat) (hk : Bytes ks) (w : World) :
    Calls Try.prog 11 #[.agg (cs8 ks)] w fun e w' => e = .returned (.agg (cs8 (keyL (pubN ks)))) ∧ Below w.heap.size w w' := by
  go_enter Try.func11, Try.ntmps11
  go_upto_region 1 with fail
  generalize hW : World.alloc (World.alloc w _) _ = W
  have HM : Hid (Mem w.heap.size w W [(w.heap.size + 1, .cells #[.int .u8 0, .int .u8 0, .int .u8 0, .int .u8 0, .int .u8 0, .int .u8 0, .int .u8 0, .int .u8 0, .int .u8 0, .int .u8 0, .int .u8 0, .int .u8 0, .int .u8 0, .int .u8 0, .int .u8 0, .int .u8 0, .int .u8 0, .int .u8 0, .int .u8 0, .int .u8 0, .int .u8 0, .int .u8 0, .int .u8 0, .int .u8 0, .int .u8 0, .int .u8 0, .int .u8 0, .int .u8 0, .int .u8 0, .int .u8 0, .int .u8 0, .int .u8 0] 23), (w.heap.size, .cells (cs8 ks) 23)]) := (by rw [← hW]; exact ((Mem.start w).allocAt _ rfl).allocAt _ (by simp) : Mem w.heap.size w W [(w.heap.size + 1, .cells #[.int .u8 0, .int .u8 0, .int .u8 0, .int .u8 0, .int .u8 0, .int .u8 0, .int .u8 0, .int .u8 0, .int .u8 0, .int .u8 0, .int .u8 0, .int .u8 0, .int .u8 0, .int .u8 0, .int .u8 0, .int .u8 0, .int .u8 0, .int .u8 0, .int .u8 0, .int .u8 0, .int .u8 0, .int .u8 0, .int .u8 0, .int .u8 0, .int .u8 0, .int .u8 0, .int .u8 0, .int .u8 0, .int .u8 0, .int .u8 0, .int .u8 0, .int .u8 0] 23), (w.heap.size, .cells (cs8 ks) 23)])
  clear hW
  refine wp_region_list ?_
  refine wpList_ok (base := 0) (v := .agg (cs8 ks)) (ok_load rfl rfl rfl ((HM.out).get 1 rfl) Try.underlying23 rfl (by kernel_rfl) ((cs8_size hk.1))) fun u1 hb => ?_
  have HM2 : Hid (Mem w.heap.size w u1 [(w.heap.size + 1, .cells #[.int .u8 0, .int .u8 0, .int .u8 0, .int .u8 0, .int .u8 0, .int .u8 0, .int .u8 0, .int .u8 0, .int .u8 0, .int .u8 0, .int .u8 0, .int .u8 0, .int .u8 0, .int .u8 0, .int .u8 0, .int .u8 0, .int .u8 0, .int .u8 0, .int .u8 0, .int .u8 0, .int .u8 0, .int .u8 0, .int .u8 0, .int .u8 0, .int .u8 0, .int .u8 0, .int .u8 0, .int .u8 0, .int .u8 0, .int .u8 0, .int .u8 0, .int .u8 0] 23), (w.heap.size, .cells (cs8 ks) 23)]) := (HM.out).keep hb
  clear hb HM
  simp only [Act.put, List.setIfInBounds_toArray, List.set_cons_succ, List.set_cons_zero]
  refine wpList_ok (base := 0) (v := .agg (cs8 nine32)) (ok_value rfl (by rw [nine32_key]; simp [execOp, Act.eval, go_sem])) fun u3 hb => ?_
  have HM4 : Hid (Mem w.heap.size w u3 [(w.heap.size + 1, .cells #[.int .u8 0, .int .u8 0, .int .u8 0, .int .u8 0, .int .u8 0, .int .u8 0, .int .u8 0, .int .u8 0, .int .u8 0, .int .u8 0, .int .u8 0, .int .u8 0, .int .u8 0, .int .u8 0, .int .u8 0, .int .u8 0, .int .u8 0, .int .u8 0, .int .u8 0, .int .u8 0, .int .u8 0, .int .u8 0, .int .u8 0, .int .u8 0, .int .u8 0, .int .u8 0, .int .u8 0, .int .u8 0, .int .u8 0, .int .u8 0, .int .u8 0, .int .u8 0] 23), (w.heap.size, .cells (cs8 ks) 23)]) := (HM2.out).keep hb
  clear hb HM2
  simp only [Act.put, List.setIfInBounds_toArray, List.set_cons_succ, List.set_cons_zero]
  refine wpList_ok (base := 0) (v := .agg (cs8 (keyL (pubN ks)))) (ok_call rfl (by simp [Act.eval, go_sem]) (cmul_any ks nine32 hk nine32_bytes _)) fun u5 hb => ?_
  have HM6 : Hid (Mem w.heap.size w u5 [(w.heap.size + 1, .cells #[.int .u8 0, .int .u8 0, .int .u8 0, .int .u8 0, .int .u8 0, .int .u8 0, .int .u8 0, .int .u8 0, .int .u8 0, .int .u8 0, .int .u8 0, .int .u8 0, .int .u8 0, .int .u8 0, .int .u8 0, .int .u8 0, .int .u8 0, .int .u8 0, .int .u8 0, .int .u8 0, .int .u8 0, .int .u8 0, .int .u8 0, .int .u8 0, .int .u8 0, .int .u8 0, .int .u8 0, .int .u8 0, .int .u8 0, .int .u8 0, .int .u8 0, .int .u8 0] 23), (w.heap.size, .cells (cs8 ks) 23)]) := (HM4.out).keep hb
  clear hb HM4
  simp only [Act.put, List.setIfInBounds_toArray, List.set_cons_succ, List.set_cons_zero]
  refine wpList_store_blk (b := w.heap.size + 1) rfl rfl rfl rfl ((HM6.out).get 0 rfl) (by kernel_rfl) (rfl) ((cs8_size (keyL_len _))) (cs8_one _) ?_
  simp only [Act.put]
  generalize hV8 : World.setCells u5 (w.heap.size + 1) 0 _ = V7
  have HM9 : Hid (Mem w.heap.size w V7 [(w.heap.size + 1, .cells (cs8 (keyL (pubN ks))) 23), (w.heap.size, .cells (cs8 ks) 23)]) := (by rw [← hV8]; exact (HM6.out).store 0 (cs8 (keyL (pubN ks))) rfl ((rfl).trans ((cs8_size (keyL_len _))).symm) : Mem w.heap.size w V7 [(w.heap.size + 1, .cells (cs8 (keyL (pubN ks))) 23), (w.heap.size, .cells (cs8 ks) 23)])
  clear hV8 HM6
  go_wp2_with fail
  exact bodyPost_ret (v := .agg (cs8 (keyL (pubN ks)))) (results_blk (b := w.heap.size + 1) Try.results11 rfl ((HM9.out).get 0 rfl) Try.underlying23 rfl (by kernel_rfl) (cs8_size (keyL_len _))) rfl ⟨rfl, (HM9.out).below⟩

set_option maxRecDepth 100000 in
set_option maxHeartbeats 4000000 in
theorem rpublic_any (ks : List Nat) (hk : Bytes ks) (w : World) :
    Calls Try.prog 12 #[.agg (cs8 ks)] w fun e w' => e = .returned (.agg (cs8 (keyL (pubN ks)))) ∧ Below w.heap.size w w' := by
  go_enter Try.func12, Try.ntmps12
  go_upto_region 1 with fail
  generalize hW : World.alloc (World.alloc w _) _ = W
  have HM : Hid (Mem w.heap.size w W [(w.heap.size + 1, .cells #[.int .u8 0, .int .u8 0, .int .u8 0, .int .u8 0, .int .u8 0, .int .u8 0, .int .u8 0, .int .u8 0, .int .u8 0, .int .u8 0, .int .u8 0, .int .u8 0, .int .u8 0, .int .u8 0, .int .u8 0, .int .u8 0, .int .u8 0, .int .u8 0, .int .u8 0, .int .u8 0, .int .u8 0, .int .u8 0, .int .u8 0, .int .u8 0, .int .u8 0, .int .u8 0, .int .u8 0, .int .u8 0, .int .u8 0, .int .u8 0, .int .u8 0, .int .u8 0] 22), (w.heap.size, .cells (cs8 ks) 22)]) := (by rw [← hW]; exact ((Mem.start w).allocAt _ rfl).allocAt _ (by simp) : Mem w.heap.size w W [(w.heap.size + 1, .cells #[.int .u8 0, .int .u8 0, .int .u8 0, .int .u8 0, .int .u8 0, .int .u8 0, .int .u8 0, .int .u8 0, .int .u8 0, .int .u8 0, .int .u8 0, .int .u8 0, .int .u8 0, .int .u8 0, .int .u8 0, .int .u8 0, .int .u8 0, .int .u8 0, .int .u8 0, .int .u8 0, .int .u8 0, .int .u8 0, .int .u8 0, .int .u8 0, .int .u8 0, .int .u8 0, .int .u8 0, .int .u8 0, .int .u8 0, .int .u8 0, .int .u8 0, .int .u8 0] 22), (w.heap.size, .cells (cs8 ks) 22)])
  clear hW
  refine wp_region_list ?_
  refine wpList_ok (base := 0) (v := .agg (cs8 ks)) (ok_load rfl rfl rfl ((HM.out).get 1 rfl) Try.underlying22 rfl (by kernel_rfl) ((cs8_size hk.1))) fun u1 hb => ?_
  have HM2 : Hid (Mem w.heap.size w u1 [(w.heap.size + 1, .cells #[.int .u8 0, .int .u8 0, .int .u8 0, .int .u8 0, .int .u8 0, .int .u8 0, .int .u8 0, .int .u8 0, .int .u8 0, .int .u8 0, .int .u8 0, .int .u8 0, .int .u8 0, .int .u8 0, .int .u8 0, .int .u8 0, .int .u8 0, .int .u8 0, .int .u8 0, .int .u8 0, .int .u8 0, .int .u8 0, .int .u8 0, .int .u8 0, .int .u8 0, .int .u8 0, .int .u8 0, .int .u8 0, .int .u8 0, .int .u8 0, .int .u8 0, .int .u8 0] 22), (w.heap.size, .cells (cs8 ks) 22)]) := (HM.out).keep hb
  clear hb HM
  simp only [Act.put, List.setIfInBounds_toArray, List.set_cons_succ, List.set_cons_zero]
  refine wpList_ok (base := 0) (v := .agg (cs8 nine32)) (ok_value rfl (by rw [nine32_key]; simp [execOp, Act.eval, go_sem])) fun u3 hb => ?_
  have HM4 : Hid (Mem w.heap.size w u3 [(w.heap.size + 1, .cells #[.int .u8 0, .int .u8 0, .int .u8 0, .int .u8 0, .int .u8 0, .int .u8 0, .int .u8 0, .int .u8 0, .int .u8 0, .int .u8 0, .int .u8 0, .int .u8 0, .int .u8 0, .int .u8 0, .int .u8 0, .int .u8 0, .int .u8 0, .int .u8 0, .int .u8 0, .int .u8 0, .int .u8 0, .int .u8 0, .int .u8 0, .int .u8 0, .int .u8 0, .int .u8 0, .int .u8 0, .int .u8 0, .int .u8 0, .int .u8 0, .int .u8 0, .int .u8 0] 22), (w.heap.size, .cells (cs8 ks) 22)]) := (HM2.out).keep hb
  clear hb HM2
  simp only [Act.put, List.setIfInBounds_toArray, List.set_cons_succ, List.set_cons_zero]
  refine wpList_ok (base := 0) (v := .agg (cs8 (keyL (pubN ks)))) (ok_call rfl (by simp [Act.eval, go_sem]) (rcurve_any ks nine32 hk nine32_bytes _)) fun u5 hb => ?_
  have HM6 : Hid (Mem w.heap.size w u5 [(w.heap.size + 1, .cells #[.int .u8 0, .int .u8 0, .int .u8 0, .int .u8 0, .int .u8 0, .int .u8 0, .int .u8 0, .int .u8 0, .int .u8 0, .int .u8 0, .int .u8 0, .int .u8 0, .int .u8 0, .int .u8 0, .int .u8 0, .int .u8 0, .int .u8 0, .int .u8 0, .int .u8 0, .int .u8 0, .int .u8 0, .int .u8 0, .int .u8 0, .int .u8 0, .int .u8 0, .int .u8 0, .int .u8 0, .int .u8 0, .int .u8 0, .int .u8 0, .int .u8 0, .int .u8 0] 22), (w.heap.size, .cells (cs8 ks) 22)]) := (HM4.out).keep hb
  clear hb HM4
  simp only [Act.put, List.setIfInBounds_toArray, List.set_cons_succ, List.set_cons_zero]
  refine wpList_store_blk (b := w.heap.size + 1) rfl rfl rfl rfl ((HM6.out).get 0 rfl) (by kernel_rfl) (rfl) ((cs8_size (keyL_len _))) (cs8_one _) ?_
  simp only [Act.put]
  generalize hV8 : World.setCells u5 (w.heap.size + 1) 0 _ = V7
  have HM9 : Hid (Mem w.heap.size w V7 [(w.heap.size + 1, .cells (cs8 (keyL (pubN ks))) 22), (w.heap.size, .cells (cs8 ks) 22)]) := (by rw [← hV8]; exact (HM6.out).store 0 (cs8 (keyL (pubN ks))) rfl ((rfl).trans ((cs8_size (keyL_len _))).symm) : Mem w.heap.size w V7 [(w.heap.size + 1, .cells (cs8 (keyL (pubN ks))) 22), (w.heap.size, .cells (cs8 ks) 22)])
  clear hV8 HM6
  go_wp2_with fail
  exact bodyPost_ret (v := .agg (cs8 (keyL (pubN ks)))) (results_blk (b := w.heap.size + 1) Try.results12 rfl ((HM9.out).get 0 rfl) Try.underlying22 rfl (by kernel_rfl) (cs8_size (keyL_len _))) rfl ⟨rfl, (HM9.out).below⟩

set_option maxRecDepth 100000 in
set_option maxHeartbeats 4000000 in
theorem shared_weak (ks us : List Nat) (hk : Bytes ks) (hu : Bytes us) (r : Nat) (hr : curveN ks us = r) (hz : (keyL r == zero32) = true) (w : World) :
    Calls Try.prog 9 #[.agg (cs8 ks), .agg (cs8 us)] w fun e w' => e = .returned (.tuple #[.agg (cs8 (keyL r)), .int .i64 2]) ∧ Below w.heap.size w w' := by
  go_enter Try.func9, Try.ntmps9
  go_upto_region 1 with fail
  generalize hW : World.alloc (World.alloc (World.alloc w _) _) _ = W
  have HM : Hid (Mem w.heap.size w W [(w.heap.size + 1 + 1, .cells #[.int .u8 0, .int .u8 0, .int .u8 0, .int .u8 0, .int .u8 0, .int .u8 0, .int .u8 0, .int .u8 0, .int .u8 0, .int .u8 0, .int .u8 0, .int .u8 0, .int .u8 0, .int .u8 0, .int .u8 0, .int .u8 0, .int .u8 0, .int .u8 0, .int .u8 0, .int .u8 0, .int .u8 0, .int .u8 0, .int .u8 0, .int .u8 0, .int .u8 0, .int .u8 0, .int .u8 0, .int .u8 0, .int .u8 0, .int .u8 0, .int .u8 0, .int .u8 0] 23), (w.heap.size + 1, .cells (cs8 us) 23), (w.heap.size, .cells (cs8 ks) 23)]) := (by rw [← hW]; exact (((Mem.start w).allocAt _ rfl).allocAt _ (by simp)).allocAt _ (by simp) : Mem w.heap.size w W [(w.heap.size + 1 + 1, .cells #[.int .u8 0, .int .u8 0, .int .u8 0, .int .u8 0, .int .u8 0, .int .u8 0, .int .u8 0, .int .u8 0, .int .u8 0, .int .u8 0, .int .u8 0, .int .u8 0, .int .u8 0, .int .u8 0, .int .u8 0, .int .u8 0, .int .u8 0, .int .u8 0, .int .u8 0, .int .u8 0, .int .u8 0, .int .u8 0, .int .u8 0, .int .u8 0, .int .u8 0, .int .u8 0, .int .u8 0, .int .u8 0, .int .u8 0, .int .u8 0, .int .u8 0, .int .u8 0] 23), (w.heap.size + 1, .cells (cs8 us) 23), (w.heap.size, .cells (cs8 ks) 23)])
  clear hW
  refine wp_region_list ?_
  refine wpList_ok (base := 0) (v := .agg (cs8 ks)) (ok_load rfl rfl rfl ((HM.out).get 2 rfl) Try.underlying23 rfl (by kernel_rfl) ((cs8_size hk.1))) fun u1 hb => ?_
  have HM2 : Hid (Mem w.heap.size w u1 [(w.heap.size + 1 + 1, .cells #[.int .u8 0, .int .u8 0, .int .u8 0, .int .u8 0, .int .u8 0, .int .u8 0, .int .u8 0, .int .u8 0, .int .u8 0, .int .u8 0, .int .u8 0, .int .u8 0, .int .u8 0, .int .u8 0, .int .u8 0, .int .u8 0, .int .u8 0, .int .u8 0, .int .u8 0, .int .u8 0, .int .u8 0, .int .u8 0, .int .u8 0, .int .u8 0, .int .u8 0, .int .u8 0, .int .u8 0, .int .u8 0, .int .u8 0, .int .u8 0, .int .u8 0, .int .u8 0] 23), (w.heap.size + 1, .cells (cs8 us) 23), (w.heap.size, .cells (cs8 ks) 23)]) := (HM.out).keep hb
  clear hb HM
  simp only [Act.put, List.setIfInBounds_toArray, List.set_cons_succ, List.set_cons_zero]
  refine wpList_ok (base := 0) (v := .agg (cs8 us)) (ok_load rfl rfl rfl ((HM2.out).get 1 rfl) Try.underlying23 rfl (by kernel_rfl) ((cs8_size hu.1))) fun u3 hb => ?_
  have HM4 : Hid (Mem w.heap.size w u3 [(w.heap.size + 1 + 1, .cells #[.int .u8 0, .int .u8 0, .int .u8 0, .int .u8 0, .int .u8 0, .int .u8 0, .int .u8 0, .int .u8 0, .int .u8 0, .int .u8 0, .int .u8 0, .int .u8 0, .int .u8 0, .int .u8 0, .int .u8 0, .int .u8 0, .int .u8 0, .int .u8 0, .int .u8 0, .int .u8 0, .int .u8 0, .int .u8 0, .int .u8 0, .int .u8 0, .int .u8 0, .int .u8 0, .int .u8 0, .int .u8 0, .int .u8 0, .int .u8 0, .int .u8 0, .int .u8 0] 23), (w.heap.size + 1, .cells (cs8 us) 23), (w.heap.size, .cells (cs8 ks) 23)]) := (HM2.out).keep hb
  clear hb HM2
  simp only [Act.put, List.setIfInBounds_toArray, List.set_cons_succ, List.set_cons_zero]
  refine wpList_ok (base := 0) (v := .agg (cs8 (keyL r))) (ok_call rfl (by simp [Act.eval, go_sem]) (hr ▸ cmul_any ks us hk hu _)) fun u5 hb => ?_
  have HM6 : Hid (Mem w.heap.size w u5 [(w.heap.size + 1 + 1, .cells #[.int .u8 0, .int .u8 0, .int .u8 0, .int .u8 0, .int .u8 0, .int .u8 0, .int .u8 0, .int .u8 0, .int .u8 0, .int .u8 0, .int .u8 0, .int .u8 0, .int .u8 0, .int .u8 0, .int .u8 0, .int .u8 0, .int .u8 0, .int .u8 0, .int .u8 0, .int .u8 0, .int .u8 0, .int .u8 0, .int .u8 0, .int .u8 0, .int .u8 0, .int .u8 0, .int .u8 0, .int .u8 0, .int .u8 0, .int .u8 0, .int .u8 0, .int .u8 0] 23), (w.heap.size + 1, .cells (cs8 us) 23), (w.heap.size, .cells (cs8 ks) 23)]) := (HM4.out).keep hb
  clear hb HM4
  simp only [Act.put, List.setIfInBounds_toArray, List.set_cons_succ, List.set_cons_zero]
  refine wpList_alloc (o := .cells #[.int .u8 0, .int .u8 0, .int .u8 0, .int .u8 0, .int .u8 0, .int .u8 0, .int .u8 0, .int .u8 0, .int .u8 0, .int .u8 0, .int .u8 0, .int .u8 0, .int .u8 0, .int .u8 0, .int .u8 0, .int .u8 0, .int .u8 0, .int .u8 0, .int .u8 0, .int .u8 0, .int .u8 0, .int .u8 0, .int .u8 0, .int .u8 0, .int .u8 0, .int .u8 0, .int .u8 0, .int .u8 0, .int .u8 0, .int .u8 0, .int .u8 0, .int .u8 0] 23) (v := .pointer (some ⟨u5.heap.size, 0, none⟩)) rfl (by simp [execOp, go_sem]) ?_
  simp only [Act.put, List.setIfInBounds_toArray, List.set_cons_succ, List.set_cons_zero]
  have HM9 : Hid (Mem w.heap.size w _ [(u5.heap.size, .cells #[.int .u8 0, .int .u8 0, .int .u8 0, .int .u8 0, .int .u8 0, .int .u8 0, .int .u8 0, .int .u8 0, .int .u8 0, .int .u8 0, .int .u8 0, .int .u8 0, .int .u8 0, .int .u8 0, .int .u8 0, .int .u8 0, .int .u8 0, .int .u8 0, .int .u8 0, .int .u8 0, .int .u8 0, .int .u8 0, .int .u8 0, .int .u8 0, .int .u8 0, .int .u8 0, .int .u8 0, .int .u8 0, .int .u8 0, .int .u8 0, .int .u8 0, .int .u8 0] 23), (w.heap.size + 1 + 1, .cells #[.int .u8 0, .int .u8 0, .int .u8 0, .int .u8 0, .int .u8 0, .int .u8 0, .int .u8 0, .int .u8 0, .int .u8 0, .int .u8 0, .int .u8 0, .int .u8 0, .int .u8 0, .int .u8 0, .int .u8 0, .int .u8 0, .int .u8 0, .int .u8 0, .int .u8 0, .int .u8 0, .int .u8 0, .int .u8 0, .int .u8 0, .int .u8 0, .int .u8 0, .int .u8 0, .int .u8 0, .int .u8 0, .int .u8 0, .int .u8 0, .int .u8 0, .int .u8 0] 23), (w.heap.size + 1, .cells (cs8 us) 23), (w.heap.size, .cells (cs8 ks) 23)]) := (HM6.out).alloc (.cells #[.int .u8 0, .int .u8 0, .int .u8 0, .int .u8 0, .int .u8 0, .int .u8 0, .int .u8 0, .int .u8 0, .int .u8 0, .int .u8 0, .int .u8 0, .int .u8 0, .int .u8 0, .int .u8 0, .int .u8 0, .int .u8 0, .int .u8 0, .int .u8 0, .int .u8 0, .int .u8 0, .int .u8 0, .int .u8 0, .int .u8 0, .int .u8 0, .int .u8 0, .int .u8 0, .int .u8 0, .int .u8 0, .int .u8 0, .int .u8 0, .int .u8 0, .int .u8 0] 23)
  clear HM6
  generalize u5.alloc (.cells #[.int .u8 0, .int .u8 0, .int .u8 0, .int .u8 0, .int .u8 0, .int .u8 0, .int .u8 0, .int .u8 0, .int .u8 0, .int .u8 0, .int .u8 0, .int .u8 0, .int .u8 0, .int .u8 0, .int .u8 0, .int .u8 0, .int .u8 0, .int .u8 0, .int .u8 0, .int .u8 0, .int .u8 0, .int .u8 0, .int .u8 0, .int .u8 0, .int .u8 0, .int .u8 0, .int .u8 0, .int .u8 0, .int .u8 0, .int .u8 0, .int .u8 0, .int .u8 0] 23) = V7 at *
  generalize u5.heap.size = g10 at *
  refine wpList_store_blk (b := g10) rfl rfl rfl rfl ((HM9.out).get 0 rfl) (by kernel_rfl) (rfl) ((cs8_size (keyL_len _))) (cs8_one _) ?_
  simp only [Act.put]
  generalize hV12 : World.setCells V7 (g10) 0 _ = V11
  have HM13 : Hid (Mem w.heap.size w V11 [(g10, .cells (cs8 (keyL r)) 23), (w.heap.size + 1 + 1, .cells #[.int .u8 0, .int .u8 0, .int .u8 0, .int .u8 0, .int .u8 0, .int .u8 0, .int .u8 0, .int .u8 0, .int .u8 0, .int .u8 0, .int .u8 0, .int .u8 0, .int .u8 0, .int .u8 0, .int .u8 0, .int .u8 0, .int .u8 0, .int .u8 0, .int .u8 0, .int .u8 0, .int .u8 0, .int .u8 0, .int .u8 0, .int .u8 0, .int .u8 0, .int .u8 0, .int .u8 0, .int .u8 0, .int .u8 0, .int .u8 0, .int .u8 0, .int .u8 0] 23), (w.heap.size + 1, .cells (cs8 us) 23), (w.heap.size, .cells (cs8 ks) 23)]) := (by rw [← hV12]; exact (HM9.out).store 0 (cs8 (keyL r)) rfl ((rfl).trans ((cs8_size (keyL_len _))).symm) : Mem w.heap.size w V11 [(g10, .cells (cs8 (keyL r)) 23), (w.heap.size + 1 + 1, .cells #[.int .u8 0, .int .u8 0, .int .u8 0, .int .u8 0, .int .u8 0, .int .u8 0, .int .u8 0, .int .u8 0, .int .u8 0, .int .u8 0, .int .u8 0, .int .u8 0, .int .u8 0, .int .u8 0, .int .u8 0, .int .u8 0, .int .u8 0, .int .u8 0, .int .u8 0, .int .u8 0, .int .u8 0, .int .u8 0, .int .u8 0, .int .u8 0, .int .u8 0, .int .u8 0, .int .u8 0, .int .u8 0, .int .u8 0, .int .u8 0, .int .u8 0, .int .u8 0] 23), (w.heap.size + 1, .cells (cs8 us) 23), (w.heap.size, .cells (cs8 ks) 23)])
  clear hV12 HM9
  go_upto_region 2 with fail
  refine wp_region_list ?_
  refine wpList_ok (base := 0) (v := .agg (cs8 (keyL r))) (ok_load rfl rfl rfl ((HM13.out).get 0 rfl) Try.underlying23 rfl (by kernel_rfl) ((cs8_size (keyL_len _)))) fun u14 hb => ?_
  have HM15 : Hid (Mem w.heap.size w u14 [(g10, .cells (cs8 (keyL r)) 23), (w.heap.size + 1 + 1, .cells #[.int .u8 0, .int .u8 0, .int .u8 0, .int .u8 0, .int .u8 0, .int .u8 0, .int .u8 0, .int .u8 0, .int .u8 0, .int .u8 0, .int .u8 0, .int .u8 0, .int .u8 0, .int .u8 0, .int .u8 0, .int .u8 0, .int .u8 0, .int .u8 0, .int .u8 0, .int .u8 0, .int .u8 0, .int .u8 0, .int .u8 0, .int .u8 0, .int .u8 0, .int .u8 0, .int .u8 0, .int .u8 0, .int .u8 0, .int .u8 0, .int .u8 0, .int .u8 0] 23), (w.heap.size + 1, .cells (cs8 us) 23), (w.heap.size, .cells (cs8 ks) 23)]) := (HM13.out).keep hb
  clear hb HM13
  simp only [Act.put, List.setIfInBounds_toArray, List.set_cons_succ, List.set_cons_zero]
  refine wpList_ok (base := 0) (v := .agg (cs8 zero32)) (ok_value rfl (by rw [zero32_key]; simp [execOp, go_sem])) fun u16 hb => ?_
  have HM17 : Hid (Mem w.heap.size w u16 [(g10, .cells (cs8 (keyL r)) 23), (w.heap.size + 1 + 1, .cells #[.int .u8 0, .int .u8 0, .int .u8 0, .int .u8 0, .int .u8 0, .int .u8 0, .int .u8 0, .int .u8 0, .int .u8 0, .int .u8 0, .int .u8 0, .int .u8 0, .int .u8 0, .int .u8 0, .int .u8 0, .int .u8 0, .int .u8 0, .int .u8 0, .int .u8 0, .int .u8 0, .int .u8 0, .int .u8 0, .int .u8 0, .int .u8 0, .int .u8 0, .int .u8 0, .int .u8 0, .int .u8 0, .int .u8 0, .int .u8 0, .int .u8 0, .int .u8 0] 23), (w.heap.size + 1, .cells (cs8 us) 23), (w.heap.size, .cells (cs8 ks) 23)]) := (HM15.out).keep hb
  clear hb HM15
  simp only [Act.put, List.setIfInBounds_toArray, List.set_cons_succ, List.set_cons_zero]
  refine wpList_ok (base := 0) (v := .bool true) (ok_eql_cs8 (keyL r) zero32 true rfl rfl rfl (keyL_len _) rfl (hz) rfl rfl) fun u18 hb => ?_
  have HM19 : Hid (Mem w.heap.size w u18 [(g10, .cells (cs8 (keyL r)) 23), (w.heap.size + 1 + 1, .cells #[.int .u8 0, .int .u8 0, .int .u8 0, .int .u8 0, .int .u8 0, .int .u8 0, .int .u8 0, .int .u8 0, .int .u8 0, .int .u8 0, .int .u8 0, .int .u8 0, .int .u8 0, .int .u8 0, .int .u8 0, .int .u8 0, .int .u8 0, .int .u8 0, .int .u8 0, .int .u8 0, .int .u8 0, .int .u8 0, .int .u8 0, .int .u8 0, .int .u8 0, .int .u8 0, .int .u8 0, .int .u8 0, .int .u8 0, .int .u8 0, .int .u8 0, .int .u8 0] 23), (w.heap.size + 1, .cells (cs8 us) 23), (w.heap.size, .cells (cs8 ks) 23)]) := (HM17.out).keep hb
  clear hb HM17
  simp only [Act.put, List.setIfInBounds_toArray, List.set_cons_succ, List.set_cons_zero]
  go_upto_region 3 with fail
  refine wp_region_list ?_
  refine wpList_ok (base := 0) (v := .agg (cs8 zero32)) (ok_value rfl (by rw [zero32_key]; simp [execOp, go_sem])) fun u20 hb => ?_
  have HM21 : Hid (Mem w.heap.size w u20 [(g10, .cells (cs8 (keyL r)) 23), (w.heap.size + 1 + 1, .cells #[.int .u8 0, .int .u8 0, .int .u8 0, .int .u8 0, .int .u8 0, .int .u8 0, .int .u8 0, .int .u8 0, .int .u8 0, .int .u8 0, .int .u8 0, .int .u8 0, .int .u8 0, .int .u8 0, .int .u8 0, .int .u8 0, .int .u8 0, .int .u8 0, .int .u8 0, .int .u8 0, .int .u8 0, .int .u8 0, .int .u8 0, .int .u8 0, .int .u8 0, .int .u8 0, .int .u8 0, .int .u8 0, .int .u8 0, .int .u8 0, .int .u8 0, .int .u8 0] 23), (w.heap.size + 1, .cells (cs8 us) 23), (w.heap.size, .cells (cs8 ks) 23)]) := (HM19.out).keep hb
  clear hb HM19
  simp only [Act.put, List.setIfInBounds_toArray, List.set_cons_succ, List.set_cons_zero]
  refine wpList_store_blk (b := w.heap.size + 1 + 1) rfl rfl rfl rfl ((HM21.out).get 1 rfl) (by kernel_rfl) (rfl) ((cs8_size rfl)) (cs8_one _) ?_
  simp only [Act.put]
  generalize hV23 : World.setCells u20 (w.heap.size + 1 + 1) 0 _ = V22
  have HM24 : Hid (Mem w.heap.size w V22 [(g10, .cells (cs8 (keyL r)) 23), (w.heap.size + 1 + 1, .cells (cs8 zero32) 23), (w.heap.size + 1, .cells (cs8 us) 23), (w.heap.size, .cells (cs8 ks) 23)]) := (by rw [← hV23]; exact (HM21.out).store 1 (cs8 zero32) rfl ((rfl).trans ((cs8_size rfl)).symm) : Mem w.heap.size w V22 [(g10, .cells (cs8 (keyL r)) 23), (w.heap.size + 1 + 1, .cells (cs8 zero32) 23), (w.heap.size + 1, .cells (cs8 us) 23), (w.heap.size, .cells (cs8 ks) 23)])
  clear hV23 HM21
  refine wpList_ok (base := 0) (v := .int .i64 2) (ok_value rfl (by simp [execOp, Act.eval])) fun u25 hb => ?_
  have HM26 : Hid (Mem w.heap.size w u25 [(g10, .cells (cs8 (keyL r)) 23), (w.heap.size + 1 + 1, .cells (cs8 zero32) 23), (w.heap.size + 1, .cells (cs8 us) 23), (w.heap.size, .cells (cs8 ks) 23)]) := (HM24.out).keep hb
  clear hb HM24
  simp only [Act.put, List.setIfInBounds_toArray, List.set_cons_succ, List.set_cons_zero]
  go_wp2_with fail
  have ez : zero32 = keyL r := (eq_of_beq hz).symm
  exact bodyPost_ret (v := .tuple #[.agg (cs8 zero32), .int .i64 2]) (results_pair (b := w.heap.size + 1 + 1) Try.results9 rfl ((HM26.out).get 1 rfl) Try.underlying23 rfl (by kernel_rfl) (cs8_size rfl) rfl) rfl ⟨by rw [ez], (HM26.out).below⟩

set_option maxRecDepth 100000 in
set_option maxHeartbeats 4000000 in
theorem shared_ok (ks us : List Nat) (hk : Bytes ks) (hu : Bytes us) (r : Nat) (hr : curveN ks us = r) (hz : (keyL r == zero32) = false) (w : World) :
    Calls Try.prog 9 #[.agg (cs8 ks), .agg (cs8 us)] w fun e w' => e = .returned (.tuple #[.agg (cs8 (keyL r)), .int .i64 0]) ∧ Below w.heap.size w w' := by
  go_enter Try.func9, Try.ntmps9
  go_upto_region 1 with fail
  generalize hW : World.alloc (World.alloc (World.alloc w _) _) _ = W
  have HM : Hid (Mem w.heap.size w W [(w.heap.size + 1 + 1, .cells #[.int .u8 0, .int .u8 0, .int .u8 0, .int .u8 0, .int .u8 0, .int .u8 0, .int .u8 0, .int .u8 0, .int .u8 0, .int .u8 0, .int .u8 0, .int .u8 0, .int .u8 0, .int .u8 0, .int .u8 0, .int .u8 0, .int .u8 0, .int .u8 0, .int .u8 0, .int .u8 0, .int .u8 0, .int .u8 0, .int .u8 0, .int .u8 0, .int .u8 0, .int .u8 0, .int .u8 0, .int .u8 0, .int .u8 0, .int .u8 0, .int .u8 0, .int .u8 0] 23), (w.heap.size + 1, .cells (cs8 us) 23), (w.heap.size, .cells (cs8 ks) 23)]) := (by rw [← hW]; exact (((Mem.start w).allocAt _ rfl).allocAt _ (by simp)).allocAt _ (by simp) : Mem w.heap.size w W [(w.heap.size + 1 + 1, .cells #[.int .u8 0, .int .u8 0, .int .u8 0, .int .u8 0, .int .u8 0, .int .u8 0, .int .u8 0, .int .u8 0, .int .u8 0, .int .u8 0, .int .u8 0, .int .u8 0, .int .u8 0, .int .u8 0, .int .u8 0, .int .u8 0, .int .u8 0, .int .u8 0, .int .u8 0, .int .u8 0, .int .u8 0, .int .u8 0, .int .u8 0, .int .u8 0, .int .u8 0, .int .u8 0, .int .u8 0, .int .u8 0, .int .u8 0, .int .u8 0, .int .u8 0, .int .u8 0] 23), (w.heap.size + 1, .cells (cs8 us) 23), (w.heap.size, .cells (cs8 ks) 23)])
  clear hW
  refine wp_region_list ?_
  refine wpList_ok (base := 0) (v := .agg (cs8 ks)) (ok_load rfl rfl rfl ((HM.out).get 2 rfl) Try.underlying23 rfl (by kernel_rfl) ((cs8_size hk.1))) fun u1 hb => ?_
  have HM2 : Hid (Mem w.heap.size w u1 [(w.heap.size + 1 + 1, .cells #[.int .u8 0, .int .u8 0, .int .u8 0, .int .u8 0, .int .u8 0, .int .u8 0, .int .u8 0, .int .u8 0, .int .u8 0, .int .u8 0, .int .u8 0, .int .u8 0, .int .u8 0, .int .u8 0, .int .u8 0, .int .u8 0, .int .u8 0, .int .u8 0, .int .u8 0, .int .u8 0, .int .u8 0, .int .u8 0, .int .u8 0, .int .u8 0, .int .u8 0, .int .u8 0, .int .u8 0, .int .u8 0, .int .u8 0, .int .u8 0, .int .u8 0, .int .u8 0] 23), (w.heap.size + 1, .cells (cs8 us) 23), (w.heap.size, .cells (cs8 ks) 23)]) := (HM.out).keep hb
  clear hb HM
  simp only [Act.put, List.setIfInBounds_toArray, List.set_cons_succ, List.set_cons_zero]
  refine wpList_ok (base := 0) (v := .agg (cs8 us)) (ok_load rfl rfl rfl ((HM2.out).get 1 rfl) Try.underlying23 rfl (by kernel_rfl) ((cs8_size hu.1))) fun u3 hb => ?_
  have HM4 : Hid (Mem w.heap.size w u3 [(w.heap.size + 1 + 1, .cells #[.int .u8 0, .int .u8 0, .int .u8 0, .int .u8 0, .int .u8 0, .int .u8 0, .int .u8 0, .int .u8 0, .int .u8 0, .int .u8 0, .int .u8 0, .int .u8 0, .int .u8 0, .int .u8 0, .int .u8 0, .int .u8 0, .int .u8 0, .int .u8 0, .int .u8 0, .int .u8 0, .int .u8 0, .int .u8 0, .int .u8 0, .int .u8 0, .int .u8 0, .int .u8 0, .int .u8 0, .int .u8 0, .int .u8 0, .int .u8 0, .int .u8 0, .int .u8 0] 23), (w.heap.size + 1, .cells (cs8 us) 23), (w.heap.size, .cells (cs8 ks) 23)]) := (HM2.out).keep hb
  clear hb HM2
  simp only [Act.put, List.setIfInBounds_toArray, List.set_cons_succ, List.set_cons_zero]
  refine wpList_ok (base := 0) (v := .agg (cs8 (keyL r))) (ok_call rfl (by simp [Act.eval, go_sem]) (hr ▸ cmul_any ks us hk hu _)) fun u5 hb => ?_
  have HM6 : Hid (Mem w.heap.size w u5 [(w.heap.size + 1 + 1, .cells #[.int .u8 0, .int .u8 0, .int .u8 0, .int .u8 0, .int .u8 0, .int .u8 0, .int .u8 0, .int .u8 0, .int .u8 0, .int .u8 0, .int .u8 0, .int .u8 0, .int .u8 0, .int .u8 0, .int .u8 0, .int .u8 0, .int .u8 0, .int .u8 0, .int .u8 0, .int .u8 0, .int .u8 0, .int .u8 0, .int .u8 0, .int .u8 0, .int .u8 0, .int .u8 0, .int .u8 0, .int .u8 0, .int .u8 0, .int .u8 0, .int .u8 0, .int .u8 0] 23), (w.heap.size + 1, .cells (cs8 us) 23), (w.heap.size, .cells (cs8 ks) 23)]) := (HM4.out).keep hb
  clear hb HM4
  simp only [Act.put, List.setIfInBounds_toArray, List.set_cons_succ, List.set_cons_zero]
  refine wpList_alloc (o := .cells #[.int .u8 0, .int .u8 0, .int .u8 0, .int .u8 0, .int .u8 0, .int .u8 0, .int .u8 0, .int .u8 0, .int .u8 0, .int .u8 0, .int .u8 0, .int .u8 0, .int .u8 0, .int .u8 0, .int .u8 0, .int .u8 0, .int .u8 0, .int .u8 0, .int .u8 0, .int .u8 0, .int .u8 0, .int .u8 0, .int .u8 0, .int .u8 0, .int .u8 0, .int .u8 0, .int .u8 0, .int .u8 0, .int .u8 0, .int .u8 0, .int .u8 0, .int .u8 0] 23) (v := .pointer (some ⟨u5.heap.size, 0, none⟩)) rfl (by simp [execOp, go_sem]) ?_
  simp only [Act.put, List.setIfInBounds_toArray, List.set_cons_succ, List.set_cons_zero]
  have HM9 : Hid (Mem w.heap.size w _ [(u5.heap.size, .cells #[.int .u8 0, .int .u8 0, .int .u8 0, .int .u8 0, .int .u8 0, .int .u8 0, .int .u8 0, .int .u8 0, .int .u8 0, .int .u8 0, .int .u8 0, .int .u8 0, .int .u8 0, .int .u8 0, .int .u8 0, .int .u8 0, .int .u8 0, .int .u8 0, .int .u8 0, .int .u8 0, .int .u8 0, .int .u8 0, .int .u8 0, .int .u8 0, .int .u8 0, .int .u8 0, .int .u8 0, .int .u8 0, .int .u8 0, .int .u8 0, .int .u8 0, .int .u8 0] 23), (w.heap.size + 1 + 1, .cells #[.int .u8 0, .int .u8 0, .int .u8 0, .int .u8 0, .int .u8 0, .int .u8 0, .int .u8 0, .int .u8 0, .int .u8 0, .int .u8 0, .int .u8 0, .int .u8 0, .int .u8 0, .int .u8 0, .int .u8 0, .int .u8 0, .int .u8 0, .int .u8 0, .int .u8 0, .int .u8 0, .int .u8 0, .int .u8 0, .int .u8 0, .int .u8 0, .int .u8 0, .int .u8 0, .int .u8 0, .int .u8 0, .int .u8 0, .int .u8 0, .int .u8 0, .int .u8 0] 23), (w.heap.size + 1, .cells (cs8 us) 23), (w.heap.size, .cells (cs8 ks) 23)]) := (HM6.out).alloc (.cells #[.int .u8 0, .int .u8 0, .int .u8 0, .int .u8 0, .int .u8 0, .int .u8 0, .int .u8 0, .int .u8 0, .int .u8 0, .int .u8 0, .int .u8 0, .int .u8 0, .int .u8 0, .int .u8 0, .int .u8 0, .int .u8 0, .int .u8 0, .int .u8 0, .int .u8 0, .int .u8 0, .int .u8 0, .int .u8 0, .int .u8 0, .int .u8 0, .int .u8 0, .int .u8 0, .int .u8 0, .int .u8 0, .int .u8 0, .int .u8 0, .int .u8 0, .int .u8 0] 23)
  clear HM6
  generalize u5.alloc (.cells #[.int .u8 0, .int .u8 0, .int .u8 0, .int .u8 0, .int .u8 0, .int .u8 0, .int .u8 0, .int .u8 0, .int .u8 0, .int .u8 0, .int .u8 0, .int .u8 0, .int .u8 0, .int .u8 0, .int .u8 0, .int .u8 0, .int .u8 0, .int .u8 0, .int .u8 0, .int .u8 0, .int .u8 0, .int .u8 0, .int .u8 0, .int .u8 0, .int .u8 0, .int .u8 0, .int .u8 0, .int .u8 0, .int .u8 0, .int .u8 0, .int .u8 0, .int .u8 0] 23) = V7 at *
  generalize u5.heap.size = g10 at *
  refine wpList_store_blk (b := g10) rfl rfl rfl rfl ((HM9.out).get 0 rfl) (by kernel_rfl) (rfl) ((cs8_size (keyL_len _))) (cs8_one _) ?_
  simp only [Act.put]
  generalize hV12 : World.setCells V7 (g10) 0 _ = V11
  have HM13 : Hid (Mem w.heap.size w V11 [(g10, .cells (cs8 (keyL r)) 23), (w.heap.size + 1 + 1, .cells #[.int .u8 0, .int .u8 0, .int .u8 0, .int .u8 0, .int .u8 0, .int .u8 0, .int .u8 0, .int .u8 0, .int .u8 0, .int .u8 0, .int .u8 0, .int .u8 0, .int .u8 0, .int .u8 0, .int .u8 0, .int .u8 0, .int .u8 0, .int .u8 0, .int .u8 0, .int .u8 0, .int .u8 0, .int .u8 0, .int .u8 0, .int .u8 0, .int .u8 0, .int .u8 0, .int .u8 0, .int .u8 0, .int .u8 0, .int .u8 0, .int .u8 0, .int .u8 0] 23), (w.heap.size + 1, .cells (cs8 us) 23), (w.heap.size, .cells (cs8 ks) 23)]) := (by rw [← hV12]; exact (HM9.out).store 0 (cs8 (keyL r)) rfl ((rfl).trans ((cs8_size (keyL_len _))).symm) : Mem w.heap.size w V11 [(g10, .cells (cs8 (keyL r)) 23), (w.heap.size + 1 + 1, .cells #[.int .u8 0, .int .u8 0, .int .u8 0, .int .u8 0, .int .u8 0, .int .u8 0, .int .u8 0, .int .u8 0, .int .u8 0, .int .u8 0, .int .u8 0, .int .u8 0, .int .u8 0, .int .u8 0, .int .u8 0, .int .u8 0, .int .u8 0, .int .u8 0, .int .u8 0, .int .u8 0, .int .u8 0, .int .u8 0, .int .u8 0, .int .u8 0, .int .u8 0, .int .u8 0, .int .u8 0, .int .u8 0, .int .u8 0, .int .u8 0, .int .u8 0, .int .u8 0] 23), (w.heap.size + 1, .cells (cs8 us) 23), (w.heap.size, .cells (cs8 ks) 23)])
  clear hV12 HM9
  go_upto_region 2 with fail
  refine wp_region_list ?_
  refine wpList_ok (base := 0) (v := .agg (cs8 (keyL r))) (ok_load rfl rfl rfl ((HM13.out).get 0 rfl) Try.underlying23 rfl (by kernel_rfl) ((cs8_size (keyL_len _)))) fun u14 hb => ?_
  have HM15 : Hid (Mem w.heap.size w u14 [(g10, .cells (cs8 (keyL r)) 23), (w.heap.size + 1 + 1, .cells #[.int .u8 0, .int .u8 0, .int .u8 0, .int .u8 0, .int .u8 0, .int .u8 0, .int .u8 0, .int .u8 0, .int .u8 0, .int .u8 0, .int .u8 0, .int .u8 0, .int .u8 0, .int .u8 0, .int .u8 0, .int .u8 0, .int .u8 0, .int .u8 0, .int .u8 0, .int .u8 0, .int .u8 0, .int .u8 0, .int .u8 0, .int .u8 0, .int .u8 0, .int .u8 0, .int .u8 0, .int .u8 0, .int .u8 0, .int .u8 0, .int .u8 0, .int .u8 0] 23), (w.heap.size + 1, .cells (cs8 us) 23), (w.heap.size, .cells (cs8 ks) 23)]) := (HM13.out).keep hb
  clear hb HM13
  simp only [Act.put, List.setIfInBounds_toArray, List.set_cons_succ, List.set_cons_zero]
  refine wpList_ok (base := 0) (v := .agg (cs8 zero32)) (ok_value rfl (by rw [zero32_key]; simp [execOp, go_sem])) fun u16 hb => ?_
  have HM17 : Hid (Mem w.heap.size w u16 [(g10, .cells (cs8 (keyL r)) 23), (w.heap.size + 1 + 1, .cells #[.int .u8 0, .int .u8 0, .int .u8 0, .int .u8 0, .int .u8 0, .int .u8 0, .int .u8 0, .int .u8 0, .int .u8 0, .int .u8 0, .int .u8 0, .int .u8 0, .int .u8 0, .int .u8 0, .int .u8 0, .int .u8 0, .int .u8 0, .int .u8 0, .int .u8 0, .int .u8 0, .int .u8 0, .int .u8 0, .int .u8 0, .int .u8 0, .int .u8 0, .int .u8 0, .int .u8 0, .int .u8 0, .int .u8 0, .int .u8 0, .int .u8 0, .int .u8 0] 23), (w.heap.size + 1, .cells (cs8 us) 23), (w.heap.size, .cells (cs8 ks) 23)]) := (HM15.out).keep hb
  clear hb HM15
  simp only [Act.put, List.setIfInBounds_toArray, List.set_cons_succ, List.set_cons_zero]
  refine wpList_ok (base := 0) (v := .bool false) (ok_eql_cs8 (keyL r) zero32 false rfl rfl rfl (keyL_len _) rfl (hz) rfl rfl) fun u18 hb => ?_
  have HM19 : Hid (Mem w.heap.size w u18 [(g10, .cells (cs8 (keyL r)) 23), (w.heap.size + 1 + 1, .cells #[.int .u8 0, .int .u8 0, .int .u8 0, .int .u8 0, .int .u8 0, .int .u8 0, .int .u8 0, .int .u8 0, .int .u8 0, .int .u8 0, .int .u8 0, .int .u8 0, .int .u8 0, .int .u8 0, .int .u8 0, .int .u8 0, .int .u8 0, .int .u8 0, .int .u8 0, .int .u8 0, .int .u8 0, .int .u8 0, .int .u8 0, .int .u8 0, .int .u8 0, .int .u8 0, .int .u8 0, .int .u8 0, .int .u8 0, .int .u8 0, .int .u8 0, .int .u8 0] 23), (w.heap.size + 1, .cells (cs8 us) 23), (w.heap.size, .cells (cs8 ks) 23)]) := (HM17.out).keep hb
  clear hb HM17
  simp only [Act.put, List.setIfInBounds_toArray, List.set_cons_succ, List.set_cons_zero]
  go_upto_region 4 with fail
  refine wp_region_list ?_
  refine wpList_ok (base := 0) (v := .agg (cs8 (keyL r))) (ok_load rfl rfl rfl ((HM19.out).get 0 rfl) Try.underlying23 rfl (by kernel_rfl) ((cs8_size (keyL_len _)))) fun u20 hb => ?_
  have HM21 : Hid (Mem w.heap.size w u20 [(g10, .cells (cs8 (keyL r)) 23), (w.heap.size + 1 + 1, .cells #[.int .u8 0, .int .u8 0, .int .u8 0, .int .u8 0, .int .u8 0, .int .u8 0, .int .u8 0, .int .u8 0, .int .u8 0, .int .u8 0, .int .u8 0, .int .u8 0, .int .u8 0, .int .u8 0, .int .u8 0, .int .u8 0, .int .u8 0, .int .u8 0, .int .u8 0, .int .u8 0, .int .u8 0, .int .u8 0, .int .u8 0, .int .u8 0, .int .u8 0, .int .u8 0, .int .u8 0, .int .u8 0, .int .u8 0, .int .u8 0, .int .u8 0, .int .u8 0] 23), (w.heap.size + 1, .cells (cs8 us) 23), (w.heap.size, .cells (cs8 ks) 23)]) := (HM19.out).keep hb
  clear hb HM19
  simp only [Act.put, List.setIfInBounds_toArray, List.set_cons_succ, List.set_cons_zero]
  refine wpList_store_blk (b := w.heap.size + 1 + 1) rfl rfl rfl rfl ((HM21.out).get 1 rfl) (by kernel_rfl) (rfl) ((cs8_size (keyL_len _))) (cs8_one _) ?_
  simp only [Act.put]
  generalize hV23 : World.setCells u20 (w.heap.size + 1 + 1) 0 _ = V22
  have HM24 : Hid (Mem w.heap.size w V22 [(g10, .cells (cs8 (keyL r)) 23), (w.heap.size + 1 + 1, .cells (cs8 (keyL r)) 23), (w.heap.size + 1, .cells (cs8 us) 23), (w.heap.size, .cells (cs8 ks) 23)]) := (by rw [← hV23]; exact (HM21.out).store 1 (cs8 (keyL r)) rfl ((rfl).trans ((cs8_size (keyL_len _))).symm) : Mem w.heap.size w V22 [(g10, .cells (cs8 (keyL r)) 23), (w.heap.size + 1 + 1, .cells (cs8 (keyL r)) 23), (w.heap.size + 1, .cells (cs8 us) 23), (w.heap.size, .cells (cs8 ks) 23)])
  clear hV23 HM21
  refine wpList_ok (base := 0) (v := .int .i64 0) (ok_value rfl (by simp [execOp, Act.eval])) fun u25 hb => ?_
  have HM26 : Hid (Mem w.heap.size w u25 [(g10, .cells (cs8 (keyL r)) 23), (w.heap.size + 1 + 1, .cells (cs8 (keyL r)) 23), (w.heap.size + 1, .cells (cs8 us) 23), (w.heap.size, .cells (cs8 ks) 23)]) := (HM24.out).keep hb
  clear hb HM24
  simp only [Act.put, List.setIfInBounds_toArray, List.set_cons_succ, List.set_cons_zero]
  go_wp2_with fail
  exact bodyPost_ret (v := .tuple #[.agg (cs8 (keyL r)), .int .i64 0]) (results_pair (b := w.heap.size + 1 + 1) Try.results9 rfl ((HM26.out).get 1 rfl) Try.underlying23 rfl (by kernel_rfl) (cs8_size (keyL_len _)) rfl) rfl ⟨rfl, (HM26.out).below⟩

set_option maxRecDepth 100000 in
set_option maxHeartbeats 4000000 in
theorem rshared_weak (ks us : List Nat) (hk : Bytes ks) (hu : Bytes us) (r : Nat) (hr : curveN ks us = r) (hz : (keyL r == zero32) = true) (w : World) :
    Calls Try.prog 8 #[.agg (cs8 ks), .agg (cs8 us)] w fun e w' => e = .returned (.tuple #[.agg (cs8 (keyL r)), .bool false]) ∧ Below w.heap.size w w' := by
  go_enter Try.func8, Try.ntmps8
  go_upto_region 1 with fail
  generalize hW : World.alloc (World.alloc (World.alloc w _) _) _ = W
  have HM : Hid (Mem w.heap.size w W [(w.heap.size + 1 + 1, .cells #[.int .u8 0, .int .u8 0, .int .u8 0, .int .u8 0, .int .u8 0, .int .u8 0, .int .u8 0, .int .u8 0, .int .u8 0, .int .u8 0, .int .u8 0, .int .u8 0, .int .u8 0, .int .u8 0, .int .u8 0, .int .u8 0, .int .u8 0, .int .u8 0, .int .u8 0, .int .u8 0, .int .u8 0, .int .u8 0, .int .u8 0, .int .u8 0, .int .u8 0, .int .u8 0, .int .u8 0, .int .u8 0, .int .u8 0, .int .u8 0, .int .u8 0, .int .u8 0] 22), (w.heap.size + 1, .cells (cs8 us) 22), (w.heap.size, .cells (cs8 ks) 22)]) := (by rw [← hW]; exact (((Mem.start w).allocAt _ rfl).allocAt _ (by simp)).allocAt _ (by simp) : Mem w.heap.size w W [(w.heap.size + 1 + 1, .cells #[.int .u8 0, .int .u8 0, .int .u8 0, .int .u8 0, .int .u8 0, .int .u8 0, .int .u8 0, .int .u8 0, .int .u8 0, .int .u8 0, .int .u8 0, .int .u8 0, .int .u8 0, .int .u8 0, .int .u8 0, .int .u8 0, .int .u8 0, .int .u8 0, .int .u8 0, .int .u8 0, .int .u8 0, .int .u8 0, .int .u8 0, .int .u8 0, .int .u8 0, .int .u8 0, .int .u8 0, .int .u8 0, .int .u8 0, .int .u8 0, .int .u8 0, .int .u8 0] 22), (w.heap.size + 1, .cells (cs8 us) 22), (w.heap.size, .cells (cs8 ks) 22)])
  clear hW
  refine wp_region_list ?_
  refine wpList_ok (base := 0) (v := .agg (cs8 ks)) (ok_load rfl rfl rfl ((HM.out).get 2 rfl) Try.underlying22 rfl (by kernel_rfl) ((cs8_size hk.1))) fun u1 hb => ?_
  have HM2 : Hid (Mem w.heap.size w u1 [(w.heap.size + 1 + 1, .cells #[.int .u8 0, .int .u8 0, .int .u8 0, .int .u8 0, .int .u8 0, .int .u8 0, .int .u8 0, .int .u8 0, .int .u8 0, .int .u8 0, .int .u8 0, .int .u8 0, .int .u8 0, .int .u8 0, .int .u8 0, .int .u8 0, .int .u8 0, .int .u8 0, .int .u8 0, .int .u8 0, .int .u8 0, .int .u8 0, .int .u8 0, .int .u8 0, .int .u8 0, .int .u8 0, .int .u8 0, .int .u8 0, .int .u8 0, .int .u8 0, .int .u8 0, .int .u8 0] 22), (w.heap.size + 1, .cells (cs8 us) 22), (w.heap.size, .cells (cs8 ks) 22)]) := (HM.out).keep hb
  clear hb HM
  simp only [Act.put, List.setIfInBounds_toArray, List.set_cons_succ, List.set_cons_zero]
  refine wpList_ok (base := 0) (v := .agg (cs8 us)) (ok_load rfl rfl rfl ((HM2.out).get 1 rfl) Try.underlying22 rfl (by kernel_rfl) ((cs8_size hu.1))) fun u3 hb => ?_
  have HM4 : Hid (Mem w.heap.size w u3 [(w.heap.size + 1 + 1, .cells #[.int .u8 0, .int .u8 0, .int .u8 0, .int .u8 0, .int .u8 0, .int .u8 0, .int .u8 0, .int .u8 0, .int .u8 0, .int .u8 0, .int .u8 0, .int .u8 0, .int .u8 0, .int .u8 0, .int .u8 0, .int .u8 0, .int .u8 0, .int .u8 0, .int .u8 0, .int .u8 0, .int .u8 0, .int .u8 0, .int .u8 0, .int .u8 0, .int .u8 0, .int .u8 0, .int .u8 0, .int .u8 0, .int .u8 0, .int .u8 0, .int .u8 0, .int .u8 0] 22), (w.heap.size + 1, .cells (cs8 us) 22), (w.heap.size, .cells (cs8 ks) 22)]) := (HM2.out).keep hb
  clear hb HM2
  simp only [Act.put, List.setIfInBounds_toArray, List.set_cons_succ, List.set_cons_zero]
  refine wpList_ok (base := 0) (v := .agg (cs8 (keyL r))) (ok_call rfl (by simp [Act.eval, go_sem]) (hr ▸ rcurve_any ks us hk hu _)) fun u5 hb => ?_
  have HM6 : Hid (Mem w.heap.size w u5 [(w.heap.size + 1 + 1, .cells #[.int .u8 0, .int .u8 0, .int .u8 0, .int .u8 0, .int .u8 0, .int .u8 0, .int .u8 0, .int .u8 0, .int .u8 0, .int .u8 0, .int .u8 0, .int .u8 0, .int .u8 0, .int .u8 0, .int .u8 0, .int .u8 0, .int .u8 0, .int .u8 0, .int .u8 0, .int .u8 0, .int .u8 0, .int .u8 0, .int .u8 0, .int .u8 0, .int .u8 0, .int .u8 0, .int .u8 0, .int .u8 0, .int .u8 0, .int .u8 0, .int .u8 0, .int .u8 0] 22), (w.heap.size + 1, .cells (cs8 us) 22), (w.heap.size, .cells (cs8 ks) 22)]) := (HM4.out).keep hb
  clear hb HM4
  simp only [Act.put, List.setIfInBounds_toArray, List.set_cons_succ, List.set_cons_zero]
  refine wpList_alloc (o := .cells #[.int .u8 0, .int .u8 0, .int .u8 0, .int .u8 0, .int .u8 0, .int .u8 0, .int .u8 0, .int .u8 0, .int .u8 0, .int .u8 0, .int .u8 0, .int .u8 0, .int .u8 0, .int .u8 0, .int .u8 0, .int .u8 0, .int .u8 0, .int .u8 0, .int .u8 0, .int .u8 0, .int .u8 0, .int .u8 0, .int .u8 0, .int .u8 0, .int .u8 0, .int .u8 0, .int .u8 0, .int .u8 0, .int .u8 0, .int .u8 0, .int .u8 0, .int .u8 0] 22) (v := .pointer (some ⟨u5.heap.size, 0, none⟩)) rfl (by simp [execOp, go_sem]) ?_
  simp only [Act.put, List.setIfInBounds_toArray, List.set_cons_succ, List.set_cons_zero]
  have HM9 : Hid (Mem w.heap.size w _ [(u5.heap.size, .cells #[.int .u8 0, .int .u8 0, .int .u8 0, .int .u8 0, .int .u8 0, .int .u8 0, .int .u8 0, .int .u8 0, .int .u8 0, .int .u8 0, .int .u8 0, .int .u8 0, .int .u8 0, .int .u8 0, .int .u8 0, .int .u8 0, .int .u8 0, .int .u8 0, .int .u8 0, .int .u8 0, .int .u8 0, .int .u8 0, .int .u8 0, .int .u8 0, .int .u8 0, .int .u8 0, .int .u8 0, .int .u8 0, .int .u8 0, .int .u8 0, .int .u8 0, .int .u8 0] 22), (w.heap.size + 1 + 1, .cells #[.int .u8 0, .int .u8 0, .int .u8 0, .int .u8 0, .int .u8 0, .int .u8 0, .int .u8 0, .int .u8 0, .int .u8 0, .int .u8 0, .int .u8 0, .int .u8 0, .int .u8 0, .int .u8 0, .int .u8 0, .int .u8 0, .int .u8 0, .int .u8 0, .int .u8 0, .int .u8 0, .int .u8 0, .int .u8 0, .int .u8 0, .int .u8 0, .int .u8 0, .int .u8 0, .int .u8 0, .int .u8 0, .int .u8 0, .int .u8 0, .int .u8 0, .int .u8 0] 22), (w.heap.size + 1, .cells (cs8 us) 22), (w.heap.size, .cells (cs8 ks) 22)]) := (HM6.out).alloc (.cells #[.int .u8 0, .int .u8 0, .int .u8 0, .int .u8 0, .int .u8 0, .int .u8 0, .int .u8 0, .int .u8 0, .int .u8 0, .int .u8 0, .int .u8 0, .int .u8 0, .int .u8 0, .int .u8 0, .int .u8 0, .int .u8 0, .int .u8 0, .int .u8 0, .int .u8 0, .int .u8 0, .int .u8 0, .int .u8 0, .int .u8 0, .int .u8 0, .int .u8 0, .int .u8 0, .int .u8 0, .int .u8 0, .int .u8 0, .int .u8 0, .int .u8 0, .int .u8 0] 22)
  clear HM6
  generalize u5.alloc (.cells #[.int .u8 0, .int .u8 0, .int .u8 0, .int .u8 0, .int .u8 0, .int .u8 0, .int .u8 0, .int .u8 0, .int .u8 0, .int .u8 0, .int .u8 0, .int .u8 0, .int .u8 0, .int .u8 0, .int .u8 0, .int .u8 0, .int .u8 0, .int .u8 0, .int .u8 0, .int .u8 0, .int .u8 0, .int .u8 0, .int .u8 0, .int .u8 0, .int .u8 0, .int .u8 0, .int .u8 0, .int .u8 0, .int .u8 0, .int .u8 0, .int .u8 0, .int .u8 0] 22) = V7 at *
  generalize u5.heap.size = g10 at *
  refine wpList_store_blk (b := g10) rfl rfl rfl rfl ((HM9.out).get 0 rfl) (by kernel_rfl) (rfl) ((cs8_size (keyL_len _))) (cs8_one _) ?_
  simp only [Act.put]
  generalize hV12 : World.setCells V7 (g10) 0 _ = V11
  have HM13 : Hid (Mem w.heap.size w V11 [(g10, .cells (cs8 (keyL r)) 22), (w.heap.size + 1 + 1, .cells #[.int .u8 0, .int .u8 0, .int .u8 0, .int .u8 0, .int .u8 0, .int .u8 0, .int .u8 0, .int .u8 0, .int .u8 0, .int .u8 0, .int .u8 0, .int .u8 0, .int .u8 0, .int .u8 0, .int .u8 0, .int .u8 0, .int .u8 0, .int .u8 0, .int .u8 0, .int .u8 0, .int .u8 0, .int .u8 0, .int .u8 0, .int .u8 0, .int .u8 0, .int .u8 0, .int .u8 0, .int .u8 0, .int .u8 0, .int .u8 0, .int .u8 0, .int .u8 0] 22), (w.heap.size + 1, .cells (cs8 us) 22), (w.heap.size, .cells (cs8 ks) 22)]) := (by rw [← hV12]; exact (HM9.out).store 0 (cs8 (keyL r)) rfl ((rfl).trans ((cs8_size (keyL_len _))).symm) : Mem w.heap.size w V11 [(g10, .cells (cs8 (keyL r)) 22), (w.heap.size + 1 + 1, .cells #[.int .u8 0, .int .u8 0, .int .u8 0, .int .u8 0, .int .u8 0, .int .u8 0, .int .u8 0, .int .u8 0, .int .u8 0, .int .u8 0, .int .u8 0, .int .u8 0, .int .u8 0, .int .u8 0, .int .u8 0, .int .u8 0, .int .u8 0, .int .u8 0, .int .u8 0, .int .u8 0, .int .u8 0, .int .u8 0, .int .u8 0, .int .u8 0, .int .u8 0, .int .u8 0, .int .u8 0, .int .u8 0, .int .u8 0, .int .u8 0, .int .u8 0, .int .u8 0] 22), (w.heap.size + 1, .cells (cs8 us) 22), (w.heap.size, .cells (cs8 ks) 22)])
  clear hV12 HM9
  go_wp2_with fail
  obtain ⟨X0, hX0⟩ : ∃ x : World, x = { V11 with drawn := V11.drawn + 1 } := ⟨_, rfl⟩
  have Q0 : Mem w.heap.size w X0 [(g10, .cells (cs8 (keyL r)) 22), (w.heap.size + 1 + 1, .cells #[.int .u8 0, .int .u8 0, .int .u8 0, .int .u8 0, .int .u8 0, .int .u8 0, .int .u8 0, .int .u8 0, .int .u8 0, .int .u8 0, .int .u8 0, .int .u8 0, .int .u8 0, .int .u8 0, .int .u8 0, .int .u8 0, .int .u8 0, .int .u8 0, .int .u8 0, .int .u8 0, .int .u8 0, .int .u8 0, .int .u8 0, .int .u8 0, .int .u8 0, .int .u8 0, .int .u8 0, .int .u8 0, .int .u8 0, .int .u8 0, .int .u8 0, .int .u8 0] 22), (w.heap.size + 1, .cells (cs8 us) 22), (w.heap.size, .cells (cs8 ks) 22)] := by rw [hX0]; exact (HM13.out).keep ⟨rfl, rfl, rfl, Nat.le_refl _, fun _ _ => rfl⟩
  obtain ⟨X1, hX1⟩ : ∃ x : World, x = X0.setCells (w.heap.size + 1 + 1) 0 (cs8 (keyL r)).toList := ⟨_, rfl⟩
  have Q1 : Mem w.heap.size w X1 [(g10, .cells (cs8 (keyL r)) 22), (w.heap.size + 1 + 1, .cells (cs8 (keyL r)) 22), (w.heap.size + 1, .cells (cs8 us) 22), (w.heap.size, .cells (cs8 ks) 22)] := by rw [hX1]; exact Q0.store 1 (cs8 (keyL r)) rfl (cs8_size (keyL_len _)).symm
  have QG : ∀ v : World, (v = X0 ∨ v = X1) → v.heap[g10]? = some (.cells (cs8 (keyL r)) 22) := by
    rintro v (rfl | rfl)
    · exact Q0.get 0 rfl
    · exact Q1.get 0 rfl
  refine region_one6 10 11 12 13 5 (.agg (cs8 (keyL r))) (.agg (cs8 (keyL r))) (.agg (cs8 zero32)) (.bool false) (.bool false) X0 X1 (by kernel_rfl) (by kernel_rfl) (by simp) (by decide) hX0
    ⟨rfl, rfl, fun a v hv hk => run_load_op (t := 6) rfl ((hk 6 (by decide) (by decide) (by decide) (by decide) (by decide)).trans rfl) (QG v hv) Try.underlying22 rfl (by kernel_rfl) (cs8_size (keyL_len _))⟩
    ⟨rfl, rfl, fun a v hv hk => run_load_op (t := 6) rfl ((hk 6 (by decide) (by decide) (by decide) (by decide) (by decide)).trans rfl) (QG v hv) Try.underlying22 rfl (by kernel_rfl) (cs8_size (keyL_len _))⟩
    ⟨rfl, rfl, fun a v hv hk => by rw [zero32_key]; simp [execOp, go_sem]⟩
    ⟨rfl, rfl, fun a v hv hk h1 h2 => run_neq_cs8 (keyL r) zero32 false rfl Try.underlying22 Try.underlying5 (by kernel_rfl) (by kernel_rfl) (by kernel_rfl) (keyL_len _) rfl (by rw [hz]; rfl) h1 h2⟩
    ⟨rfl, rfl, fun a v hv hk h => by simp [execOp, Act.eval, h]⟩
    ⟨of_decide_eq_true (by kernel_rfl), of_decide_eq_true (by kernel_rfl)⟩ (of_decide_eq_true (by kernel_rfl)) ⟨rfl, rfl⟩ (of_decide_eq_true (by kernel_rfl))
    (fun a K hk hv hK => wp_store_blk (t := 4) (s := 10) rfl ((hk 4 (by decide) (by decide) (by decide) (by decide) (by decide)).trans rfl) hv (Q0.get 1 rfl) (by kernel_rfl) rfl (cs8_size (keyL_len _)) (cs8_one _) hX1 hK)
    ?_
  have HQ : Hid _ := Q1
  clear Q0 Q1 QG hX0 hX1
  simp only [Act.put, List.setIfInBounds_toArray, List.set_cons_succ, List.set_cons_zero]
  go_wp2_with fail
  exact bodyPost_ret (v := .tuple #[.agg (cs8 (keyL r)), .bool false]) (results_pair (b := w.heap.size + 1 + 1) Try.results8 rfl ((HQ.out).get 1 rfl) Try.underlying22 rfl (by kernel_rfl) (cs8_size (keyL_len _)) rfl) rfl ⟨rfl, (HQ.out).below⟩

set_option maxRecDepth 100000 in
set_option maxHeartbeats 4000000 in
theorem rshared_ok (ks us : List Nat) (hk : Bytes ks) (hu : Bytes us) (r : Nat) (hr : curveN ks us = r) (hz : (keyL r == zero32) = false) (w : World) :
    Calls Try.prog 8 #[.agg (cs8 ks), .agg (cs8 us)] w fun e w' => e = .returned (.tuple #[.agg (cs8 (keyL r)), .bool true]) ∧ Below w.heap.size w w' := by
  go_enter Try.func8, Try.ntmps8
  go_upto_region 1 with fail
  generalize hW : World.alloc (World.alloc (World.alloc w _) _) _ = W
  have HM : Hid (Mem w.heap.size w W [(w.heap.size + 1 + 1, .cells #[.int .u8 0, .int .u8 0, .int .u8 0, .int .u8 0, .int .u8 0, .int .u8 0, .int .u8 0, .int .u8 0, .int .u8 0, .int .u8 0, .int .u8 0, .int .u8 0, .int .u8 0, .int .u8 0, .int .u8 0, .int .u8 0, .int .u8 0, .int .u8 0, .int .u8 0, .int .u8 0, .int .u8 0, .int .u8 0, .int .u8 0, .int .u8 0, .int .u8 0, .int .u8 0, .int .u8 0, .int .u8 0, .int .u8 0, .int .u8 0, .int .u8 0, .int .u8 0] 22), (w.heap.size + 1, .cells (cs8 us) 22), (w.heap.size, .cells (cs8 ks) 22)]) := (by rw [← hW]; exact (((Mem.start w).allocAt _ rfl).allocAt _ (by simp)).allocAt _ (by simp) : Mem w.heap.size w W [(w.heap.size + 1 + 1, .cells #[.int .u8 0, .int .u8 0, .int .u8 0, .int .u8 0, .int .u8 0, .int .u8 0, .int .u8 0, .int .u8 0, .int .u8 0, .int .u8 0, .int .u8 0, .int .u8 0, .int .u8 0, .int .u8 0, .int .u8 0, .int .u8 0, .int .u8 0, .int .u8 0, .int .u8 0, .int .u8 0, .int .u8 0, .int .u8 0, .int .u8 0, .int .u8 0, .int .u8 0, .int .u8 0, .int .u8 0, .int .u8 0, .int .u8 0, .int .u8 0, .int .u8 0, .int .u8 0] 22), (w.heap.size + 1, .cells (cs8 us) 22), (w.heap.size, .cells (cs8 ks) 22)])
  clear hW
  refine wp_region_list ?_
  refine wpList_ok (base := 0) (v := .agg (cs8 ks)) (ok_load rfl rfl rfl ((HM.out).get 2 rfl) Try.underlying22 rfl (by kernel_rfl) ((cs8_size hk.1))) fun u1 hb => ?_
  have HM2 : Hid (Mem w.heap.size w u1 [(w.heap.size + 1 + 1, .cells #[.int .u8 0, .int .u8 0, .int .u8 0, .int .u8 0, .int .u8 0, .int .u8 0, .int .u8 0, .int .u8 0, .int .u8 0, .int .u8 0, .int .u8 0, .int .u8 0, .int .u8 0, .int .u8 0, .int .u8 0, .int .u8 0, .int .u8 0, .int .u8 0, .int .u8 0, .int .u8 0, .int .u8 0, .int .u8 0, .int .u8 0, .int .u8 0, .int .u8 0, .int .u8 0, .int .u8 0, .int .u8 0, .int .u8 0, .int .u8 0, .int .u8 0, .int .u8 0] 22), (w.heap.size + 1, .cells (cs8 us) 22), (w.heap.size, .cells (cs8 ks) 22)]) := (HM.out).keep hb
  clear hb HM
  simp only [Act.put, List.setIfInBounds_toArray, List.set_cons_succ, List.set_cons_zero]
  refine wpList_ok (base := 0) (v := .agg (cs8 us)) (ok_load rfl rfl rfl ((HM2.out).get 1 rfl) Try.underlying22 rfl (by kernel_rfl) ((cs8_size hu.1))) fun u3 hb => ?_
  have HM4 : Hid (Mem w.heap.size w u3 [(w.heap.size + 1 + 1, .cells #[.int .u8 0, .int .u8 0, .int .u8 0, .int .u8 0, .int .u8 0, .int .u8 0, .int .u8 0, .int .u8 0, .int .u8 0, .int .u8 0, .int .u8 0, .int .u8 0, .int .u8 0, .int .u8 0, .int .u8 0, .int .u8 0, .int .u8 0, .int .u8 0, .int .u8 0, .int .u8 0, .int .u8 0, .int .u8 0, .int .u8 0, .int .u8 0, .int .u8 0, .int .u8 0, .int .u8 0, .int .u8 0, .int .u8 0, .int .u8 0, .int .u8 0, .int .u8 0] 22), (w.heap.size + 1, .cells (cs8 us) 22), (w.heap.size, .cells (cs8 ks) 22)]) := (HM2.out).keep hb
  clear hb HM2
  simp only [Act.put, List.setIfInBounds_toArray, List.set_cons_succ, List.set_cons_zero]
  refine wpList_ok (base := 0) (v := .agg (cs8 (keyL r))) (ok_call rfl (by simp [Act.eval, go_sem]) (hr ▸ rcurve_any ks us hk hu _)) fun u5 hb => ?_
  have HM6 : Hid (Mem w.heap.size w u5 [(w.heap.size + 1 + 1, .cells #[.int .u8 0, .int .u8 0, .int .u8 0, .int .u8 0, .int .u8 0, .int .u8 0, .int .u8 0, .int .u8 0, .int .u8 0, .int .u8 0, .int .u8 0, .int .u8 0, .int .u8 0, .int .u8 0, .int .u8 0, .int .u8 0, .int .u8 0, .int .u8 0, .int .u8 0, .int .u8 0, .int .u8 0, .int .u8 0, .int .u8 0, .int .u8 0, .int .u8 0, .int .u8 0, .int .u8 0, .int .u8 0, .int .u8 0, .int .u8 0, .int .u8 0, .int .u8 0] 22), (w.heap.size + 1, .cells (cs8 us) 22), (w.heap.size, .cells (cs8 ks) 22)]) := (HM4.out).keep hb
  clear hb HM4
  simp only [Act.put, List.setIfInBounds_toArray, List.set_cons_succ, List.set_cons_zero]
  refine wpList_alloc (o := .cells #[.int .u8 0, .int .u8 0, .int .u8 0, .int .u8 0, .int .u8 0, .int .u8 0, .int .u8 0, .int .u8 0, .int .u8 0, .int .u8 0, .int .u8 0, .int .u8 0, .int .u8 0, .int .u8 0, .int .u8 0, .int .u8 0, .int .u8 0, .int .u8 0, .int .u8 0, .int .u8 0, .int .u8 0, .int .u8 0, .int .u8 0, .int .u8 0, .int .u8 0, .int .u8 0, .int .u8 0, .int .u8 0, .int .u8 0, .int .u8 0, .int .u8 0, .int .u8 0] 22) (v := .pointer (some ⟨u5.heap.size, 0, none⟩)) rfl (by simp [execOp, go_sem]) ?_
  simp only [Act.put, List.setIfInBounds_toArray, List.set_cons_succ, List.set_cons_zero]
  have HM9 : Hid (Mem w.heap.size w _ [(u5.heap.size, .cells #[.int .u8 0, .int .u8 0, .int .u8 0, .int .u8 0, .int .u8 0, .int .u8 0, .int .u8 0, .int .u8 0, .int .u8 0, .int .u8 0, .int .u8 0, .int .u8 0, .int .u8 0, .int .u8 0, .int .u8 0, .int .u8 0, .int .u8 0, .int .u8 0, .int .u8 0, .int .u8 0, .int .u8 0, .int .u8 0, .int .u8 0, .int .u8 0, .int .u8 0, .int .u8 0, .int .u8 0, .int .u8 0, .int .u8 0, .int .u8 0, .int .u8 0, .int .u8 0] 22), (w.heap.size + 1 + 1, .cells #[.int .u8 0, .int .u8 0, .int .u8 0, .int .u8 0, .int .u8 0, .int .u8 0, .int .u8 0, .int .u8 0, .int .u8 0, .int .u8 0, .int .u8 0, .int .u8 0, .int .u8 0, .int .u8 0, .int .u8 0, .int .u8 0, .int .u8 0, .int .u8 0, .int .u8 0, .int .u8 0, .int .u8 0, .int .u8 0, .int .u8 0, .int .u8 0, .int .u8 0, .int .u8 0, .int .u8 0, .int .u8 0, .int .u8 0, .int .u8 0, .int .u8 0, .int .u8 0] 22), (w.heap.size + 1, .cells (cs8 us) 22), (w.heap.size, .cells (cs8 ks) 22)]) := (HM6.out).alloc (.cells #[.int .u8 0, .int .u8 0, .int .u8 0, .int .u8 0, .int .u8 0, .int .u8 0, .int .u8 0, .int .u8 0, .int .u8 0, .int .u8 0, .int .u8 0, .int .u8 0, .int .u8 0, .int .u8 0, .int .u8 0, .int .u8 0, .int .u8 0, .int .u8 0, .int .u8 0, .int .u8 0, .int .u8 0, .int .u8 0, .int .u8 0, .int .u8 0, .int .u8 0, .int .u8 0, .int .u8 0, .int .u8 0, .int .u8 0, .int .u8 0, .int .u8 0, .int .u8 0] 22)
  clear HM6
  generalize u5.alloc (.cells #[.int .u8 0, .int .u8 0, .int .u8 0, .int .u8 0, .int .u8 0, .int .u8 0, .int .u8 0, .int .u8 0, .int .u8 0, .int .u8 0, .int .u8 0, .int .u8 0, .int .u8 0, .int .u8 0, .int .u8 0, .int .u8 0, .int .u8 0, .int .u8 0, .int .u8 0, .int .u8 0, .int .u8 0, .int .u8 0, .int .u8 0, .int .u8 0, .int .u8 0, .int .u8 0, .int .u8 0, .int .u8 0, .int .u8 0, .int .u8 0, .int .u8 0, .int .u8 0] 22) = V7 at *
  generalize u5.heap.size = g10 at *
  refine wpList_store_blk (b := g10) rfl rfl rfl rfl ((HM9.out).get 0 rfl) (by kernel_rfl) (rfl) ((cs8_size (keyL_len _))) (cs8_one _) ?_
  simp only [Act.put]
  generalize hV12 : World.setCells V7 (g10) 0 _ = V11
  have HM13 : Hid (Mem w.heap.size w V11 [(g10, .cells (cs8 (keyL r)) 22), (w.heap.size + 1 + 1, .cells #[.int .u8 0, .int .u8 0, .int .u8 0, .int .u8 0, .int .u8 0, .int .u8 0, .int .u8 0, .int .u8 0, .int .u8 0, .int .u8 0, .int .u8 0, .int .u8 0, .int .u8 0, .int .u8 0, .int .u8 0, .int .u8 0, .int .u8 0, .int .u8 0, .int .u8 0, .int .u8 0, .int .u8 0, .int .u8 0, .int .u8 0, .int .u8 0, .int .u8 0, .int .u8 0, .int .u8 0, .int .u8 0, .int .u8 0, .int .u8 0, .int .u8 0, .int .u8 0] 22), (w.heap.size + 1, .cells (cs8 us) 22), (w.heap.size, .cells (cs8 ks) 22)]) := (by rw [← hV12]; exact (HM9.out).store 0 (cs8 (keyL r)) rfl ((rfl).trans ((cs8_size (keyL_len _))).symm) : Mem w.heap.size w V11 [(g10, .cells (cs8 (keyL r)) 22), (w.heap.size + 1 + 1, .cells #[.int .u8 0, .int .u8 0, .int .u8 0, .int .u8 0, .int .u8 0, .int .u8 0, .int .u8 0, .int .u8 0, .int .u8 0, .int .u8 0, .int .u8 0, .int .u8 0, .int .u8 0, .int .u8 0, .int .u8 0, .int .u8 0, .int .u8 0, .int .u8 0, .int .u8 0, .int .u8 0, .int .u8 0, .int .u8 0, .int .u8 0, .int .u8 0, .int .u8 0, .int .u8 0, .int .u8 0, .int .u8 0, .int .u8 0, .int .u8 0, .int .u8 0, .int .u8 0] 22), (w.heap.size + 1, .cells (cs8 us) 22), (w.heap.size, .cells (cs8 ks) 22)])
  clear hV12 HM9
  go_wp2_with fail
  obtain ⟨X0, hX0⟩ : ∃ x : World, x = { V11 with drawn := V11.drawn + 1 } := ⟨_, rfl⟩
  have Q0 : Mem w.heap.size w X0 [(g10, .cells (cs8 (keyL r)) 22), (w.heap.size + 1 + 1, .cells #[.int .u8 0, .int .u8 0, .int .u8 0, .int .u8 0, .int .u8 0, .int .u8 0, .int .u8 0, .int .u8 0, .int .u8 0, .int .u8 0, .int .u8 0, .int .u8 0, .int .u8 0, .int .u8 0, .int .u8 0, .int .u8 0, .int .u8 0, .int .u8 0, .int .u8 0, .int .u8 0, .int .u8 0, .int .u8 0, .int .u8 0, .int .u8 0, .int .u8 0, .int .u8 0, .int .u8 0, .int .u8 0, .int .u8 0, .int .u8 0, .int .u8 0, .int .u8 0] 22), (w.heap.size + 1, .cells (cs8 us) 22), (w.heap.size, .cells (cs8 ks) 22)] := by rw [hX0]; exact (HM13.out).keep ⟨rfl, rfl, rfl, Nat.le_refl _, fun _ _ => rfl⟩
  obtain ⟨X1, hX1⟩ : ∃ x : World, x = X0.setCells (w.heap.size + 1 + 1) 0 (cs8 (keyL r)).toList := ⟨_, rfl⟩
  have Q1 : Mem w.heap.size w X1 [(g10, .cells (cs8 (keyL r)) 22), (w.heap.size + 1 + 1, .cells (cs8 (keyL r)) 22), (w.heap.size + 1, .cells (cs8 us) 22), (w.heap.size, .cells (cs8 ks) 22)] := by rw [hX1]; exact Q0.store 1 (cs8 (keyL r)) rfl (cs8_size (keyL_len _)).symm
  have QG : ∀ v : World, (v = X0 ∨ v = X1) → v.heap[g10]? = some (.cells (cs8 (keyL r)) 22) := by
    rintro v (rfl | rfl)
    · exact Q0.get 0 rfl
    · exact Q1.get 0 rfl
  refine region_one6 10 11 12 13 5 (.agg (cs8 (keyL r))) (.agg (cs8 (keyL r))) (.agg (cs8 zero32)) (.bool true) (.bool true) X0 X1 (by kernel_rfl) (by kernel_rfl) (by simp) (by decide) hX0
    ⟨rfl, rfl, fun a v hv hk => run_load_op (t := 6) rfl ((hk 6 (by decide) (by decide) (by decide) (by decide) (by decide)).trans rfl) (QG v hv) Try.underlying22 rfl (by kernel_rfl) (cs8_size (keyL_len _))⟩
    ⟨rfl, rfl, fun a v hv hk => run_load_op (t := 6) rfl ((hk 6 (by decide) (by decide) (by decide) (by decide) (by decide)).trans rfl) (QG v hv) Try.underlying22 rfl (by kernel_rfl) (cs8_size (keyL_len _))⟩
    ⟨rfl, rfl, fun a v hv hk => by rw [zero32_key]; simp [execOp, go_sem]⟩
    ⟨rfl, rfl, fun a v hv hk h1 h2 => run_neq_cs8 (keyL r) zero32 true rfl Try.underlying22 Try.underlying5 (by kernel_rfl) (by kernel_rfl) (by kernel_rfl) (keyL_len _) rfl (by rw [hz]; rfl) h1 h2⟩
    ⟨rfl, rfl, fun a v hv hk h => by simp [execOp, Act.eval, h]⟩
    ⟨of_decide_eq_true (by kernel_rfl), of_decide_eq_true (by kernel_rfl)⟩ (of_decide_eq_true (by kernel_rfl)) ⟨rfl, rfl⟩ (of_decide_eq_true (by kernel_rfl))
    (fun a K hk hv hK => wp_store_blk (t := 4) (s := 10) rfl ((hk 4 (by decide) (by decide) (by decide) (by decide) (by decide)).trans rfl) hv (Q0.get 1 rfl) (by kernel_rfl) rfl (cs8_size (keyL_len _)) (cs8_one _) hX1 hK)
    ?_
  have HQ : Hid _ := Q1
  clear Q0 Q1 QG hX0 hX1
  simp only [Act.put, List.setIfInBounds_toArray, List.set_cons_succ, List.set_cons_zero]
  go_wp2_with fail
  exact bodyPost_ret (v := .tuple #[.agg (cs8 (keyL r)), .bool true]) (results_pair (b := w.heap.size + 1 + 1) Try.results8 rfl ((HQ.out).get 1 rfl) Try.underlying22 rfl (by kernel_rfl) (cs8_size (keyL_len _)) rfl) rfl ⟨rfl, (HQ.out).below⟩

end Go.Proofs.Ytfciodbgjljjhaa
