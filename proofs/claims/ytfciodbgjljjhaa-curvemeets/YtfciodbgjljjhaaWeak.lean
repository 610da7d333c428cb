/- CurveWeak: the walk. -/
import Derived.Test.YtfciodbgjljjhaaWakes
namespace Go.Proofs.Ytfciodbgjljjhaa
open Go.RowKit

/-- The points 1 and -1, and noughts that are filled up. -/
def one32 : List Nat := [1, 0, 0, 0, 0, 0, 0, 0, 0, 0, 0, 0, 0, 0, 0, 0, 0, 0, 0, 0, 0, 0, 0, 0, 0, 0, 0, 0, 0, 0, 0, 0]
def minus32 : List Nat := [236, 255, 255, 255, 255, 255, 255, 255, 255, 255, 255, 255, 255, 255, 255, 255, 255, 255, 255, 255, 255, 255, 255, 255, 255, 255, 255, 255, 255, 255, 255, 127]
def fillTo (k : Nat) : List Nat := List.replicate k 255 ++ List.replicate (32 - k) 0
theorem fillTo_len (k : Nat) (h : k ≤ 32) : (fillTo k).length = 32 := by simp [fillTo]; omega
theorem fillTo_step : ∀ k : Fin 32, (fillTo k.val).set k.val 255 = fillTo (k.val + 1) := by decide +kernel
theorem fillTo_set (k : Nat) (h : k < 32) : (cs8 (fillTo k)).setIfInBounds k (.int .u8 255) = cs8 (fillTo (k + 1)) := by
  rw [← fillTo_step ⟨k, h⟩]
  simp [cs8, List.map_set]
theorem one_cells : (cs8 zero32).setIfInBounds 0 (.int .u8 1) = cs8 one32 := rfl
theorem minus_cells : ((cs8 (fillTo 32)).setIfInBounds 0 (.int .u8 236)).setIfInBounds 31 (.int .u8 127) = cs8 minus32 := rfl
theorem one32_bytes : Bytes one32 := by
  refine ⟨rfl, fun i => ?_⟩
  rcases Nat.lt_or_ge i 32 with h | h
  · revert i; decide
  · simp [one32, h]
theorem minus32_bytes : Bytes minus32 := by
  refine ⟨rfl, fun i => ?_⟩
  rcases Nat.lt_or_ge i 32 with h | h
  · revert i; decide
  · simp [minus32, h]
theorem zkey : (keyL 0 == zero32) = true := by rw [keyL_zero]; rfl

theorem rem3 (wh : Nat) (h : wh < 256) : (wh : Int).tmod 3 = (wh : Int) % 3 := Int.tmod_eq_emod_of_nonneg (by omega)

set_option maxRecDepth 100000 in
set_option maxHeartbeats 8000000 in
theorem weak_raw (ks : List Nat) (bk : Bytes ks) (wh : Nat) (hw : wh < 256) (e_zero32 : curveN ks zero32 = 0) (e_one32 : curveN ks one32 = 0) (e_minus32 : curveN ks minus32 = 0) (w : World) :
    Calls Try.prog 7 #[.agg (cs8 ks), .int .u8 (wh : Nat)] w fun e w' => e = .returned (.bool true) ∧ Below w.heap.size w w' := by
  go_enter Try.func7, Try.ntmps7
  go_upto_region 1 with fail
  generalize hW : World.alloc w _ = W
  have HM : Hid (Mem w.heap.size w W [(w.heap.size, .cells (cs8 ks) 23)]) := (by rw [← hW]; exact (Mem.start w).allocAt _ rfl : Mem w.heap.size w W [(w.heap.size, .cells (cs8 ks) 23)])
  clear hW
  refine wp_region_list ?_
  refine wpList_ok (base := 0) (v := .agg (cs8 zero32)) (ok_value rfl (by rw [zero32_key]; simp [execOp, go_sem])) fun u1 hb => ?_
  have HM2 : Hid (Mem w.heap.size w u1 [(w.heap.size, .cells (cs8 ks) 23)]) := (HM.out).keep hb
  clear hb HM
  simp only [Act.put, List.setIfInBounds_toArray, List.set_cons_succ, List.set_cons_zero]
  refine wpList_alloc (o := .cells #[.int .u8 0, .int .u8 0, .int .u8 0, .int .u8 0, .int .u8 0, .int .u8 0, .int .u8 0, .int .u8 0, .int .u8 0, .int .u8 0, .int .u8 0, .int .u8 0, .int .u8 0, .int .u8 0, .int .u8 0, .int .u8 0, .int .u8 0, .int .u8 0, .int .u8 0, .int .u8 0, .int .u8 0, .int .u8 0, .int .u8 0, .int .u8 0, .int .u8 0, .int .u8 0, .int .u8 0, .int .u8 0, .int .u8 0, .int .u8 0, .int .u8 0, .int .u8 0] 23) (v := .pointer (some ⟨u1.heap.size, 0, none⟩)) rfl (by simp [execOp, go_sem]) ?_
  simp only [Act.put, List.setIfInBounds_toArray, List.set_cons_succ, List.set_cons_zero]
  have HM5 : Hid (Mem w.heap.size w _ [(u1.heap.size, .cells #[.int .u8 0, .int .u8 0, .int .u8 0, .int .u8 0, .int .u8 0, .int .u8 0, .int .u8 0, .int .u8 0, .int .u8 0, .int .u8 0, .int .u8 0, .int .u8 0, .int .u8 0, .int .u8 0, .int .u8 0, .int .u8 0, .int .u8 0, .int .u8 0, .int .u8 0, .int .u8 0, .int .u8 0, .int .u8 0, .int .u8 0, .int .u8 0, .int .u8 0, .int .u8 0, .int .u8 0, .int .u8 0, .int .u8 0, .int .u8 0, .int .u8 0, .int .u8 0] 23), (w.heap.size, .cells (cs8 ks) 23)]) := (HM2.out).alloc (.cells #[.int .u8 0, .int .u8 0, .int .u8 0, .int .u8 0, .int .u8 0, .int .u8 0, .int .u8 0, .int .u8 0, .int .u8 0, .int .u8 0, .int .u8 0, .int .u8 0, .int .u8 0, .int .u8 0, .int .u8 0, .int .u8 0, .int .u8 0, .int .u8 0, .int .u8 0, .int .u8 0, .int .u8 0, .int .u8 0, .int .u8 0, .int .u8 0, .int .u8 0, .int .u8 0, .int .u8 0, .int .u8 0, .int .u8 0, .int .u8 0, .int .u8 0, .int .u8 0] 23)
  clear HM2
  generalize u1.alloc (.cells #[.int .u8 0, .int .u8 0, .int .u8 0, .int .u8 0, .int .u8 0, .int .u8 0, .int .u8 0, .int .u8 0, .int .u8 0, .int .u8 0, .int .u8 0, .int .u8 0, .int .u8 0, .int .u8 0, .int .u8 0, .int .u8 0, .int .u8 0, .int .u8 0, .int .u8 0, .int .u8 0, .int .u8 0, .int .u8 0, .int .u8 0, .int .u8 0, .int .u8 0, .int .u8 0, .int .u8 0, .int .u8 0, .int .u8 0, .int .u8 0, .int .u8 0, .int .u8 0] 23) = V3 at *
  generalize u1.heap.size = g6 at *
  refine wpList_store_blk (b := g6) rfl rfl rfl rfl ((HM5.out).get 0 rfl) (by kernel_rfl) (rfl) ((cs8_size rfl)) (cs8_one _) ?_
  simp only [Act.put]
  generalize hV8 : World.setCells V3 (g6) 0 _ = V7
  have HM9 : Hid (Mem w.heap.size w V7 [(g6, .cells (cs8 zero32) 23), (w.heap.size, .cells (cs8 ks) 23)]) := (by rw [← hV8]; exact (HM5.out).store 0 (cs8 zero32) rfl ((rfl).trans ((cs8_size rfl)).symm) : Mem w.heap.size w V7 [(g6, .cells (cs8 zero32) 23), (w.heap.size, .cells (cs8 ks) 23)])
  clear hV8 HM5
  go_upto_region 2 with fail
  refine wp_region_list ?_
  refine wpList_value (v := .int .u8 (wh : Nat)) rfl (by simp [execOp, Act.eval]) ?_
  simp only [Act.put, List.setIfInBounds_toArray, List.set_cons_succ, List.set_cons_zero]
  refine wpList_value (v := .int .u8 (wh % 3 : Nat)) rfl (by simp [execOp, Act.eval, go_sem]; exact rem3 wh hw) ?_
  simp only [Act.put, List.setIfInBounds_toArray, List.set_cons_succ, List.set_cons_zero]
  have h3 : wh % 3 = 0 ∨ wh % 3 = 1 ∨ wh % 3 = 2 := by omega
  generalize wh % 3 = c at *
  rcases h3 with rfl | rfl | rfl
  · skip
    go_upto_region 11 with fail
    refine wp_region_list ?_
    refine wpList_ok (base := 0) (v := .agg (cs8 ks)) (ok_load rfl rfl rfl ((HM9.out).get 1 rfl) Try.underlying23 rfl (by kernel_rfl) ((cs8_size bk.1))) fun u10 hb => ?_
    have HM11 : Hid (Mem w.heap.size w u10 [(g6, .cells (cs8 zero32) 23), (w.heap.size, .cells (cs8 ks) 23)]) := (HM9.out).keep hb
    clear hb HM9
    simp only [Act.put, List.setIfInBounds_toArray, List.set_cons_succ, List.set_cons_zero]
    refine wpList_ok (base := 0) (v := .agg (cs8 zero32)) (ok_load rfl rfl rfl ((HM11.out).get 0 rfl) Try.underlying23 rfl (by kernel_rfl) ((cs8_size rfl))) fun u12 hb => ?_
    have HM13 : Hid (Mem w.heap.size w u12 [(g6, .cells (cs8 zero32) 23), (w.heap.size, .cells (cs8 ks) 23)]) := (HM11.out).keep hb
    clear hb HM11
    simp only [Act.put, List.setIfInBounds_toArray, List.set_cons_succ, List.set_cons_zero]
    refine wpList_ok (base := 0) (v := .tuple #[.agg (cs8 (keyL 0)), .int .i64 2]) (ok_call rfl (by simp [Act.eval, go_sem]) (shared_weak ks zero32 bk zero32_bytes 0 e_zero32 zkey _)) fun u14 hb => ?_
    have HM15 : Hid (Mem w.heap.size w u14 [(g6, .cells (cs8 zero32) 23), (w.heap.size, .cells (cs8 ks) 23)]) := (HM13.out).keep hb
    clear hb HM13
    simp only [Act.put, List.setIfInBounds_toArray, List.set_cons_succ, List.set_cons_zero]
    refine wpList_ok (base := 0) (v := .tuple #[.agg (cs8 (keyL 0)), .int .i64 2]) (ok_value rfl (by simp [execOp, Act.eval])) fun u16 hb => ?_
    have HM17 : Hid (Mem w.heap.size w u16 [(g6, .cells (cs8 zero32) 23), (w.heap.size, .cells (cs8 ks) 23)]) := (HM15.out).keep hb
    clear hb HM15
    simp only [Act.put, List.setIfInBounds_toArray, List.set_cons_succ, List.set_cons_zero]
    refine wpList_ok (base := 0) (v := .agg (cs8 (keyL 0))) (ok_value rfl (by simp [execOp, Act.eval, go_sem])) fun u18 hb => ?_
    have HM19 : Hid (Mem w.heap.size w u18 [(g6, .cells (cs8 zero32) 23), (w.heap.size, .cells (cs8 ks) 23)]) := (HM17.out).keep hb
    clear hb HM17
    simp only [Act.put, List.setIfInBounds_toArray, List.set_cons_succ, List.set_cons_zero]
    refine wpList_ok (base := 0) (v := .int .i64 2) (ok_value rfl (by simp [execOp, Act.eval, go_sem])) fun u20 hb => ?_
    have HM21 : Hid (Mem w.heap.size w u20 [(g6, .cells (cs8 zero32) 23), (w.heap.size, .cells (cs8 ks) 23)]) := (HM19.out).keep hb
    clear hb HM19
    simp only [Act.put, List.setIfInBounds_toArray, List.set_cons_succ, List.set_cons_zero]
    refine wpList_alloc (o := .cells #[.int .u8 0, .int .u8 0, .int .u8 0, .int .u8 0, .int .u8 0, .int .u8 0, .int .u8 0, .int .u8 0, .int .u8 0, .int .u8 0, .int .u8 0, .int .u8 0, .int .u8 0, .int .u8 0, .int .u8 0, .int .u8 0, .int .u8 0, .int .u8 0, .int .u8 0, .int .u8 0, .int .u8 0, .int .u8 0, .int .u8 0, .int .u8 0, .int .u8 0, .int .u8 0, .int .u8 0, .int .u8 0, .int .u8 0, .int .u8 0, .int .u8 0, .int .u8 0] 23) (v := .pointer (some ⟨u20.heap.size, 0, none⟩)) rfl (by simp [execOp, go_sem]) ?_
    simp only [Act.put, List.setIfInBounds_toArray, List.set_cons_succ, List.set_cons_zero]
    have HM24 : Hid (Mem w.heap.size w _ [(u20.heap.size, .cells #[.int .u8 0, .int .u8 0, .int .u8 0, .int .u8 0, .int .u8 0, .int .u8 0, .int .u8 0, .int .u8 0, .int .u8 0, .int .u8 0, .int .u8 0, .int .u8 0, .int .u8 0, .int .u8 0, .int .u8 0, .int .u8 0, .int .u8 0, .int .u8 0, .int .u8 0, .int .u8 0, .int .u8 0, .int .u8 0, .int .u8 0, .int .u8 0, .int .u8 0, .int .u8 0, .int .u8 0, .int .u8 0, .int .u8 0, .int .u8 0, .int .u8 0, .int .u8 0] 23), (g6, .cells (cs8 zero32) 23), (w.heap.size, .cells (cs8 ks) 23)]) := (HM21.out).alloc (.cells #[.int .u8 0, .int .u8 0, .int .u8 0, .int .u8 0, .int .u8 0, .int .u8 0, .int .u8 0, .int .u8 0, .int .u8 0, .int .u8 0, .int .u8 0, .int .u8 0, .int .u8 0, .int .u8 0, .int .u8 0, .int .u8 0, .int .u8 0, .int .u8 0, .int .u8 0, .int .u8 0, .int .u8 0, .int .u8 0, .int .u8 0, .int .u8 0, .int .u8 0, .int .u8 0, .int .u8 0, .int .u8 0, .int .u8 0, .int .u8 0, .int .u8 0, .int .u8 0] 23)
    clear HM21
    generalize u20.alloc (.cells #[.int .u8 0, .int .u8 0, .int .u8 0, .int .u8 0, .int .u8 0, .int .u8 0, .int .u8 0, .int .u8 0, .int .u8 0, .int .u8 0, .int .u8 0, .int .u8 0, .int .u8 0, .int .u8 0, .int .u8 0, .int .u8 0, .int .u8 0, .int .u8 0, .int .u8 0, .int .u8 0, .int .u8 0, .int .u8 0, .int .u8 0, .int .u8 0, .int .u8 0, .int .u8 0, .int .u8 0, .int .u8 0, .int .u8 0, .int .u8 0, .int .u8 0, .int .u8 0] 23) = V22 at *
    generalize u20.heap.size = g25 at *
    refine wpList_store_blk (b := g25) rfl rfl rfl rfl ((HM24.out).get 0 rfl) (by kernel_rfl) (rfl) ((cs8_size (keyL_len _))) (cs8_one _) ?_
    simp only [Act.put]
    generalize hV27 : World.setCells V22 (g25) 0 _ = V26
    have HM28 : Hid (Mem w.heap.size w V26 [(g25, .cells (cs8 (keyL 0)) 23), (g6, .cells (cs8 zero32) 23), (w.heap.size, .cells (cs8 ks) 23)]) := (by rw [← hV27]; exact (HM24.out).store 0 (cs8 (keyL 0)) rfl ((rfl).trans ((cs8_size (keyL_len _))).symm) : Mem w.heap.size w V26 [(g25, .cells (cs8 (keyL 0)) 23), (g6, .cells (cs8 zero32) 23), (w.heap.size, .cells (cs8 ks) 23)])
    clear hV27 HM24
    refine wpList_ok (base := 0) (v := .int .i64 2) (ok_value rfl (by simp [execOp, Act.eval])) fun u29 hb => ?_
    have HM30 : Hid (Mem w.heap.size w u29 [(g25, .cells (cs8 (keyL 0)) 23), (g6, .cells (cs8 zero32) 23), (w.heap.size, .cells (cs8 ks) 23)]) := (HM28.out).keep hb
    clear hb HM28
    simp only [Act.put, List.setIfInBounds_toArray, List.set_cons_succ, List.set_cons_zero]
    go_upto_region 12 with fail
    refine wp_region_list ?_
    refine wpList_ok (base := 0) (v := .agg (cs8 ks)) (ok_load rfl rfl rfl ((HM30.out).get 2 rfl) Try.underlying23 rfl (by kernel_rfl) ((cs8_size bk.1))) fun u31 hb => ?_
    have HM32 : Hid (Mem w.heap.size w u31 [(g25, .cells (cs8 (keyL 0)) 23), (g6, .cells (cs8 zero32) 23), (w.heap.size, .cells (cs8 ks) 23)]) := (HM30.out).keep hb
    clear hb HM30
    simp only [Act.put, List.setIfInBounds_toArray, List.set_cons_succ, List.set_cons_zero]
    refine wpList_ok (base := 0) (v := .agg (cs8 zero32)) (ok_load rfl rfl rfl ((HM32.out).get 1 rfl) Try.underlying23 rfl (by kernel_rfl) ((cs8_size rfl))) fun u33 hb => ?_
    have HM34 : Hid (Mem w.heap.size w u33 [(g25, .cells (cs8 (keyL 0)) 23), (g6, .cells (cs8 zero32) 23), (w.heap.size, .cells (cs8 ks) 23)]) := (HM32.out).keep hb
    clear hb HM32
    simp only [Act.put, List.setIfInBounds_toArray, List.set_cons_succ, List.set_cons_zero]
    refine wpList_ok (base := 0) (v := .agg (cs8 (keyL 0))) (ok_call rfl (by simp [Act.eval, go_sem]) (e_zero32 ▸ cmul_any ks zero32 bk zero32_bytes _)) fun u35 hb => ?_
    have HM36 : Hid (Mem w.heap.size w u35 [(g25, .cells (cs8 (keyL 0)) 23), (g6, .cells (cs8 zero32) 23), (w.heap.size, .cells (cs8 ks) 23)]) := (HM34.out).keep hb
    clear hb HM34
    simp only [Act.put, List.setIfInBounds_toArray, List.set_cons_succ, List.set_cons_zero]
    refine wpList_ok (base := 0) (v := .agg (cs8 zero32)) (ok_value rfl (by rw [zero32_key]; simp [execOp, go_sem])) fun u37 hb => ?_
    have HM38 : Hid (Mem w.heap.size w u37 [(g25, .cells (cs8 (keyL 0)) 23), (g6, .cells (cs8 zero32) 23), (w.heap.size, .cells (cs8 ks) 23)]) := (HM36.out).keep hb
    clear hb HM36
    simp only [Act.put, List.setIfInBounds_toArray, List.set_cons_succ, List.set_cons_zero]
    refine wpList_ok (base := 0) (v := .bool true) (ok_eql_cs8 (keyL 0) zero32 true rfl rfl rfl (keyL_len _) rfl (zkey) rfl rfl) fun u39 hb => ?_
    have HM40 : Hid (Mem w.heap.size w u39 [(g25, .cells (cs8 (keyL 0)) 23), (g6, .cells (cs8 zero32) 23), (w.heap.size, .cells (cs8 ks) 23)]) := (HM38.out).keep hb
    clear hb HM38
    simp only [Act.put, List.setIfInBounds_toArray, List.set_cons_succ, List.set_cons_zero]
    refine wpList_ok (base := 0) (v := .bool true) (ok_value rfl (by simp [execOp, Act.eval])) fun u41 hb => ?_
    have HM42 : Hid (Mem w.heap.size w u41 [(g25, .cells (cs8 (keyL 0)) 23), (g6, .cells (cs8 zero32) 23), (w.heap.size, .cells (cs8 ks) 23)]) := (HM40.out).keep hb
    clear hb HM40
    simp only [Act.put, List.setIfInBounds_toArray, List.set_cons_succ, List.set_cons_zero]
    refine wpList_ok (base := 0) (v := .agg (cs8 (keyL 0))) (ok_load (wanted_of rfl rfl rfl) rfl rfl ((HM42.out).get 0 rfl) Try.underlying23 rfl (by kernel_rfl) ((cs8_size (keyL_len _)))) fun u43 hb => ?_
    have HM44 : Hid (Mem w.heap.size w u43 [(g25, .cells (cs8 (keyL 0)) 23), (g6, .cells (cs8 zero32) 23), (w.heap.size, .cells (cs8 ks) 23)]) := (HM42.out).keep hb
    clear hb HM42
    simp only [Act.put, List.setIfInBounds_toArray, List.set_cons_succ, List.set_cons_zero]
    refine wpList_ok (base := 0) (v := .agg (cs8 zero32)) (ok_value (wanted_of rfl rfl rfl) (by rw [zero32_key]; simp [execOp, go_sem])) fun u45 hb => ?_
    have HM46 : Hid (Mem w.heap.size w u45 [(g25, .cells (cs8 (keyL 0)) 23), (g6, .cells (cs8 zero32) 23), (w.heap.size, .cells (cs8 ks) 23)]) := (HM44.out).keep hb
    clear hb HM44
    simp only [Act.put, List.setIfInBounds_toArray, List.set_cons_succ, List.set_cons_zero]
    refine wpList_ok (base := 0) (v := .bool true) (ok_eql_cs8 (keyL 0) zero32 true (wanted_of rfl rfl rfl) rfl rfl (keyL_len _) rfl (zkey) rfl rfl) fun u47 hb => ?_
    have HM48 : Hid (Mem w.heap.size w u47 [(g25, .cells (cs8 (keyL 0)) 23), (g6, .cells (cs8 zero32) 23), (w.heap.size, .cells (cs8 ks) 23)]) := (HM46.out).keep hb
    clear hb HM46
    simp only [Act.put, List.setIfInBounds_toArray, List.set_cons_succ, List.set_cons_zero]
    refine wpList_ok (base := 0) (v := .bool true) (ok_value rfl (by simp [execOp, Act.eval, go_sem])) fun u49 hb => ?_
    have HM50 : Hid (Mem w.heap.size w u49 [(g25, .cells (cs8 (keyL 0)) 23), (g6, .cells (cs8 zero32) 23), (w.heap.size, .cells (cs8 ks) 23)]) := (HM48.out).keep hb
    clear hb HM48
    simp only [Act.put, List.setIfInBounds_toArray, List.set_cons_succ, List.set_cons_zero]
    refine wpList_ok (base := 0) (v := .bool true) (ok_value rfl (by simp [execOp, Act.eval])) fun u51 hb => ?_
    have HM52 : Hid (Mem w.heap.size w u51 [(g25, .cells (cs8 (keyL 0)) 23), (g6, .cells (cs8 zero32) 23), (w.heap.size, .cells (cs8 ks) 23)]) := (HM50.out).keep hb
    clear hb HM50
    simp only [Act.put, List.setIfInBounds_toArray, List.set_cons_succ, List.set_cons_zero]
    refine wpList_ok (base := 0) (v := .int .i64 2) (ok_value (wanted_of rfl rfl rfl) (by simp [execOp, Act.eval])) fun u53 hb => ?_
    have HM54 : Hid (Mem w.heap.size w u53 [(g25, .cells (cs8 (keyL 0)) 23), (g6, .cells (cs8 zero32) 23), (w.heap.size, .cells (cs8 ks) 23)]) := (HM52.out).keep hb
    clear hb HM52
    simp only [Act.put, List.setIfInBounds_toArray, List.set_cons_succ, List.set_cons_zero]
    refine wpList_ok (base := 0) (v := .bool true) (ok_value (wanted_of rfl rfl rfl) (by simp [execOp, Act.eval, go_sem])) fun u55 hb => ?_
    have HM56 : Hid (Mem w.heap.size w u55 [(g25, .cells (cs8 (keyL 0)) 23), (g6, .cells (cs8 zero32) 23), (w.heap.size, .cells (cs8 ks) 23)]) := (HM54.out).keep hb
    clear hb HM54
    simp only [Act.put, List.setIfInBounds_toArray, List.set_cons_succ, List.set_cons_zero]
    refine wpList_ok (base := 0) (v := .bool true) (ok_value rfl (by simp [execOp, Act.eval, go_sem])) fun u57 hb => ?_
    have HM58 : Hid (Mem w.heap.size w u57 [(g25, .cells (cs8 (keyL 0)) 23), (g6, .cells (cs8 zero32) 23), (w.heap.size, .cells (cs8 ks) 23)]) := (HM56.out).keep hb
    clear hb HM56
    simp only [Act.put, List.setIfInBounds_toArray, List.set_cons_succ, List.set_cons_zero]
    refine wpList_ok (base := 0) (v := .bool true) (ok_value rfl (by simp [execOp, Act.eval])) fun u59 hb => ?_
    have HM60 : Hid (Mem w.heap.size w u59 [(g25, .cells (cs8 (keyL 0)) 23), (g6, .cells (cs8 zero32) 23), (w.heap.size, .cells (cs8 ks) 23)]) := (HM58.out).keep hb
    clear hb HM58
    simp only [Act.put, List.setIfInBounds_toArray, List.set_cons_succ, List.set_cons_zero]
    refine wpList_ok (base := 0) (v := .bool true) (ok_call (wanted_of rfl rfl rfl) (by simp [go_sem]) (wakes_any _)) fun u61 hb => ?_
    have HM62 : Hid (Mem w.heap.size w u61 [(g25, .cells (cs8 (keyL 0)) 23), (g6, .cells (cs8 zero32) 23), (w.heap.size, .cells (cs8 ks) 23)]) := (HM60.out).keep hb
    clear hb HM60
    simp only [Act.put, List.setIfInBounds_toArray, List.set_cons_succ, List.set_cons_zero]
    refine wpList_ok (base := 0) (v := .bool true) (ok_value rfl (by simp [execOp, Act.eval, go_sem])) fun u63 hb => ?_
    have HM64 : Hid (Mem w.heap.size w u63 [(g25, .cells (cs8 (keyL 0)) 23), (g6, .cells (cs8 zero32) 23), (w.heap.size, .cells (cs8 ks) 23)]) := (HM62.out).keep hb
    clear hb HM62
    simp only [Act.put, List.setIfInBounds_toArray, List.set_cons_succ, List.set_cons_zero]
    refine wpList_ok (base := 0) (v := .bool true) (ok_value rfl (by simp [execOp, Act.eval])) fun u65 hb => ?_
    have HM66 : Hid (Mem w.heap.size w u65 [(g25, .cells (cs8 (keyL 0)) 23), (g6, .cells (cs8 zero32) 23), (w.heap.size, .cells (cs8 ks) 23)]) := (HM64.out).keep hb
    clear hb HM64
    simp only [Act.put, List.setIfInBounds_toArray, List.set_cons_succ, List.set_cons_zero]
    go_wp2_with fail
    go_ret
    exact ⟨rfl, (HM66.out).below⟩
  · skip
    go_upto_region 4 with fail
    have q0 := cell_of ((HM9.out).get 0 rfl) 0
    rw [show (cs8 zero32)[0]? = some (.int .u8 0) from rfl] at q0
    have f0 := frozen_of ((HM9.out).get 0 rfl) 0
    go_upto_region 11 with fail
    generalize hV : World.setCell V7 _ _ = V
    have HV : Hid (Mem w.heap.size w V [(g6, .cells (cs8 one32) 23), (w.heap.size, .cells (cs8 ks) 23)]) := (by rw [← hV, ← one_cells]; exact (HM9.out).put 0 0 _ rfl : Mem w.heap.size w V [(g6, .cells (cs8 one32) 23), (w.heap.size, .cells (cs8 ks) 23)])
    clear hV q0 f0 HM9
    refine wp_region_list ?_
    refine wpList_ok (base := 0) (v := .agg (cs8 ks)) (ok_load rfl rfl rfl ((HV.out).get 1 rfl) Try.underlying23 rfl (by kernel_rfl) ((cs8_size bk.1))) fun u67 hb => ?_
    have HM68 : Hid (Mem w.heap.size w u67 [(g6, .cells (cs8 one32) 23), (w.heap.size, .cells (cs8 ks) 23)]) := (HV.out).keep hb
    clear hb HV
    simp only [Act.put, List.setIfInBounds_toArray, List.set_cons_succ, List.set_cons_zero]
    refine wpList_ok (base := 0) (v := .agg (cs8 one32)) (ok_load rfl rfl rfl ((HM68.out).get 0 rfl) Try.underlying23 rfl (by kernel_rfl) ((cs8_size rfl))) fun u69 hb => ?_
    have HM70 : Hid (Mem w.heap.size w u69 [(g6, .cells (cs8 one32) 23), (w.heap.size, .cells (cs8 ks) 23)]) := (HM68.out).keep hb
    clear hb HM68
    simp only [Act.put, List.setIfInBounds_toArray, List.set_cons_succ, List.set_cons_zero]
    refine wpList_ok (base := 0) (v := .tuple #[.agg (cs8 (keyL 0)), .int .i64 2]) (ok_call rfl (by simp [Act.eval, go_sem]) (shared_weak ks one32 bk one32_bytes 0 e_one32 zkey _)) fun u71 hb => ?_
    have HM72 : Hid (Mem w.heap.size w u71 [(g6, .cells (cs8 one32) 23), (w.heap.size, .cells (cs8 ks) 23)]) := (HM70.out).keep hb
    clear hb HM70
    simp only [Act.put, List.setIfInBounds_toArray, List.set_cons_succ, List.set_cons_zero]
    refine wpList_ok (base := 0) (v := .tuple #[.agg (cs8 (keyL 0)), .int .i64 2]) (ok_value rfl (by simp [execOp, Act.eval])) fun u73 hb => ?_
    have HM74 : Hid (Mem w.heap.size w u73 [(g6, .cells (cs8 one32) 23), (w.heap.size, .cells (cs8 ks) 23)]) := (HM72.out).keep hb
    clear hb HM72
    simp only [Act.put, List.setIfInBounds_toArray, List.set_cons_succ, List.set_cons_zero]
    refine wpList_ok (base := 0) (v := .agg (cs8 (keyL 0))) (ok_value rfl (by simp [execOp, Act.eval, go_sem])) fun u75 hb => ?_
    have HM76 : Hid (Mem w.heap.size w u75 [(g6, .cells (cs8 one32) 23), (w.heap.size, .cells (cs8 ks) 23)]) := (HM74.out).keep hb
    clear hb HM74
    simp only [Act.put, List.setIfInBounds_toArray, List.set_cons_succ, List.set_cons_zero]
    refine wpList_ok (base := 0) (v := .int .i64 2) (ok_value rfl (by simp [execOp, Act.eval, go_sem])) fun u77 hb => ?_
    have HM78 : Hid (Mem w.heap.size w u77 [(g6, .cells (cs8 one32) 23), (w.heap.size, .cells (cs8 ks) 23)]) := (HM76.out).keep hb
    clear hb HM76
    simp only [Act.put, List.setIfInBounds_toArray, List.set_cons_succ, List.set_cons_zero]
    refine wpList_alloc (o := .cells #[.int .u8 0, .int .u8 0, .int .u8 0, .int .u8 0, .int .u8 0, .int .u8 0, .int .u8 0, .int .u8 0, .int .u8 0, .int .u8 0, .int .u8 0, .int .u8 0, .int .u8 0, .int .u8 0, .int .u8 0, .int .u8 0, .int .u8 0, .int .u8 0, .int .u8 0, .int .u8 0, .int .u8 0, .int .u8 0, .int .u8 0, .int .u8 0, .int .u8 0, .int .u8 0, .int .u8 0, .int .u8 0, .int .u8 0, .int .u8 0, .int .u8 0, .int .u8 0] 23) (v := .pointer (some ⟨u77.heap.size, 0, none⟩)) rfl (by simp [execOp, go_sem]) ?_
    simp only [Act.put, List.setIfInBounds_toArray, List.set_cons_succ, List.set_cons_zero]
    have HM81 : Hid (Mem w.heap.size w _ [(u77.heap.size, .cells #[.int .u8 0, .int .u8 0, .int .u8 0, .int .u8 0, .int .u8 0, .int .u8 0, .int .u8 0, .int .u8 0, .int .u8 0, .int .u8 0, .int .u8 0, .int .u8 0, .int .u8 0, .int .u8 0, .int .u8 0, .int .u8 0, .int .u8 0, .int .u8 0, .int .u8 0, .int .u8 0, .int .u8 0, .int .u8 0, .int .u8 0, .int .u8 0, .int .u8 0, .int .u8 0, .int .u8 0, .int .u8 0, .int .u8 0, .int .u8 0, .int .u8 0, .int .u8 0] 23), (g6, .cells (cs8 one32) 23), (w.heap.size, .cells (cs8 ks) 23)]) := (HM78.out).alloc (.cells #[.int .u8 0, .int .u8 0, .int .u8 0, .int .u8 0, .int .u8 0, .int .u8 0, .int .u8 0, .int .u8 0, .int .u8 0, .int .u8 0, .int .u8 0, .int .u8 0, .int .u8 0, .int .u8 0, .int .u8 0, .int .u8 0, .int .u8 0, .int .u8 0, .int .u8 0, .int .u8 0, .int .u8 0, .int .u8 0, .int .u8 0, .int .u8 0, .int .u8 0, .int .u8 0, .int .u8 0, .int .u8 0, .int .u8 0, .int .u8 0, .int .u8 0, .int .u8 0] 23)
    clear HM78
    generalize u77.alloc (.cells #[.int .u8 0, .int .u8 0, .int .u8 0, .int .u8 0, .int .u8 0, .int .u8 0, .int .u8 0, .int .u8 0, .int .u8 0, .int .u8 0, .int .u8 0, .int .u8 0, .int .u8 0, .int .u8 0, .int .u8 0, .int .u8 0, .int .u8 0, .int .u8 0, .int .u8 0, .int .u8 0, .int .u8 0, .int .u8 0, .int .u8 0, .int .u8 0, .int .u8 0, .int .u8 0, .int .u8 0, .int .u8 0, .int .u8 0, .int .u8 0, .int .u8 0, .int .u8 0] 23) = V79 at *
    generalize u77.heap.size = g82 at *
    refine wpList_store_blk (b := g82) rfl rfl rfl rfl ((HM81.out).get 0 rfl) (by kernel_rfl) (rfl) ((cs8_size (keyL_len _))) (cs8_one _) ?_
    simp only [Act.put]
    generalize hV84 : World.setCells V79 (g82) 0 _ = V83
    have HM85 : Hid (Mem w.heap.size w V83 [(g82, .cells (cs8 (keyL 0)) 23), (g6, .cells (cs8 one32) 23), (w.heap.size, .cells (cs8 ks) 23)]) := (by rw [← hV84]; exact (HM81.out).store 0 (cs8 (keyL 0)) rfl ((rfl).trans ((cs8_size (keyL_len _))).symm) : Mem w.heap.size w V83 [(g82, .cells (cs8 (keyL 0)) 23), (g6, .cells (cs8 one32) 23), (w.heap.size, .cells (cs8 ks) 23)])
    clear hV84 HM81
    refine wpList_ok (base := 0) (v := .int .i64 2) (ok_value rfl (by simp [execOp, Act.eval])) fun u86 hb => ?_
    have HM87 : Hid (Mem w.heap.size w u86 [(g82, .cells (cs8 (keyL 0)) 23), (g6, .cells (cs8 one32) 23), (w.heap.size, .cells (cs8 ks) 23)]) := (HM85.out).keep hb
    clear hb HM85
    simp only [Act.put, List.setIfInBounds_toArray, List.set_cons_succ, List.set_cons_zero]
    go_upto_region 12 with fail
    refine wp_region_list ?_
    refine wpList_ok (base := 0) (v := .agg (cs8 ks)) (ok_load rfl rfl rfl ((HM87.out).get 2 rfl) Try.underlying23 rfl (by kernel_rfl) ((cs8_size bk.1))) fun u88 hb => ?_
    have HM89 : Hid (Mem w.heap.size w u88 [(g82, .cells (cs8 (keyL 0)) 23), (g6, .cells (cs8 one32) 23), (w.heap.size, .cells (cs8 ks) 23)]) := (HM87.out).keep hb
    clear hb HM87
    simp only [Act.put, List.setIfInBounds_toArray, List.set_cons_succ, List.set_cons_zero]
    refine wpList_ok (base := 0) (v := .agg (cs8 one32)) (ok_load rfl rfl rfl ((HM89.out).get 1 rfl) Try.underlying23 rfl (by kernel_rfl) ((cs8_size rfl))) fun u90 hb => ?_
    have HM91 : Hid (Mem w.heap.size w u90 [(g82, .cells (cs8 (keyL 0)) 23), (g6, .cells (cs8 one32) 23), (w.heap.size, .cells (cs8 ks) 23)]) := (HM89.out).keep hb
    clear hb HM89
    simp only [Act.put, List.setIfInBounds_toArray, List.set_cons_succ, List.set_cons_zero]
    refine wpList_ok (base := 0) (v := .agg (cs8 (keyL 0))) (ok_call rfl (by simp [Act.eval, go_sem]) (e_one32 ▸ cmul_any ks one32 bk one32_bytes _)) fun u92 hb => ?_
    have HM93 : Hid (Mem w.heap.size w u92 [(g82, .cells (cs8 (keyL 0)) 23), (g6, .cells (cs8 one32) 23), (w.heap.size, .cells (cs8 ks) 23)]) := (HM91.out).keep hb
    clear hb HM91
    simp only [Act.put, List.setIfInBounds_toArray, List.set_cons_succ, List.set_cons_zero]
    refine wpList_ok (base := 0) (v := .agg (cs8 zero32)) (ok_value rfl (by rw [zero32_key]; simp [execOp, go_sem])) fun u94 hb => ?_
    have HM95 : Hid (Mem w.heap.size w u94 [(g82, .cells (cs8 (keyL 0)) 23), (g6, .cells (cs8 one32) 23), (w.heap.size, .cells (cs8 ks) 23)]) := (HM93.out).keep hb
    clear hb HM93
    simp only [Act.put, List.setIfInBounds_toArray, List.set_cons_succ, List.set_cons_zero]
    refine wpList_ok (base := 0) (v := .bool true) (ok_eql_cs8 (keyL 0) zero32 true rfl rfl rfl (keyL_len _) rfl (zkey) rfl rfl) fun u96 hb => ?_
    have HM97 : Hid (Mem w.heap.size w u96 [(g82, .cells (cs8 (keyL 0)) 23), (g6, .cells (cs8 one32) 23), (w.heap.size, .cells (cs8 ks) 23)]) := (HM95.out).keep hb
    clear hb HM95
    simp only [Act.put, List.setIfInBounds_toArray, List.set_cons_succ, List.set_cons_zero]
    refine wpList_ok (base := 0) (v := .bool true) (ok_value rfl (by simp [execOp, Act.eval])) fun u98 hb => ?_
    have HM99 : Hid (Mem w.heap.size w u98 [(g82, .cells (cs8 (keyL 0)) 23), (g6, .cells (cs8 one32) 23), (w.heap.size, .cells (cs8 ks) 23)]) := (HM97.out).keep hb
    clear hb HM97
    simp only [Act.put, List.setIfInBounds_toArray, List.set_cons_succ, List.set_cons_zero]
    refine wpList_ok (base := 0) (v := .agg (cs8 (keyL 0))) (ok_load (wanted_of rfl rfl rfl) rfl rfl ((HM99.out).get 0 rfl) Try.underlying23 rfl (by kernel_rfl) ((cs8_size (keyL_len _)))) fun u100 hb => ?_
    have HM101 : Hid (Mem w.heap.size w u100 [(g82, .cells (cs8 (keyL 0)) 23), (g6, .cells (cs8 one32) 23), (w.heap.size, .cells (cs8 ks) 23)]) := (HM99.out).keep hb
    clear hb HM99
    simp only [Act.put, List.setIfInBounds_toArray, List.set_cons_succ, List.set_cons_zero]
    refine wpList_ok (base := 0) (v := .agg (cs8 zero32)) (ok_value (wanted_of rfl rfl rfl) (by rw [zero32_key]; simp [execOp, go_sem])) fun u102 hb => ?_
    have HM103 : Hid (Mem w.heap.size w u102 [(g82, .cells (cs8 (keyL 0)) 23), (g6, .cells (cs8 one32) 23), (w.heap.size, .cells (cs8 ks) 23)]) := (HM101.out).keep hb
    clear hb HM101
    simp only [Act.put, List.setIfInBounds_toArray, List.set_cons_succ, List.set_cons_zero]
    refine wpList_ok (base := 0) (v := .bool true) (ok_eql_cs8 (keyL 0) zero32 true (wanted_of rfl rfl rfl) rfl rfl (keyL_len _) rfl (zkey) rfl rfl) fun u104 hb => ?_
    have HM105 : Hid (Mem w.heap.size w u104 [(g82, .cells (cs8 (keyL 0)) 23), (g6, .cells (cs8 one32) 23), (w.heap.size, .cells (cs8 ks) 23)]) := (HM103.out).keep hb
    clear hb HM103
    simp only [Act.put, List.setIfInBounds_toArray, List.set_cons_succ, List.set_cons_zero]
    refine wpList_ok (base := 0) (v := .bool true) (ok_value rfl (by simp [execOp, Act.eval, go_sem])) fun u106 hb => ?_
    have HM107 : Hid (Mem w.heap.size w u106 [(g82, .cells (cs8 (keyL 0)) 23), (g6, .cells (cs8 one32) 23), (w.heap.size, .cells (cs8 ks) 23)]) := (HM105.out).keep hb
    clear hb HM105
    simp only [Act.put, List.setIfInBounds_toArray, List.set_cons_succ, List.set_cons_zero]
    refine wpList_ok (base := 0) (v := .bool true) (ok_value rfl (by simp [execOp, Act.eval])) fun u108 hb => ?_
    have HM109 : Hid (Mem w.heap.size w u108 [(g82, .cells (cs8 (keyL 0)) 23), (g6, .cells (cs8 one32) 23), (w.heap.size, .cells (cs8 ks) 23)]) := (HM107.out).keep hb
    clear hb HM107
    simp only [Act.put, List.setIfInBounds_toArray, List.set_cons_succ, List.set_cons_zero]
    refine wpList_ok (base := 0) (v := .int .i64 2) (ok_value (wanted_of rfl rfl rfl) (by simp [execOp, Act.eval])) fun u110 hb => ?_
    have HM111 : Hid (Mem w.heap.size w u110 [(g82, .cells (cs8 (keyL 0)) 23), (g6, .cells (cs8 one32) 23), (w.heap.size, .cells (cs8 ks) 23)]) := (HM109.out).keep hb
    clear hb HM109
    simp only [Act.put, List.setIfInBounds_toArray, List.set_cons_succ, List.set_cons_zero]
    refine wpList_ok (base := 0) (v := .bool true) (ok_value (wanted_of rfl rfl rfl) (by simp [execOp, Act.eval, go_sem])) fun u112 hb => ?_
    have HM113 : Hid (Mem w.heap.size w u112 [(g82, .cells (cs8 (keyL 0)) 23), (g6, .cells (cs8 one32) 23), (w.heap.size, .cells (cs8 ks) 23)]) := (HM111.out).keep hb
    clear hb HM111
    simp only [Act.put, List.setIfInBounds_toArray, List.set_cons_succ, List.set_cons_zero]
    refine wpList_ok (base := 0) (v := .bool true) (ok_value rfl (by simp [execOp, Act.eval, go_sem])) fun u114 hb => ?_
    have HM115 : Hid (Mem w.heap.size w u114 [(g82, .cells (cs8 (keyL 0)) 23), (g6, .cells (cs8 one32) 23), (w.heap.size, .cells (cs8 ks) 23)]) := (HM113.out).keep hb
    clear hb HM113
    simp only [Act.put, List.setIfInBounds_toArray, List.set_cons_succ, List.set_cons_zero]
    refine wpList_ok (base := 0) (v := .bool true) (ok_value rfl (by simp [execOp, Act.eval])) fun u116 hb => ?_
    have HM117 : Hid (Mem w.heap.size w u116 [(g82, .cells (cs8 (keyL 0)) 23), (g6, .cells (cs8 one32) 23), (w.heap.size, .cells (cs8 ks) 23)]) := (HM115.out).keep hb
    clear hb HM115
    simp only [Act.put, List.setIfInBounds_toArray, List.set_cons_succ, List.set_cons_zero]
    refine wpList_ok (base := 0) (v := .bool true) (ok_call (wanted_of rfl rfl rfl) (by simp [go_sem]) (wakes_any _)) fun u118 hb => ?_
    have HM119 : Hid (Mem w.heap.size w u118 [(g82, .cells (cs8 (keyL 0)) 23), (g6, .cells (cs8 one32) 23), (w.heap.size, .cells (cs8 ks) 23)]) := (HM117.out).keep hb
    clear hb HM117
    simp only [Act.put, List.setIfInBounds_toArray, List.set_cons_succ, List.set_cons_zero]
    refine wpList_ok (base := 0) (v := .bool true) (ok_value rfl (by simp [execOp, Act.eval, go_sem])) fun u120 hb => ?_
    have HM121 : Hid (Mem w.heap.size w u120 [(g82, .cells (cs8 (keyL 0)) 23), (g6, .cells (cs8 one32) 23), (w.heap.size, .cells (cs8 ks) 23)]) := (HM119.out).keep hb
    clear hb HM119
    simp only [Act.put, List.setIfInBounds_toArray, List.set_cons_succ, List.set_cons_zero]
    refine wpList_ok (base := 0) (v := .bool true) (ok_value rfl (by simp [execOp, Act.eval])) fun u122 hb => ?_
    have HM123 : Hid (Mem w.heap.size w u122 [(g82, .cells (cs8 (keyL 0)) 23), (g6, .cells (cs8 one32) 23), (w.heap.size, .cells (cs8 ks) 23)]) := (HM121.out).keep hb
    clear hb HM121
    simp only [Act.put, List.setIfInBounds_toArray, List.set_cons_succ, List.set_cons_zero]
    go_wp2_with fail
    go_ret
    exact ⟨rfl, (HM123.out).below⟩
  · skip
    go_wp2_with fail
    go_loopw [6] (fun i wr => ∃ k : Nat, k ≤ 32 ∧ i = .int .i64 k ∧ Mem w.heap.size w wr [(g6, .cells (cs8 (fillTo k)) 23), (w.heap.size, .cells (cs8 ks) 23)]) (fun i _ => 32 - (intOf i).toNat)
    case atStart => exact ⟨0, by omega, rfl, HM9.out⟩
    case round =>
      obtain ⟨k, hk, rfl, MM⟩ := hrel
      have HM : Hid _ := MM
      clear MM HM9
      by_cases hlt : k < 32
      · have k0 : (0 : Int) ≤ k := by omega
        have k1 : (k : Int) < 32 := by omega
        have q0 := cell_of (HM.out.get 0 rfl) k
        obtain ⟨x, hx⟩ : ∃ x, (cs8 (fillTo k))[k]? = some x := ⟨_, cs8_get (fillTo k) k (by rw [fillTo_len k hk]; exact hlt)⟩
        rw [hx] at q0
        have f0 := frozen_of (HM.out.get 0 rfl) k
        go_upto_region 8 with fail
        generalize hV : World.setCell wr _ _ = V
        have HV : Hid (Mem w.heap.size w V [(g6, .cells (cs8 (fillTo (k + 1))) 23), (w.heap.size, .cells (cs8 ks) 23)]) := (by rw [← hV, ← fillTo_set k hlt]; exact HM.out.put 0 k _ rfl : Mem w.heap.size w V [(g6, .cells (cs8 (fillTo (k + 1))) 23), (w.heap.size, .cells (cs8 ks) 23)])
        clear hV q0 f0 HM hx
        go_wp2_with fail
        go_roundw
        case rel => exact ⟨k + 1, by omega, rfl, HV.out⟩
        case measure => simp [intOf]; omega
      · have ek : k = 32 := by omega
        subst ek
        have q0 := cell_of (HM.out.get 0 rfl) 0
        rw [show (cs8 (fillTo 32))[0]? = some (.int .u8 255) from rfl] at q0
        have f0 := frozen_of (HM.out.get 0 rfl) 0
        have q1 := cell_of (HM.out.get 0 rfl) 31
        rw [show (cs8 (fillTo 32))[31]? = some (.int .u8 255) from rfl] at q1
        have f1 := frozen_of (HM.out.get 0 rfl) 31
        go_upto_region 11 with fail
        generalize hV : World.setCell (World.setCell wr _ _) _ _ = V
        have HV : Hid (Mem w.heap.size w V [(g6, .cells (cs8 minus32) 23), (w.heap.size, .cells (cs8 ks) 23)]) := (by rw [← hV, ← minus_cells]; exact (HM.out.put 0 0 _ rfl).put 0 31 _ rfl : Mem w.heap.size w V [(g6, .cells (cs8 minus32) 23), (w.heap.size, .cells (cs8 ks) 23)])
        clear hV q0 f0 q1 f1 HM
        refine wp_region_list ?_
        refine wpList_ok (base := 0) (v := .agg (cs8 ks)) (ok_load rfl rfl rfl ((HV.out).get 1 rfl) Try.underlying23 rfl (by kernel_rfl) ((cs8_size bk.1))) fun u124 hb => ?_
        have HM125 : Hid (Mem w.heap.size w u124 [(g6, .cells (cs8 minus32) 23), (w.heap.size, .cells (cs8 ks) 23)]) := (HV.out).keep hb
        clear hb HV
        simp only [Act.put, List.setIfInBounds_toArray, List.set_cons_succ, List.set_cons_zero]
        refine wpList_ok (base := 0) (v := .agg (cs8 minus32)) (ok_load rfl rfl rfl ((HM125.out).get 0 rfl) Try.underlying23 rfl (by kernel_rfl) ((cs8_size rfl))) fun u126 hb => ?_
        have HM127 : Hid (Mem w.heap.size w u126 [(g6, .cells (cs8 minus32) 23), (w.heap.size, .cells (cs8 ks) 23)]) := (HM125.out).keep hb
        clear hb HM125
        simp only [Act.put, List.setIfInBounds_toArray, List.set_cons_succ, List.set_cons_zero]
        refine wpList_ok (base := 0) (v := .tuple #[.agg (cs8 (keyL 0)), .int .i64 2]) (ok_call rfl (by simp [Act.eval, go_sem]) (shared_weak ks minus32 bk minus32_bytes 0 e_minus32 zkey _)) fun u128 hb => ?_
        have HM129 : Hid (Mem w.heap.size w u128 [(g6, .cells (cs8 minus32) 23), (w.heap.size, .cells (cs8 ks) 23)]) := (HM127.out).keep hb
        clear hb HM127
        simp only [Act.put, List.setIfInBounds_toArray, List.set_cons_succ, List.set_cons_zero]
        refine wpList_ok (base := 0) (v := .tuple #[.agg (cs8 (keyL 0)), .int .i64 2]) (ok_value rfl (by simp [execOp, Act.eval])) fun u130 hb => ?_
        have HM131 : Hid (Mem w.heap.size w u130 [(g6, .cells (cs8 minus32) 23), (w.heap.size, .cells (cs8 ks) 23)]) := (HM129.out).keep hb
        clear hb HM129
        simp only [Act.put, List.setIfInBounds_toArray, List.set_cons_succ, List.set_cons_zero]
        refine wpList_ok (base := 0) (v := .agg (cs8 (keyL 0))) (ok_value rfl (by simp [execOp, Act.eval, go_sem])) fun u132 hb => ?_
        have HM133 : Hid (Mem w.heap.size w u132 [(g6, .cells (cs8 minus32) 23), (w.heap.size, .cells (cs8 ks) 23)]) := (HM131.out).keep hb
        clear hb HM131
        simp only [Act.put, List.setIfInBounds_toArray, List.set_cons_succ, List.set_cons_zero]
        refine wpList_ok (base := 0) (v := .int .i64 2) (ok_value rfl (by simp [execOp, Act.eval, go_sem])) fun u134 hb => ?_
        have HM135 : Hid (Mem w.heap.size w u134 [(g6, .cells (cs8 minus32) 23), (w.heap.size, .cells (cs8 ks) 23)]) := (HM133.out).keep hb
        clear hb HM133
        simp only [Act.put, List.setIfInBounds_toArray, List.set_cons_succ, List.set_cons_zero]
        refine wpList_alloc (o := .cells #[.int .u8 0, .int .u8 0, .int .u8 0, .int .u8 0, .int .u8 0, .int .u8 0, .int .u8 0, .int .u8 0, .int .u8 0, .int .u8 0, .int .u8 0, .int .u8 0, .int .u8 0, .int .u8 0, .int .u8 0, .int .u8 0, .int .u8 0, .int .u8 0, .int .u8 0, .int .u8 0, .int .u8 0, .int .u8 0, .int .u8 0, .int .u8 0, .int .u8 0, .int .u8 0, .int .u8 0, .int .u8 0, .int .u8 0, .int .u8 0, .int .u8 0, .int .u8 0] 23) (v := .pointer (some ⟨u134.heap.size, 0, none⟩)) rfl (by simp [execOp, go_sem]) ?_
        simp only [Act.put, List.setIfInBounds_toArray, List.set_cons_succ, List.set_cons_zero]
        have HM138 : Hid (Mem w.heap.size w _ [(u134.heap.size, .cells #[.int .u8 0, .int .u8 0, .int .u8 0, .int .u8 0, .int .u8 0, .int .u8 0, .int .u8 0, .int .u8 0, .int .u8 0, .int .u8 0, .int .u8 0, .int .u8 0, .int .u8 0, .int .u8 0, .int .u8 0, .int .u8 0, .int .u8 0, .int .u8 0, .int .u8 0, .int .u8 0, .int .u8 0, .int .u8 0, .int .u8 0, .int .u8 0, .int .u8 0, .int .u8 0, .int .u8 0, .int .u8 0, .int .u8 0, .int .u8 0, .int .u8 0, .int .u8 0] 23), (g6, .cells (cs8 minus32) 23), (w.heap.size, .cells (cs8 ks) 23)]) := (HM135.out).alloc (.cells #[.int .u8 0, .int .u8 0, .int .u8 0, .int .u8 0, .int .u8 0, .int .u8 0, .int .u8 0, .int .u8 0, .int .u8 0, .int .u8 0, .int .u8 0, .int .u8 0, .int .u8 0, .int .u8 0, .int .u8 0, .int .u8 0, .int .u8 0, .int .u8 0, .int .u8 0, .int .u8 0, .int .u8 0, .int .u8 0, .int .u8 0, .int .u8 0, .int .u8 0, .int .u8 0, .int .u8 0, .int .u8 0, .int .u8 0, .int .u8 0, .int .u8 0, .int .u8 0] 23)
        clear HM135
        generalize u134.alloc (.cells #[.int .u8 0, .int .u8 0, .int .u8 0, .int .u8 0, .int .u8 0, .int .u8 0, .int .u8 0, .int .u8 0, .int .u8 0, .int .u8 0, .int .u8 0, .int .u8 0, .int .u8 0, .int .u8 0, .int .u8 0, .int .u8 0, .int .u8 0, .int .u8 0, .int .u8 0, .int .u8 0, .int .u8 0, .int .u8 0, .int .u8 0, .int .u8 0, .int .u8 0, .int .u8 0, .int .u8 0, .int .u8 0, .int .u8 0, .int .u8 0, .int .u8 0, .int .u8 0] 23) = V136 at *
        generalize u134.heap.size = g139 at *
        refine wpList_store_blk (b := g139) rfl rfl rfl rfl ((HM138.out).get 0 rfl) (by kernel_rfl) (rfl) ((cs8_size (keyL_len _))) (cs8_one _) ?_
        simp only [Act.put]
        generalize hV141 : World.setCells V136 (g139) 0 _ = V140
        have HM142 : Hid (Mem w.heap.size w V140 [(g139, .cells (cs8 (keyL 0)) 23), (g6, .cells (cs8 minus32) 23), (w.heap.size, .cells (cs8 ks) 23)]) := (by rw [← hV141]; exact (HM138.out).store 0 (cs8 (keyL 0)) rfl ((rfl).trans ((cs8_size (keyL_len _))).symm) : Mem w.heap.size w V140 [(g139, .cells (cs8 (keyL 0)) 23), (g6, .cells (cs8 minus32) 23), (w.heap.size, .cells (cs8 ks) 23)])
        clear hV141 HM138
        refine wpList_ok (base := 0) (v := .int .i64 2) (ok_value rfl (by simp [execOp, Act.eval])) fun u143 hb => ?_
        have HM144 : Hid (Mem w.heap.size w u143 [(g139, .cells (cs8 (keyL 0)) 23), (g6, .cells (cs8 minus32) 23), (w.heap.size, .cells (cs8 ks) 23)]) := (HM142.out).keep hb
        clear hb HM142
        simp only [Act.put, List.setIfInBounds_toArray, List.set_cons_succ, List.set_cons_zero]
        go_upto_region 12 with fail
        refine wp_region_list ?_
        refine wpList_ok (base := 0) (v := .agg (cs8 ks)) (ok_load rfl rfl rfl ((HM144.out).get 2 rfl) Try.underlying23 rfl (by kernel_rfl) ((cs8_size bk.1))) fun u145 hb => ?_
        have HM146 : Hid (Mem w.heap.size w u145 [(g139, .cells (cs8 (keyL 0)) 23), (g6, .cells (cs8 minus32) 23), (w.heap.size, .cells (cs8 ks) 23)]) := (HM144.out).keep hb
        clear hb HM144
        simp only [Act.put, List.setIfInBounds_toArray, List.set_cons_succ, List.set_cons_zero]
        refine wpList_ok (base := 0) (v := .agg (cs8 minus32)) (ok_load rfl rfl rfl ((HM146.out).get 1 rfl) Try.underlying23 rfl (by kernel_rfl) ((cs8_size rfl))) fun u147 hb => ?_
        have HM148 : Hid (Mem w.heap.size w u147 [(g139, .cells (cs8 (keyL 0)) 23), (g6, .cells (cs8 minus32) 23), (w.heap.size, .cells (cs8 ks) 23)]) := (HM146.out).keep hb
        clear hb HM146
        simp only [Act.put, List.setIfInBounds_toArray, List.set_cons_succ, List.set_cons_zero]
        refine wpList_ok (base := 0) (v := .agg (cs8 (keyL 0))) (ok_call rfl (by simp [Act.eval, go_sem]) (e_minus32 ▸ cmul_any ks minus32 bk minus32_bytes _)) fun u149 hb => ?_
        have HM150 : Hid (Mem w.heap.size w u149 [(g139, .cells (cs8 (keyL 0)) 23), (g6, .cells (cs8 minus32) 23), (w.heap.size, .cells (cs8 ks) 23)]) := (HM148.out).keep hb
        clear hb HM148
        simp only [Act.put, List.setIfInBounds_toArray, List.set_cons_succ, List.set_cons_zero]
        refine wpList_ok (base := 0) (v := .agg (cs8 zero32)) (ok_value rfl (by rw [zero32_key]; simp [execOp, go_sem])) fun u151 hb => ?_
        have HM152 : Hid (Mem w.heap.size w u151 [(g139, .cells (cs8 (keyL 0)) 23), (g6, .cells (cs8 minus32) 23), (w.heap.size, .cells (cs8 ks) 23)]) := (HM150.out).keep hb
        clear hb HM150
        simp only [Act.put, List.setIfInBounds_toArray, List.set_cons_succ, List.set_cons_zero]
        refine wpList_ok (base := 0) (v := .bool true) (ok_eql_cs8 (keyL 0) zero32 true rfl rfl rfl (keyL_len _) rfl (zkey) rfl rfl) fun u153 hb => ?_
        have HM154 : Hid (Mem w.heap.size w u153 [(g139, .cells (cs8 (keyL 0)) 23), (g6, .cells (cs8 minus32) 23), (w.heap.size, .cells (cs8 ks) 23)]) := (HM152.out).keep hb
        clear hb HM152
        simp only [Act.put, List.setIfInBounds_toArray, List.set_cons_succ, List.set_cons_zero]
        refine wpList_ok (base := 0) (v := .bool true) (ok_value rfl (by simp [execOp, Act.eval])) fun u155 hb => ?_
        have HM156 : Hid (Mem w.heap.size w u155 [(g139, .cells (cs8 (keyL 0)) 23), (g6, .cells (cs8 minus32) 23), (w.heap.size, .cells (cs8 ks) 23)]) := (HM154.out).keep hb
        clear hb HM154
        simp only [Act.put, List.setIfInBounds_toArray, List.set_cons_succ, List.set_cons_zero]
        refine wpList_ok (base := 0) (v := .agg (cs8 (keyL 0))) (ok_load (wanted_of rfl rfl rfl) rfl rfl ((HM156.out).get 0 rfl) Try.underlying23 rfl (by kernel_rfl) ((cs8_size (keyL_len _)))) fun u157 hb => ?_
        have HM158 : Hid (Mem w.heap.size w u157 [(g139, .cells (cs8 (keyL 0)) 23), (g6, .cells (cs8 minus32) 23), (w.heap.size, .cells (cs8 ks) 23)]) := (HM156.out).keep hb
        clear hb HM156
        simp only [Act.put, List.setIfInBounds_toArray, List.set_cons_succ, List.set_cons_zero]
        refine wpList_ok (base := 0) (v := .agg (cs8 zero32)) (ok_value (wanted_of rfl rfl rfl) (by rw [zero32_key]; simp [execOp, go_sem])) fun u159 hb => ?_
        have HM160 : Hid (Mem w.heap.size w u159 [(g139, .cells (cs8 (keyL 0)) 23), (g6, .cells (cs8 minus32) 23), (w.heap.size, .cells (cs8 ks) 23)]) := (HM158.out).keep hb
        clear hb HM158
        simp only [Act.put, List.setIfInBounds_toArray, List.set_cons_succ, List.set_cons_zero]
        refine wpList_ok (base := 0) (v := .bool true) (ok_eql_cs8 (keyL 0) zero32 true (wanted_of rfl rfl rfl) rfl rfl (keyL_len _) rfl (zkey) rfl rfl) fun u161 hb => ?_
        have HM162 : Hid (Mem w.heap.size w u161 [(g139, .cells (cs8 (keyL 0)) 23), (g6, .cells (cs8 minus32) 23), (w.heap.size, .cells (cs8 ks) 23)]) := (HM160.out).keep hb
        clear hb HM160
        simp only [Act.put, List.setIfInBounds_toArray, List.set_cons_succ, List.set_cons_zero]
        refine wpList_ok (base := 0) (v := .bool true) (ok_value rfl (by simp [execOp, Act.eval, go_sem])) fun u163 hb => ?_
        have HM164 : Hid (Mem w.heap.size w u163 [(g139, .cells (cs8 (keyL 0)) 23), (g6, .cells (cs8 minus32) 23), (w.heap.size, .cells (cs8 ks) 23)]) := (HM162.out).keep hb
        clear hb HM162
        simp only [Act.put, List.setIfInBounds_toArray, List.set_cons_succ, List.set_cons_zero]
        refine wpList_ok (base := 0) (v := .bool true) (ok_value rfl (by simp [execOp, Act.eval])) fun u165 hb => ?_
        have HM166 : Hid (Mem w.heap.size w u165 [(g139, .cells (cs8 (keyL 0)) 23), (g6, .cells (cs8 minus32) 23), (w.heap.size, .cells (cs8 ks) 23)]) := (HM164.out).keep hb
        clear hb HM164
        simp only [Act.put, List.setIfInBounds_toArray, List.set_cons_succ, List.set_cons_zero]
        refine wpList_ok (base := 0) (v := .int .i64 2) (ok_value (wanted_of rfl rfl rfl) (by simp [execOp, Act.eval])) fun u167 hb => ?_
        have HM168 : Hid (Mem w.heap.size w u167 [(g139, .cells (cs8 (keyL 0)) 23), (g6, .cells (cs8 minus32) 23), (w.heap.size, .cells (cs8 ks) 23)]) := (HM166.out).keep hb
        clear hb HM166
        simp only [Act.put, List.setIfInBounds_toArray, List.set_cons_succ, List.set_cons_zero]
        refine wpList_ok (base := 0) (v := .bool true) (ok_value (wanted_of rfl rfl rfl) (by simp [execOp, Act.eval, go_sem])) fun u169 hb => ?_
        have HM170 : Hid (Mem w.heap.size w u169 [(g139, .cells (cs8 (keyL 0)) 23), (g6, .cells (cs8 minus32) 23), (w.heap.size, .cells (cs8 ks) 23)]) := (HM168.out).keep hb
        clear hb HM168
        simp only [Act.put, List.setIfInBounds_toArray, List.set_cons_succ, List.set_cons_zero]
        refine wpList_ok (base := 0) (v := .bool true) (ok_value rfl (by simp [execOp, Act.eval, go_sem])) fun u171 hb => ?_
        have HM172 : Hid (Mem w.heap.size w u171 [(g139, .cells (cs8 (keyL 0)) 23), (g6, .cells (cs8 minus32) 23), (w.heap.size, .cells (cs8 ks) 23)]) := (HM170.out).keep hb
        clear hb HM170
        simp only [Act.put, List.setIfInBounds_toArray, List.set_cons_succ, List.set_cons_zero]
        refine wpList_ok (base := 0) (v := .bool true) (ok_value rfl (by simp [execOp, Act.eval])) fun u173 hb => ?_
        have HM174 : Hid (Mem w.heap.size w u173 [(g139, .cells (cs8 (keyL 0)) 23), (g6, .cells (cs8 minus32) 23), (w.heap.size, .cells (cs8 ks) 23)]) := (HM172.out).keep hb
        clear hb HM172
        simp only [Act.put, List.setIfInBounds_toArray, List.set_cons_succ, List.set_cons_zero]
        refine wpList_ok (base := 0) (v := .bool true) (ok_call (wanted_of rfl rfl rfl) (by simp [go_sem]) (wakes_any _)) fun u175 hb => ?_
        have HM176 : Hid (Mem w.heap.size w u175 [(g139, .cells (cs8 (keyL 0)) 23), (g6, .cells (cs8 minus32) 23), (w.heap.size, .cells (cs8 ks) 23)]) := (HM174.out).keep hb
        clear hb HM174
        simp only [Act.put, List.setIfInBounds_toArray, List.set_cons_succ, List.set_cons_zero]
        refine wpList_ok (base := 0) (v := .bool true) (ok_value rfl (by simp [execOp, Act.eval, go_sem])) fun u177 hb => ?_
        have HM178 : Hid (Mem w.heap.size w u177 [(g139, .cells (cs8 (keyL 0)) 23), (g6, .cells (cs8 minus32) 23), (w.heap.size, .cells (cs8 ks) 23)]) := (HM176.out).keep hb
        clear hb HM176
        simp only [Act.put, List.setIfInBounds_toArray, List.set_cons_succ, List.set_cons_zero]
        refine wpList_ok (base := 0) (v := .bool true) (ok_value rfl (by simp [execOp, Act.eval])) fun u179 hb => ?_
        have HM180 : Hid (Mem w.heap.size w u179 [(g139, .cells (cs8 (keyL 0)) 23), (g6, .cells (cs8 minus32) 23), (w.heap.size, .cells (cs8 ks) 23)]) := (HM178.out).keep hb
        clear hb HM178
        simp only [Act.put, List.setIfInBounds_toArray, List.set_cons_succ, List.set_cons_zero]
        go_wp2_with fail
        go_ret
        exact ⟨rfl, (HM180.out).below⟩

end Go.Proofs.Ytfciodbgjljjhaa
