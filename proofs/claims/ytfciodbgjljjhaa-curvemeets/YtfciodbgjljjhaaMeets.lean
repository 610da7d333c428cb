/- CurveMeets: the walk. -/
import Derived.Test.YtfciodbgjljjhaaWakes
import Derived.Test.YtfciodbgjljjhaaLate
namespace Go.Proofs.Ytfciodbgjljjhaa
open Go.RowKit

set_option maxRecDepth 100000 in
set_option maxHeartbeats 8000000 in
theorem meets_raw (ka kb : List Nat) (ha : Bytes ka) (hb : Bytes kb) (pa pb r : Nat) (e1 : pubN ka = pa) (e2 : pubN kb = pb) (e3 : curveN ka (keyL pb) = r) (e4 : curveN kb (keyL pa) = r) (hz : (keyL r == zero32) = false) (w : World) :
    Calls Try.prog 4 #[.agg (cs8 ka), .agg (cs8 kb)] w fun e w' => e = .returned (.bool true) ∧ Below w.heap.size w w' := by
  go_enter Try.func4, Try.ntmps4
  go_upto_region 1 with fail
  generalize hW : World.alloc (World.alloc w _) _ = W
  have HM : Hid (Mem w.heap.size w W [(w.heap.size + 1, .cells (cs8 kb) 23), (w.heap.size, .cells (cs8 ka) 23)]) := (by rw [← hW]; exact ((Mem.start w).allocAt _ rfl).allocAt _ (by simp) : Mem w.heap.size w W [(w.heap.size + 1, .cells (cs8 kb) 23), (w.heap.size, .cells (cs8 ka) 23)])
  clear hW
  refine region_late 6 (.int .i64 0) W.heap.size (C := fun w' => Below W.heap.size W w') [.inl (.agg (cs8 ka)), .inl (.agg (cs8 kb)), .inl (.agg (cs8 (keyL pb))), .inl (.tuple #[.agg (cs8 (keyL r)), .int .i64 0]), .inl (.tuple #[.agg (cs8 (keyL r)), .int .i64 0]), .inl (.agg (cs8 (keyL r))), .inl (.int .i64 0), .inr (.cells #[.int .u8 0, .int .u8 0, .int .u8 0, .int .u8 0, .int .u8 0, .int .u8 0, .int .u8 0, .int .u8 0, .int .u8 0, .int .u8 0, .int .u8 0, .int .u8 0, .int .u8 0, .int .u8 0, .int .u8 0, .int .u8 0, .int .u8 0, .int .u8 0, .int .u8 0, .int .u8 0, .int .u8 0, .int .u8 0, .int .u8 0, .int .u8 0, .int .u8 0, .int .u8 0, .int .u8 0, .int .u8 0, .int .u8 0, .int .u8 0, .int .u8 0, .int .u8 0] 23, fun b => .pointer (some ⟨b, 0, none⟩))] [7] (by kernel_rfl) (by kernel_rfl) (by kernel_rfl) (by kernel_rfl) (fun _ _ _ _ _ h => h) rfl rfl (fun o ho a v hC hk hd => by
      simp only [List.getElem?_toArray, List.getElem?_cons_succ, List.getElem?_cons_zero, Option.some.injEq] at ho
      subst ho
      have h0 : a.tmps[9]? = some (.tuple #[.agg (cs8 (keyL r)), .int .i64 0]) := hd 4 (by kernel_rfl)
      exact .inl ⟨rfl, fun w => by simp [execOp, Act.eval, h0, go_sem]⟩) ⟨rfl, rfl, rfl, Nat.le_refl _, fun _ _ => rfl⟩
    (fun w1 w2 h1 h2 => h1.trans (h2.mono h1.size)) (fun i h => by
      obtain rfl : i = 7 := by simpa using h
      exact ⟨_, rfl⟩) ?_ ?_
  · refine ⟨?_, ?_, ?_, ?_, ?_, ?_, ?_, ?_, trivial⟩
    · intro s v hC hk hd
      have h0 : s.tmps[2]? = some (.pointer (some ⟨w.heap.size, 0, none⟩)) := hk 2 (by kernel_rfl)
      exact ok_load rfl rfl h0 (((HM.out).keep hC).get 1 rfl) Try.underlying23 rfl (by kernel_rfl) ((cs8_size ha.1))
    · intro s v hC hk hd
      have h0 : s.tmps[3]? = some (.pointer (some ⟨w.heap.size + 1, 0, none⟩)) := hk 3 (by kernel_rfl)
      exact ok_load rfl rfl h0 (((HM.out).keep hC).get 0 rfl) Try.underlying23 rfl (by kernel_rfl) ((cs8_size hb.1))
    · intro s v hC hk hd
      have h0 : s.tmps[11]? = some (.agg (cs8 kb)) := hd 1 (by kernel_rfl)
      exact ok_call rfl (by simp [Act.eval, h0, go_sem]) (e2 ▸ public_any kb hb v)
    · intro s v hC hk hd
      have h0 : s.tmps[10]? = some (.agg (cs8 ka)) := hd 0 (by kernel_rfl)
      have h1 : s.tmps[12]? = some (.agg (cs8 (keyL pb))) := hd 2 (by kernel_rfl)
      exact ok_call rfl (by simp [Act.eval, h0, h1, go_sem]) (shared_ok ka (keyL pb) ha (keyL_bytes _) r e3 hz v)
    · intro s v hC hk hd
      have h0 : s.tmps[13]? = some (.tuple #[.agg (cs8 (keyL r)), .int .i64 0]) := hd 3 (by kernel_rfl)
      exact ok_value rfl (by simp [execOp, Act.eval, h0])
    · intro s v hC hk hd
      have h0 : s.tmps[9]? = some (.tuple #[.agg (cs8 (keyL r)), .int .i64 0]) := hd 4 (by kernel_rfl)
      exact ok_value rfl (by simp [execOp, Act.eval, h0, go_sem])
    · intro s v hC hk hd
      have h0 : s.tmps[9]? = some (.tuple #[.agg (cs8 (keyL r)), .int .i64 0]) := hd 4 (by kernel_rfl)
      exact ok_value rfl (by simp [execOp, Act.eval, h0, go_sem])
    · intro s v hC hk hd
      exact ok_alloc hC.size rfl (by simp [execOp, go_sem])
  · intro nb wA1 hC hf hne
    have M2 := (HM.out).keep hC
    obtain ⟨⟨l7, f7⟩, _⟩ := hf
    simp only [Nat.zero_add, Nat.reduceAdd] at l7 f7
    have M3 := (M2).also ((HM.out).ne_new l7) (Nat.le_trans (HM.out).size l7) f7
    clear hne hC l7 f7
    simp [valsOf, valOf, putAll, Act.put]
    generalize nb 7 = g4 at *
    have HM5 : Hid (Mem w.heap.size w wA1 [(g4, .cells #[.int .u8 0, .int .u8 0, .int .u8 0, .int .u8 0, .int .u8 0, .int .u8 0, .int .u8 0, .int .u8 0, .int .u8 0, .int .u8 0, .int .u8 0, .int .u8 0, .int .u8 0, .int .u8 0, .int .u8 0, .int .u8 0, .int .u8 0, .int .u8 0, .int .u8 0, .int .u8 0, .int .u8 0, .int .u8 0, .int .u8 0, .int .u8 0, .int .u8 0, .int .u8 0, .int .u8 0, .int .u8 0, .int .u8 0, .int .u8 0, .int .u8 0, .int .u8 0] 23), (w.heap.size + 1, .cells (cs8 kb) 23), (w.heap.size, .cells (cs8 ka) 23)]) := M3
    refine wpList_store_blk (b := g4) rfl rfl rfl rfl ((HM5.out).get 0 rfl) (by kernel_rfl) (rfl) ((cs8_size (keyL_len _))) (cs8_one _) ?_
    simp only [Act.put]
    generalize hV7 : World.setCells wA1 (g4) 0 _ = V6
    have HM8 : Hid (Mem w.heap.size w V6 [(g4, .cells (cs8 (keyL r)) 23), (w.heap.size + 1, .cells (cs8 kb) 23), (w.heap.size, .cells (cs8 ka) 23)]) := (by rw [← hV7]; exact (HM5.out).store 0 (cs8 (keyL r)) rfl ((rfl).trans ((cs8_size (keyL_len _))).symm) : Mem w.heap.size w V6 [(g4, .cells (cs8 (keyL r)) 23), (w.heap.size + 1, .cells (cs8 kb) 23), (w.heap.size, .cells (cs8 ka) 23)])
    clear hV7 HM5
    refine wpList_value (v := .int .i64 0) rfl (by simp [execOp, Act.eval]) ?_
    simp only [Act.put, List.setIfInBounds_toArray, List.set_cons_succ, List.set_cons_zero]
    go_wp2_with fail
    refine region_late 6 (.int .i64 0) V6.heap.size (C := fun w' => Below V6.heap.size V6 w') [.inl (.agg (cs8 kb)), .inl (.agg (cs8 ka)), .inl (.agg (cs8 (keyL pa))), .inl (.tuple #[.agg (cs8 (keyL r)), .int .i64 0]), .inl (.tuple #[.agg (cs8 (keyL r)), .int .i64 0]), .inl (.agg (cs8 (keyL r))), .inl (.int .i64 0), .inr (.cells #[.int .u8 0, .int .u8 0, .int .u8 0, .int .u8 0, .int .u8 0, .int .u8 0, .int .u8 0, .int .u8 0, .int .u8 0, .int .u8 0, .int .u8 0, .int .u8 0, .int .u8 0, .int .u8 0, .int .u8 0, .int .u8 0, .int .u8 0, .int .u8 0, .int .u8 0, .int .u8 0, .int .u8 0, .int .u8 0, .int .u8 0, .int .u8 0, .int .u8 0, .int .u8 0, .int .u8 0, .int .u8 0, .int .u8 0, .int .u8 0, .int .u8 0, .int .u8 0] 23, fun b => .pointer (some ⟨b, 0, none⟩))] [7] (by kernel_rfl) (by kernel_rfl) (by kernel_rfl) (by kernel_rfl) (fun _ _ _ _ _ h => h) rfl rfl (fun o ho a v hC hk hd => by
        simp only [List.getElem?_toArray, List.getElem?_cons_succ, List.getElem?_cons_zero, Option.some.injEq] at ho
        subst ho
        have h0 : a.tmps[16]? = some (.tuple #[.agg (cs8 (keyL r)), .int .i64 0]) := hd 4 (by kernel_rfl)
        exact .inl ⟨rfl, fun w => by simp [execOp, Act.eval, h0, go_sem]⟩) ⟨rfl, rfl, rfl, Nat.le_refl _, fun _ _ => rfl⟩
      (fun w1 w2 h1 h2 => h1.trans (h2.mono h1.size)) (fun i h => by
        obtain rfl : i = 7 := by simpa using h
        exact ⟨_, rfl⟩) ?_ ?_
    · refine ⟨?_, ?_, ?_, ?_, ?_, ?_, ?_, ?_, trivial⟩
      · intro s v hC hk hd
        have h0 : s.tmps[3]? = some (.pointer (some ⟨w.heap.size + 1, 0, none⟩)) := hk 3 (by kernel_rfl)
        exact ok_load rfl rfl h0 (((HM8.out).keep hC).get 1 rfl) Try.underlying23 rfl (by kernel_rfl) ((cs8_size hb.1))
      · intro s v hC hk hd
        have h0 : s.tmps[2]? = some (.pointer (some ⟨w.heap.size, 0, none⟩)) := hk 2 (by kernel_rfl)
        exact ok_load rfl rfl h0 (((HM8.out).keep hC).get 2 rfl) Try.underlying23 rfl (by kernel_rfl) ((cs8_size ha.1))
      · intro s v hC hk hd
        have h0 : s.tmps[18]? = some (.agg (cs8 ka)) := hd 1 (by kernel_rfl)
        exact ok_call rfl (by simp [Act.eval, h0, go_sem]) (e1 ▸ public_any ka ha v)
      · intro s v hC hk hd
        have h0 : s.tmps[17]? = some (.agg (cs8 kb)) := hd 0 (by kernel_rfl)
        have h1 : s.tmps[19]? = some (.agg (cs8 (keyL pa))) := hd 2 (by kernel_rfl)
        exact ok_call rfl (by simp [Act.eval, h0, h1, go_sem]) (shared_ok kb (keyL pa) hb (keyL_bytes _) r e4 hz v)
      · intro s v hC hk hd
        have h0 : s.tmps[20]? = some (.tuple #[.agg (cs8 (keyL r)), .int .i64 0]) := hd 3 (by kernel_rfl)
        exact ok_value rfl (by simp [execOp, Act.eval, h0])
      · intro s v hC hk hd
        have h0 : s.tmps[16]? = some (.tuple #[.agg (cs8 (keyL r)), .int .i64 0]) := hd 4 (by kernel_rfl)
        exact ok_value rfl (by simp [execOp, Act.eval, h0, go_sem])
      · intro s v hC hk hd
        have h0 : s.tmps[16]? = some (.tuple #[.agg (cs8 (keyL r)), .int .i64 0]) := hd 4 (by kernel_rfl)
        exact ok_value rfl (by simp [execOp, Act.eval, h0, go_sem])
      · intro s v hC hk hd
        exact ok_alloc hC.size rfl (by simp [execOp, go_sem])
    · intro nb wA9 hC hf hne
      have M10 := (HM8.out).keep hC
      obtain ⟨⟨l7, f7⟩, _⟩ := hf
      simp only [Nat.zero_add, Nat.reduceAdd] at l7 f7
      have M11 := (M10).also ((HM8.out).ne_new l7) (Nat.le_trans (HM8.out).size l7) f7
      clear hne hC l7 f7
      simp [valsOf, valOf, putAll, Act.put]
      generalize nb 7 = g12 at *
      have HM13 : Hid (Mem w.heap.size w wA9 [(g12, .cells #[.int .u8 0, .int .u8 0, .int .u8 0, .int .u8 0, .int .u8 0, .int .u8 0, .int .u8 0, .int .u8 0, .int .u8 0, .int .u8 0, .int .u8 0, .int .u8 0, .int .u8 0, .int .u8 0, .int .u8 0, .int .u8 0, .int .u8 0, .int .u8 0, .int .u8 0, .int .u8 0, .int .u8 0, .int .u8 0, .int .u8 0, .int .u8 0, .int .u8 0, .int .u8 0, .int .u8 0, .int .u8 0, .int .u8 0, .int .u8 0, .int .u8 0, .int .u8 0] 23), (g4, .cells (cs8 (keyL r)) 23), (w.heap.size + 1, .cells (cs8 kb) 23), (w.heap.size, .cells (cs8 ka) 23)]) := M11
      refine wpList_store_blk (b := g12) rfl rfl rfl rfl ((HM13.out).get 0 rfl) (by kernel_rfl) (rfl) ((cs8_size (keyL_len _))) (cs8_one _) ?_
      simp only [Act.put]
      generalize hV15 : World.setCells wA9 (g12) 0 _ = V14
      have HM16 : Hid (Mem w.heap.size w V14 [(g12, .cells (cs8 (keyL r)) 23), (g4, .cells (cs8 (keyL r)) 23), (w.heap.size + 1, .cells (cs8 kb) 23), (w.heap.size, .cells (cs8 ka) 23)]) := (by rw [← hV15]; exact (HM13.out).store 0 (cs8 (keyL r)) rfl ((rfl).trans ((cs8_size (keyL_len _))).symm) : Mem w.heap.size w V14 [(g12, .cells (cs8 (keyL r)) 23), (g4, .cells (cs8 (keyL r)) 23), (w.heap.size + 1, .cells (cs8 kb) 23), (w.heap.size, .cells (cs8 ka) 23)])
      clear hV15 HM13
      refine wpList_value (v := .int .i64 0) rfl (by simp [execOp, Act.eval]) ?_
      simp only [Act.put, List.setIfInBounds_toArray, List.set_cons_succ, List.set_cons_zero]
      go_upto_region 3 with fail
      refine wp_region_list ?_
      refine wpList_ok (base := 0) (v := .int .i64 0) (ok_value rfl (by simp [execOp, Act.eval])) fun u17 hb => ?_
      have HM18 : Hid (Mem w.heap.size w u17 [(g12, .cells (cs8 (keyL r)) 23), (g4, .cells (cs8 (keyL r)) 23), (w.heap.size + 1, .cells (cs8 kb) 23), (w.heap.size, .cells (cs8 ka) 23)]) := (HM16.out).keep hb
      clear hb HM16
      simp only [Act.put, List.setIfInBounds_toArray, List.set_cons_succ, List.set_cons_zero]
      refine wpList_ok (base := 0) (v := .bool true) (ok_value rfl (by simp [execOp, Act.eval, go_sem])) fun u19 hb => ?_
      have HM20 : Hid (Mem w.heap.size w u19 [(g12, .cells (cs8 (keyL r)) 23), (g4, .cells (cs8 (keyL r)) 23), (w.heap.size + 1, .cells (cs8 kb) 23), (w.heap.size, .cells (cs8 ka) 23)]) := (HM18.out).keep hb
      clear hb HM18
      simp only [Act.put, List.setIfInBounds_toArray, List.set_cons_succ, List.set_cons_zero]
      refine wpList_ok (base := 0) (v := .bool true) (ok_value rfl (by simp [execOp, Act.eval])) fun u21 hb => ?_
      have HM22 : Hid (Mem w.heap.size w u21 [(g12, .cells (cs8 (keyL r)) 23), (g4, .cells (cs8 (keyL r)) 23), (w.heap.size + 1, .cells (cs8 kb) 23), (w.heap.size, .cells (cs8 ka) 23)]) := (HM20.out).keep hb
      clear hb HM20
      simp only [Act.put, List.setIfInBounds_toArray, List.set_cons_succ, List.set_cons_zero]
      refine wpList_ok (base := 0) (v := .int .i64 0) (ok_value (wanted_of rfl rfl rfl) (by simp [execOp, Act.eval])) fun u23 hb => ?_
      have HM24 : Hid (Mem w.heap.size w u23 [(g12, .cells (cs8 (keyL r)) 23), (g4, .cells (cs8 (keyL r)) 23), (w.heap.size + 1, .cells (cs8 kb) 23), (w.heap.size, .cells (cs8 ka) 23)]) := (HM22.out).keep hb
      clear hb HM22
      simp only [Act.put, List.setIfInBounds_toArray, List.set_cons_succ, List.set_cons_zero]
      refine wpList_ok (base := 0) (v := .bool true) (ok_value (wanted_of rfl rfl rfl) (by simp [execOp, Act.eval, go_sem])) fun u25 hb => ?_
      have HM26 : Hid (Mem w.heap.size w u25 [(g12, .cells (cs8 (keyL r)) 23), (g4, .cells (cs8 (keyL r)) 23), (w.heap.size + 1, .cells (cs8 kb) 23), (w.heap.size, .cells (cs8 ka) 23)]) := (HM24.out).keep hb
      clear hb HM24
      simp only [Act.put, List.setIfInBounds_toArray, List.set_cons_succ, List.set_cons_zero]
      refine wpList_ok (base := 0) (v := .bool true) (ok_value rfl (by simp [execOp, Act.eval, go_sem])) fun u27 hb => ?_
      have HM28 : Hid (Mem w.heap.size w u27 [(g12, .cells (cs8 (keyL r)) 23), (g4, .cells (cs8 (keyL r)) 23), (w.heap.size + 1, .cells (cs8 kb) 23), (w.heap.size, .cells (cs8 ka) 23)]) := (HM26.out).keep hb
      clear hb HM26
      simp only [Act.put, List.setIfInBounds_toArray, List.set_cons_succ, List.set_cons_zero]
      refine wpList_ok (base := 0) (v := .bool true) (ok_value rfl (by simp [execOp, Act.eval])) fun u29 hb => ?_
      have HM30 : Hid (Mem w.heap.size w u29 [(g12, .cells (cs8 (keyL r)) 23), (g4, .cells (cs8 (keyL r)) 23), (w.heap.size + 1, .cells (cs8 kb) 23), (w.heap.size, .cells (cs8 ka) 23)]) := (HM28.out).keep hb
      clear hb HM28
      simp only [Act.put, List.setIfInBounds_toArray, List.set_cons_succ, List.set_cons_zero]
      refine wpList_ok (base := 0) (v := .agg (cs8 (keyL r))) (ok_load (wanted_of rfl rfl rfl) rfl rfl ((HM30.out).get 1 rfl) Try.underlying23 rfl (by kernel_rfl) ((cs8_size (keyL_len _)))) fun u31 hb => ?_
      have HM32 : Hid (Mem w.heap.size w u31 [(g12, .cells (cs8 (keyL r)) 23), (g4, .cells (cs8 (keyL r)) 23), (w.heap.size + 1, .cells (cs8 kb) 23), (w.heap.size, .cells (cs8 ka) 23)]) := (HM30.out).keep hb
      clear hb HM30
      simp only [Act.put, List.setIfInBounds_toArray, List.set_cons_succ, List.set_cons_zero]
      refine wpList_ok (base := 0) (v := .agg (cs8 (keyL r))) (ok_load (wanted_of rfl rfl rfl) rfl rfl ((HM32.out).get 0 rfl) Try.underlying23 rfl (by kernel_rfl) ((cs8_size (keyL_len _)))) fun u33 hb => ?_
      have HM34 : Hid (Mem w.heap.size w u33 [(g12, .cells (cs8 (keyL r)) 23), (g4, .cells (cs8 (keyL r)) 23), (w.heap.size + 1, .cells (cs8 kb) 23), (w.heap.size, .cells (cs8 ka) 23)]) := (HM32.out).keep hb
      clear hb HM32
      simp only [Act.put, List.setIfInBounds_toArray, List.set_cons_succ, List.set_cons_zero]
      refine wpList_ok (base := 0) (v := .bool true) (ok_eql_cs8 (keyL r) (keyL r) true (wanted_of rfl rfl rfl) rfl rfl (keyL_len _) (keyL_len _) (key_self _) rfl rfl) fun u35 hb => ?_
      have HM36 : Hid (Mem w.heap.size w u35 [(g12, .cells (cs8 (keyL r)) 23), (g4, .cells (cs8 (keyL r)) 23), (w.heap.size + 1, .cells (cs8 kb) 23), (w.heap.size, .cells (cs8 ka) 23)]) := (HM34.out).keep hb
      clear hb HM34
      simp only [Act.put, List.setIfInBounds_toArray, List.set_cons_succ, List.set_cons_zero]
      refine wpList_ok (base := 0) (v := .bool true) (ok_value rfl (by simp [execOp, Act.eval, go_sem])) fun u37 hb => ?_
      have HM38 : Hid (Mem w.heap.size w u37 [(g12, .cells (cs8 (keyL r)) 23), (g4, .cells (cs8 (keyL r)) 23), (w.heap.size + 1, .cells (cs8 kb) 23), (w.heap.size, .cells (cs8 ka) 23)]) := (HM36.out).keep hb
      clear hb HM36
      simp only [Act.put, List.setIfInBounds_toArray, List.set_cons_succ, List.set_cons_zero]
      refine wpList_ok (base := 0) (v := .bool true) (ok_value rfl (by simp [execOp, Act.eval])) fun u39 hb => ?_
      have HM40 : Hid (Mem w.heap.size w u39 [(g12, .cells (cs8 (keyL r)) 23), (g4, .cells (cs8 (keyL r)) 23), (w.heap.size + 1, .cells (cs8 kb) 23), (w.heap.size, .cells (cs8 ka) 23)]) := (HM38.out).keep hb
      clear hb HM38
      simp only [Act.put, List.setIfInBounds_toArray, List.set_cons_succ, List.set_cons_zero]
      refine wpList_ok (base := 0) (v := .bool true) (ok_call (wanted_of rfl rfl rfl) (by simp [go_sem]) (wakes_any _)) fun u41 hb => ?_
      have HM42 : Hid (Mem w.heap.size w u41 [(g12, .cells (cs8 (keyL r)) 23), (g4, .cells (cs8 (keyL r)) 23), (w.heap.size + 1, .cells (cs8 kb) 23), (w.heap.size, .cells (cs8 ka) 23)]) := (HM40.out).keep hb
      clear hb HM40
      simp only [Act.put, List.setIfInBounds_toArray, List.set_cons_succ, List.set_cons_zero]
      refine wpList_ok (base := 0) (v := .bool true) (ok_value rfl (by simp [execOp, Act.eval, go_sem])) fun u43 hb => ?_
      have HM44 : Hid (Mem w.heap.size w u43 [(g12, .cells (cs8 (keyL r)) 23), (g4, .cells (cs8 (keyL r)) 23), (w.heap.size + 1, .cells (cs8 kb) 23), (w.heap.size, .cells (cs8 ka) 23)]) := (HM42.out).keep hb
      clear hb HM42
      simp only [Act.put, List.setIfInBounds_toArray, List.set_cons_succ, List.set_cons_zero]
      refine wpList_ok (base := 0) (v := .bool true) (ok_value rfl (by simp [execOp, Act.eval])) fun u45 hb => ?_
      have HM46 : Hid (Mem w.heap.size w u45 [(g12, .cells (cs8 (keyL r)) 23), (g4, .cells (cs8 (keyL r)) 23), (w.heap.size + 1, .cells (cs8 kb) 23), (w.heap.size, .cells (cs8 ka) 23)]) := (HM44.out).keep hb
      clear hb HM44
      simp only [Act.put, List.setIfInBounds_toArray, List.set_cons_succ, List.set_cons_zero]
      go_wp2_with fail
      go_ret
      exact ⟨rfl, (HM46.out).below⟩

end Go.Proofs.Ytfciodbgjljjhaa
