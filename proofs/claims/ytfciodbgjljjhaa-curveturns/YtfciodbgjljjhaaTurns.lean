/- CurveTurns: the walk. -/
import Derived.Test.YtfciodbgjljjhaaWakes
namespace Go.Proofs.Ytfciodbgjljjhaa
open Go.RowKit

set_option maxRecDepth 100000 in
set_option maxHeartbeats 8000000 in
theorem turns_raw (ka kb us : List Nat) (ha : Bytes ka) (hb : Bytes kb) (hu : Bytes us) (r1 r2 r : Nat) (e1 : curveN kb us = r1) (e2 : curveN ka us = r2) (e3 : curveN ka (keyL r1) = r) (e4 : curveN kb (keyL r2) = r) (w : World) :
    Calls Try.prog 5 #[.agg (cs8 ka), .agg (cs8 kb), .agg (cs8 us)] w fun e w' => e = .returned (.bool true) ∧ Below w.heap.size w w' := by
  go_enter Try.func5, Try.ntmps5
  go_upto_region 1 with fail
  generalize hW : World.alloc (World.alloc (World.alloc w _) _) _ = W
  have HM : Hid (Mem w.heap.size w W [(w.heap.size + 1 + 1, .cells (cs8 us) 23), (w.heap.size + 1, .cells (cs8 kb) 23), (w.heap.size, .cells (cs8 ka) 23)]) := (by rw [← hW]; exact (((Mem.start w).allocAt _ rfl).allocAt _ (by simp)).allocAt _ (by simp) : Mem w.heap.size w W [(w.heap.size + 1 + 1, .cells (cs8 us) 23), (w.heap.size + 1, .cells (cs8 kb) 23), (w.heap.size, .cells (cs8 ka) 23)])
  clear hW
  refine region_list W.heap.size (C := fun w' => Below W.heap.size W w') [.inl (.agg (cs8 ka)), .inl (.agg (cs8 kb)), .inl (.agg (cs8 us)), .inl (.agg (cs8 (keyL r1))), .inl (.agg (cs8 (keyL r))), .inl (.agg (cs8 kb)), .inl (.agg (cs8 ka)), .inl (.agg (cs8 us)), .inl (.agg (cs8 (keyL r2))), .inl (.agg (cs8 (keyL r))), .inl (.bool true), .inl (.bool true), .inl (.bool true), .inl (.bool true), .inl (.bool true)] [] (by kernel_rfl) (by kernel_rfl) ⟨rfl, rfl, rfl, Nat.le_refl _, fun _ _ => rfl⟩
    (fun w1 w2 h1 h2 => h1.trans (h2.mono h1.size)) (fun i h => by simp at h) ?_ ?_
  · refine ⟨?_, ?_, ?_, ?_, ?_, ?_, ?_, ?_, ?_, ?_, ?_, ?_, ?_, ?_, ?_, trivial⟩
    · intro s v hC hk hd
      have h0 : s.tmps[3]? = some (.pointer (some ⟨w.heap.size, 0, none⟩)) := hk 3 (by kernel_rfl)
      exact ok_load rfl rfl h0 (((HM.out).keep hC).get 2 rfl) Try.underlying23 rfl (by kernel_rfl) ((cs8_size ha.1))
    · intro s v hC hk hd
      have h0 : s.tmps[4]? = some (.pointer (some ⟨w.heap.size + 1, 0, none⟩)) := hk 4 (by kernel_rfl)
      exact ok_load rfl rfl h0 (((HM.out).keep hC).get 1 rfl) Try.underlying23 rfl (by kernel_rfl) ((cs8_size hb.1))
    · intro s v hC hk hd
      have h0 : s.tmps[5]? = some (.pointer (some ⟨w.heap.size + 1 + 1, 0, none⟩)) := hk 5 (by kernel_rfl)
      exact ok_load rfl rfl h0 (((HM.out).keep hC).get 0 rfl) Try.underlying23 rfl (by kernel_rfl) ((cs8_size hu.1))
    · intro s v hC hk hd
      have h0 : s.tmps[8]? = some (.agg (cs8 kb)) := hd 1 (by kernel_rfl)
      have h1 : s.tmps[9]? = some (.agg (cs8 us)) := hd 2 (by kernel_rfl)
      exact ok_call rfl (by simp [Act.eval, h0, h1, go_sem]) (e1 ▸ cmul_any kb us hb hu v)
    · intro s v hC hk hd
      have h0 : s.tmps[7]? = some (.agg (cs8 ka)) := hd 0 (by kernel_rfl)
      have h1 : s.tmps[10]? = some (.agg (cs8 (keyL r1))) := hd 3 (by kernel_rfl)
      exact ok_call rfl (by simp [Act.eval, h0, h1, go_sem]) (e3 ▸ cmul_any ka (keyL r1) ha (keyL_bytes _) v)
    · intro s v hC hk hd
      have h0 : s.tmps[4]? = some (.pointer (some ⟨w.heap.size + 1, 0, none⟩)) := hk 4 (by kernel_rfl)
      exact ok_load rfl rfl h0 (((HM.out).keep hC).get 1 rfl) Try.underlying23 rfl (by kernel_rfl) ((cs8_size hb.1))
    · intro s v hC hk hd
      have h0 : s.tmps[3]? = some (.pointer (some ⟨w.heap.size, 0, none⟩)) := hk 3 (by kernel_rfl)
      exact ok_load rfl rfl h0 (((HM.out).keep hC).get 2 rfl) Try.underlying23 rfl (by kernel_rfl) ((cs8_size ha.1))
    · intro s v hC hk hd
      have h0 : s.tmps[5]? = some (.pointer (some ⟨w.heap.size + 1 + 1, 0, none⟩)) := hk 5 (by kernel_rfl)
      exact ok_load rfl rfl h0 (((HM.out).keep hC).get 0 rfl) Try.underlying23 rfl (by kernel_rfl) ((cs8_size hu.1))
    · intro s v hC hk hd
      have h0 : s.tmps[13]? = some (.agg (cs8 ka)) := hd 6 (by kernel_rfl)
      have h1 : s.tmps[14]? = some (.agg (cs8 us)) := hd 7 (by kernel_rfl)
      exact ok_call rfl (by simp [Act.eval, h0, h1, go_sem]) (e2 ▸ cmul_any ka us ha hu v)
    · intro s v hC hk hd
      have h0 : s.tmps[12]? = some (.agg (cs8 kb)) := hd 5 (by kernel_rfl)
      have h1 : s.tmps[15]? = some (.agg (cs8 (keyL r2))) := hd 8 (by kernel_rfl)
      exact ok_call rfl (by simp [Act.eval, h0, h1, go_sem]) (e4 ▸ cmul_any kb (keyL r2) hb (keyL_bytes _) v)
    · intro s v hC hk hd
      have h0 : s.tmps[11]? = some (.agg (cs8 (keyL r))) := hd 4 (by kernel_rfl)
      have h1 : s.tmps[16]? = some (.agg (cs8 (keyL r))) := hd 9 (by kernel_rfl)
      exact ok_eql_cs8 (keyL r) (keyL r) true rfl rfl rfl (keyL_len _) (keyL_len _) (key_self _) h0 h1
    · intro s v hC hk hd
      have h0 : s.tmps[17]? = some (.bool true) := hd 10 (by kernel_rfl)
      exact ok_value rfl (by simp [execOp, Act.eval, h0])
    · intro s v hC hk hd
      exact ok_call (wanted_of rfl rfl (hd 11 (by kernel_rfl))) (by simp [go_sem]) (wakes_any v)
    · intro s v hC hk hd
      have h0 : s.tmps[18]? = some (.bool true) := hd 11 (by kernel_rfl)
      have h1 : s.tmps[19]? = some (.bool true) := hd 12 (by kernel_rfl)
      exact ok_value rfl (by simp [execOp, Act.eval, h0, h1, go_sem])
    · intro s v hC hk hd
      have h0 : s.tmps[20]? = some (.bool true) := hd 13 (by kernel_rfl)
      exact ok_value rfl (by simp [execOp, Act.eval, h0])
  · intro nb wA1 hC hf hne
    have M2 := (HM.out).keep hC
    clear hf hne hC
    simp [valsOf, valOf, putAll, Act.put]
    have HM3 : Hid (Mem w.heap.size w wA1 [(w.heap.size + 1 + 1, .cells (cs8 us) 23), (w.heap.size + 1, .cells (cs8 kb) 23), (w.heap.size, .cells (cs8 ka) 23)]) := M2
    go_wp2_with fail
    go_ret
    exact ⟨rfl, (HM3.out).below⟩

end Go.Proofs.Ytfciodbgjljjhaa
