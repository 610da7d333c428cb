/- The walks of the ladder of package curve: one step, and that its points change places. -/
import Derived.Test.YtfciodbgjljjhaaMem
namespace Go.Proofs.Ytfciodbgjljjhaa
open Go.RowKit

set_option maxRecDepth 100000 in
set_option maxHeartbeats 4000000 in
theorem swapped_raw (a b c d : Nat) (n : Int) (p q r t : Nat) (n0 : 0 ≤ n) (n1 : n ≤ 1) (e1 : (if n = 1 then c else a) = p) (e2 : (if n = 1 then d else b) = q) (e3 : (if n = 1 then a else c) = r) (e4 : (if n = 1 then b else d) = t) (w : World) :
    Calls Try.prog 18 #[.agg (L4 a b c d), .int .i64 n] w fun e w' => e = .returned (.agg (L4 p q r t)) ∧ Below w.heap.size w w' := by
  go_enter Try.func18, Try.ntmps18
  go_wp2_with fail
  generalize hW : World.alloc (World.alloc w _) _ = W
  have HM : Hid (Mem w.heap.size w W [(w.heap.size + 1, .cells #[.int .u64 0, .int .u64 0, .int .u64 0, .int .u64 0, .int .u64 0, .int .u64 0, .int .u64 0, .int .u64 0, .int .u64 0, .int .u64 0, .int .u64 0, .int .u64 0, .int .u64 0, .int .u64 0, .int .u64 0, .int .u64 0] 49), (w.heap.size, .cells (L4 a b c d) 49)]) := (by rw [← hW]; exact ((Mem.start w).allocAt _ rfl).allocAt _ (by simp) : Mem w.heap.size w W [(w.heap.size + 1, .cells #[.int .u64 0, .int .u64 0, .int .u64 0, .int .u64 0, .int .u64 0, .int .u64 0, .int .u64 0, .int .u64 0, .int .u64 0, .int .u64 0, .int .u64 0, .int .u64 0, .int .u64 0, .int .u64 0, .int .u64 0, .int .u64 0] 49), (w.heap.size, .cells (L4 a b c d) 49)])
  clear hW
  refine region_list W.heap.size (C := fun w' => Below W.heap.size W w') [.inl (.int .i64 n), .inl (.pointer (some ⟨w.heap.size, 0, none⟩)), .inl (E4 a), .inl (.pointer (some ⟨w.heap.size, 8, none⟩)), .inl (E4 c), .inl (E4 p), .inl (.int .i64 n), .inl (.pointer (some ⟨w.heap.size, 4, none⟩)), .inl (E4 b), .inl (.pointer (some ⟨w.heap.size, 12, none⟩)), .inl (E4 d), .inl (E4 q), .inl (.int .i64 n), .inl (.pointer (some ⟨w.heap.size, 8, none⟩)), .inl (E4 c), .inl (.pointer (some ⟨w.heap.size, 0, none⟩)), .inl (E4 a), .inl (E4 r), .inl (.int .i64 n), .inl (.pointer (some ⟨w.heap.size, 12, none⟩)), .inl (E4 d), .inl (.pointer (some ⟨w.heap.size, 4, none⟩)), .inl (E4 b), .inl (E4 t), .inl (.agg (L4 p q r t))] [] (by kernel_rfl) (by kernel_rfl) ⟨rfl, rfl, rfl, Nat.le_refl _, fun _ _ => rfl⟩
    (fun w1 w2 h1 h2 => h1.trans (h2.mono h1.size)) (fun i h => by simp at h) ?_ ?_
  · refine ⟨?_, ?_, ?_, ?_, ?_, ?_, ?_, ?_, ?_, ?_, ?_, ?_, ?_, ?_, ?_, ?_, ?_, ?_, ?_, ?_, ?_, ?_, ?_, ?_, ?_, trivial⟩
    · intro s v hC hk hd
      have h0 : s.tmps[1]? = some (.int .i64 n) := hk 1 (by kernel_rfl)
      exact ok_value rfl (by simp [execOp, Act.eval, h0, go_sem])
    · intro s v hC hk hd
      have h0 : s.tmps[2]? = some (.pointer (some ⟨w.heap.size, 0, none⟩)) := hk 2 (by kernel_rfl)
      exact ok_value rfl (by simp [execOp, Act.eval, h0, go_sem])
    · intro s v hC hk hd
      have h : s.tmps[6]? = some (.pointer (some ⟨w.heap.size, 0, none⟩)) := hd 1 (by kernel_rfl)
      exact ok_load_at rfl rfl h (((HM.out).keep hC).get 1 rfl) (part4 rfl rfl rfl rfl) Try.underlying45 rfl (by kernel_rfl)
    · intro s v hC hk hd
      have h0 : s.tmps[2]? = some (.pointer (some ⟨w.heap.size, 0, none⟩)) := hk 2 (by kernel_rfl)
      exact ok_value rfl (by simp [execOp, Act.eval, h0, go_sem])
    · intro s v hC hk hd
      have h : s.tmps[8]? = some (.pointer (some ⟨w.heap.size, 8, none⟩)) := hd 3 (by kernel_rfl)
      exact ok_load_at rfl rfl h (((HM.out).keep hC).get 1 rfl) (part4 rfl rfl rfl rfl) Try.underlying45 rfl (by kernel_rfl)
    · intro s v hC hk hd
      have h0 : s.tmps[5]? = some (.int .i64 n) := hd 0 (by kernel_rfl)
      have h1 : s.tmps[7]? = some (E4 a) := hd 2 (by kernel_rfl)
      have h2 : s.tmps[9]? = some (E4 c) := hd 4 (by kernel_rfl)
      exact ok_call rfl (by simp [Act.eval, h0, h1, h2, go_sem]) (pick_e n a c p n0 n1 e1 v)
    · intro s v hC hk hd
      have h0 : s.tmps[1]? = some (.int .i64 n) := hk 1 (by kernel_rfl)
      exact ok_value rfl (by simp [execOp, Act.eval, h0, go_sem])
    · intro s v hC hk hd
      have h0 : s.tmps[2]? = some (.pointer (some ⟨w.heap.size, 0, none⟩)) := hk 2 (by kernel_rfl)
      exact ok_value rfl (by simp [execOp, Act.eval, h0, go_sem])
    · intro s v hC hk hd
      have h : s.tmps[12]? = some (.pointer (some ⟨w.heap.size, 4, none⟩)) := hd 7 (by kernel_rfl)
      exact ok_load_at rfl rfl h (((HM.out).keep hC).get 1 rfl) (part4 rfl rfl rfl rfl) Try.underlying45 rfl (by kernel_rfl)
    · intro s v hC hk hd
      have h0 : s.tmps[2]? = some (.pointer (some ⟨w.heap.size, 0, none⟩)) := hk 2 (by kernel_rfl)
      exact ok_value rfl (by simp [execOp, Act.eval, h0, go_sem])
    · intro s v hC hk hd
      have h : s.tmps[14]? = some (.pointer (some ⟨w.heap.size, 12, none⟩)) := hd 9 (by kernel_rfl)
      exact ok_load_at rfl rfl h (((HM.out).keep hC).get 1 rfl) (part4 rfl rfl rfl rfl) Try.underlying45 rfl (by kernel_rfl)
    · intro s v hC hk hd
      have h0 : s.tmps[11]? = some (.int .i64 n) := hd 6 (by kernel_rfl)
      have h1 : s.tmps[13]? = some (E4 b) := hd 8 (by kernel_rfl)
      have h2 : s.tmps[15]? = some (E4 d) := hd 10 (by kernel_rfl)
      exact ok_call rfl (by simp [Act.eval, h0, h1, h2, go_sem]) (pick_e n b d q n0 n1 e2 v)
    · intro s v hC hk hd
      have h0 : s.tmps[1]? = some (.int .i64 n) := hk 1 (by kernel_rfl)
      exact ok_value rfl (by simp [execOp, Act.eval, h0, go_sem])
    · intro s v hC hk hd
      have h0 : s.tmps[2]? = some (.pointer (some ⟨w.heap.size, 0, none⟩)) := hk 2 (by kernel_rfl)
      exact ok_value rfl (by simp [execOp, Act.eval, h0, go_sem])
    · intro s v hC hk hd
      have h : s.tmps[18]? = some (.pointer (some ⟨w.heap.size, 8, none⟩)) := hd 13 (by kernel_rfl)
      exact ok_load_at rfl rfl h (((HM.out).keep hC).get 1 rfl) (part4 rfl rfl rfl rfl) Try.underlying45 rfl (by kernel_rfl)
    · intro s v hC hk hd
      have h0 : s.tmps[2]? = some (.pointer (some ⟨w.heap.size, 0, none⟩)) := hk 2 (by kernel_rfl)
      exact ok_value rfl (by simp [execOp, Act.eval, h0, go_sem])
    · intro s v hC hk hd
      have h : s.tmps[20]? = some (.pointer (some ⟨w.heap.size, 0, none⟩)) := hd 15 (by kernel_rfl)
      exact ok_load_at rfl rfl h (((HM.out).keep hC).get 1 rfl) (part4 rfl rfl rfl rfl) Try.underlying45 rfl (by kernel_rfl)
    · intro s v hC hk hd
      have h0 : s.tmps[17]? = some (.int .i64 n) := hd 12 (by kernel_rfl)
      have h1 : s.tmps[19]? = some (E4 c) := hd 14 (by kernel_rfl)
      have h2 : s.tmps[21]? = some (E4 a) := hd 16 (by kernel_rfl)
      exact ok_call rfl (by simp [Act.eval, h0, h1, h2, go_sem]) (pick_e n c a r n0 n1 e3 v)
    · intro s v hC hk hd
      have h0 : s.tmps[1]? = some (.int .i64 n) := hk 1 (by kernel_rfl)
      exact ok_value rfl (by simp [execOp, Act.eval, h0, go_sem])
    · intro s v hC hk hd
      have h0 : s.tmps[2]? = some (.pointer (some ⟨w.heap.size, 0, none⟩)) := hk 2 (by kernel_rfl)
      exact ok_value rfl (by simp [execOp, Act.eval, h0, go_sem])
    · intro s v hC hk hd
      have h : s.tmps[24]? = some (.pointer (some ⟨w.heap.size, 12, none⟩)) := hd 19 (by kernel_rfl)
      exact ok_load_at rfl rfl h (((HM.out).keep hC).get 1 rfl) (part4 rfl rfl rfl rfl) Try.underlying45 rfl (by kernel_rfl)
    · intro s v hC hk hd
      have h0 : s.tmps[2]? = some (.pointer (some ⟨w.heap.size, 0, none⟩)) := hk 2 (by kernel_rfl)
      exact ok_value rfl (by simp [execOp, Act.eval, h0, go_sem])
    · intro s v hC hk hd
      have h : s.tmps[26]? = some (.pointer (some ⟨w.heap.size, 4, none⟩)) := hd 21 (by kernel_rfl)
      exact ok_load_at rfl rfl h (((HM.out).keep hC).get 1 rfl) (part4 rfl rfl rfl rfl) Try.underlying45 rfl (by kernel_rfl)
    · intro s v hC hk hd
      have h0 : s.tmps[23]? = some (.int .i64 n) := hd 18 (by kernel_rfl)
      have h1 : s.tmps[25]? = some (E4 d) := hd 20 (by kernel_rfl)
      have h2 : s.tmps[27]? = some (E4 b) := hd 22 (by kernel_rfl)
      exact ok_call rfl (by simp [Act.eval, h0, h1, h2, go_sem]) (pick_e n d b t n0 n1 e4 v)
    · intro s v hC hk hd
      have h0 : s.tmps[10]? = some (E4 p) := hd 5 (by kernel_rfl)
      have h1 : s.tmps[16]? = some (E4 q) := hd 11 (by kernel_rfl)
      have h2 : s.tmps[22]? = some (E4 r) := hd 17 (by kernel_rfl)
      have h3 : s.tmps[28]? = some (E4 t) := hd 23 (by kernel_rfl)
      exact ok_value rfl (by simp [execOp, Act.eval, h0, h1, h2, h3, go_sem])
  · intro nb wA1 hC hf hne
    have M2 := (HM.out).keep hC
    clear hf hne hC
    simp [valsOf, valOf, putAll, Act.put]
    have HM : Hid (Mem w.heap.size w wA1 [(w.heap.size + 1, .cells #[.int .u64 0, .int .u64 0, .int .u64 0, .int .u64 0, .int .u64 0, .int .u64 0, .int .u64 0, .int .u64 0, .int .u64 0, .int .u64 0, .int .u64 0, .int .u64 0, .int .u64 0, .int .u64 0, .int .u64 0, .int .u64 0] 49), (w.heap.size, .cells (L4 a b c d) 49)]) := M2
    refine wpList_store_blk (b := w.heap.size + 1) rfl rfl rfl rfl ((HM.out).get 0 rfl) (by kernel_rfl) (rfl) (rfl) ((by simp [Value.oneCell'])) ?_
    simp only [Act.put]
    generalize hV4 : World.setCells wA1 (w.heap.size + 1) 0 _ = V3
    have HM5 : Hid (Mem w.heap.size w V3 [(w.heap.size + 1, .cells (L4 p q r t) 49), (w.heap.size, .cells (L4 a b c d) 49)]) := (by rw [← hV4]; exact (HM.out).store 0 (L4 p q r t) rfl rfl : Mem w.heap.size w V3 [(w.heap.size + 1, .cells (L4 p q r t) 49), (w.heap.size, .cells (L4 a b c d) 49)])
    clear hV4 HM
    go_wp2_with fail
    exact bodyPost_ret (v := .agg (L4 p q r t)) (results_blk (b := w.heap.size + 1) Try.results18 rfl ((HM5.out).get 0 rfl) Try.underlying49 rfl (by kernel_rfl) rfl) rfl ⟨rfl, (HM5.out).below⟩

set_option maxRecDepth 100000 in
set_option maxHeartbeats 8000000 in
theorem step_raw (x2 z2 x3 z3 u sa sb aa bb ee dd da cc cb su le p1 ff gg p2 p3 p4 : Nat) (l_x2 : x2 < pN) (l_z2 : z2 < pN) (l_x3 : x3 < pN) (l_z3 : z3 < pN) (l_u : u < pN) (l_sa : sa < pN) (l_sb : sb < pN) (l_aa : aa < pN) (l_bb : bb < pN) (l_ee : ee < pN) (l_dd : dd < pN) (l_da : da < pN) (l_cc : cc < pN) (l_cb : cb < pN) (l_su : su < pN) (l_le : le < pN) (l_ff : ff < pN) (l_gg : gg < pN) (e_sa : (x2 + z2) % pN = sa) (e_sb : (x2 + (pN - z2)) % pN = sb) (e_aa : sa * sa % pN = aa) (e_bb : sb * sb % pN = bb) (e_ee : (aa + (pN - bb)) % pN = ee) (e_dd : (x3 + (pN - z3)) % pN = dd) (e_da : dd * sa % pN = da) (e_cc : (x3 + z3) % pN = cc) (e_cb : cc * sb % pN = cb) (e_su : (da + cb) % pN = su) (e_le : (da + (pN - cb)) % pN = le) (e_p1 : aa * bb % pN = p1) (e_ff : 121665 * ee % pN = ff) (e_gg : (aa + ff) % pN = gg) (e_p2 : ee * gg % pN = p2) (e_p3 : su * su % pN = p3) (e_p4 : u * le % pN * le % pN = p4) (w : World) :
    Calls Try.prog 19 #[.agg (L4 x2 z2 x3 z3), E4 u] w fun e w' => e = .returned (.agg (L4 p1 p2 p3 p4)) ∧ Below w.heap.size w w' := by
  go_enter Try.func19, Try.ntmps19
  go_wp2_with fail
  generalize hW : World.alloc (World.alloc (World.alloc w _) _) _ = W
  have HM : Hid (Mem w.heap.size w W [(w.heap.size + 1 + 1, .cells #[.int .u64 0, .int .u64 0, .int .u64 0, .int .u64 0, .int .u64 0, .int .u64 0, .int .u64 0, .int .u64 0, .int .u64 0, .int .u64 0, .int .u64 0, .int .u64 0, .int .u64 0, .int .u64 0, .int .u64 0, .int .u64 0] 49), (w.heap.size + 1, .cells (C4 u) 45), (w.heap.size, .cells (L4 x2 z2 x3 z3) 49)]) := (by rw [← hW]; exact (((Mem.start w).allocAt _ rfl).allocAt _ (by simp)).allocAt _ (by simp) : Mem w.heap.size w W [(w.heap.size + 1 + 1, .cells #[.int .u64 0, .int .u64 0, .int .u64 0, .int .u64 0, .int .u64 0, .int .u64 0, .int .u64 0, .int .u64 0, .int .u64 0, .int .u64 0, .int .u64 0, .int .u64 0, .int .u64 0, .int .u64 0, .int .u64 0, .int .u64 0] 49), (w.heap.size + 1, .cells (C4 u) 45), (w.heap.size, .cells (L4 x2 z2 x3 z3) 49)])
  clear hW
  refine region_list W.heap.size (C := fun w' => Below W.heap.size W w') [.inl (.pointer (some ⟨w.heap.size, 0, none⟩)), .inl (E4 x2), .inl (.pointer (some ⟨w.heap.size, 4, none⟩)), .inl (E4 z2), .inr (.cells #[.int .u64 (w0 x2 : Nat), .int .u64 (w1 x2 : Nat), .int .u64 (w2 x2 : Nat), .int .u64 (w3 x2 : Nat), .int .u64 (w0 z2 : Nat), .int .u64 (w1 z2 : Nat), .int .u64 (w2 z2 : Nat), .int .u64 (w3 z2 : Nat)] 45, fun b => .slice (some ⟨b, 0, none⟩) 2 2), .inl (E4 sa), .inl (.pointer (some ⟨w.heap.size, 0, none⟩)), .inl (E4 x2), .inl (.pointer (some ⟨w.heap.size, 4, none⟩)), .inl (E4 z2), .inl (E4 sb), .inr (.cells #[.int .u64 0, .int .u64 0, .int .u64 0, .int .u64 0] 45, fun b => .pointer (some ⟨b, 0, none⟩)), .inr (.cells #[.int .u64 0, .int .u64 0, .int .u64 0, .int .u64 0] 45, fun b => .pointer (some ⟨b, 0, none⟩))] [11, 12] (by kernel_rfl) (by kernel_rfl) ⟨rfl, rfl, rfl, Nat.le_refl _, fun _ _ => rfl⟩
    (fun w1 w2 h1 h2 => h1.trans (h2.mono h1.size)) (fun i h => by
      obtain rfl | rfl : i = 11 ∨ i = 12 := by simpa using h
      all_goals exact ⟨_, rfl⟩) ?_ ?_
  · refine ⟨?_, ?_, ?_, ?_, ?_, ?_, ?_, ?_, ?_, ?_, ?_, ?_, ?_, trivial⟩
    · intro s v hC hk hd
      have h0 : s.tmps[2]? = some (.pointer (some ⟨w.heap.size, 0, none⟩)) := hk 2 (by kernel_rfl)
      exact ok_value rfl (by simp [execOp, Act.eval, h0, go_sem])
    · intro s v hC hk hd
      have h : s.tmps[14]? = some (.pointer (some ⟨w.heap.size, 0, none⟩)) := hd 0 (by kernel_rfl)
      exact ok_load_at rfl rfl h (((HM.out).keep hC).get 2 rfl) (part4 rfl rfl rfl rfl) Try.underlying45 rfl (by kernel_rfl)
    · intro s v hC hk hd
      have h0 : s.tmps[2]? = some (.pointer (some ⟨w.heap.size, 0, none⟩)) := hk 2 (by kernel_rfl)
      exact ok_value rfl (by simp [execOp, Act.eval, h0, go_sem])
    · intro s v hC hk hd
      have h : s.tmps[16]? = some (.pointer (some ⟨w.heap.size, 4, none⟩)) := hd 2 (by kernel_rfl)
      exact ok_load_at rfl rfl h (((HM.out).keep hC).get 2 rfl) (part4 rfl rfl rfl rfl) Try.underlying45 rfl (by kernel_rfl)
    · intro s v hC hk hd
      have h0 : s.tmps[15]? = some (E4 x2) := hd 1 (by kernel_rfl)
      have h1 : s.tmps[17]? = some (E4 z2) := hd 3 (by kernel_rfl)
      exact ok_new hC.size rfl (by simp [execOp, Act.eval, h0, h1, go_sem])
    · intro s v hC hk hd
      obtain ⟨h0b, h0, h0l, h0h⟩ := holds_new (s.tmps[18]?) v (.cells #[.int .u64 (w0 x2 : Nat), .int .u64 (w1 x2 : Nat), .int .u64 (w2 x2 : Nat), .int .u64 (w3 x2 : Nat), .int .u64 (w0 z2 : Nat), .int .u64 (w1 z2 : Nat), .int .u64 (w2 z2 : Nat), .int .u64 (w3 z2 : Nat)] 45) (fun b => .slice (some ⟨b, 0, none⟩) 2 2) (hd 4 (by kernel_rfl))
      exact ok_call rfl (by simp [Act.eval, h0, go_sem]) (add2e x2 z2 sa l_x2 l_z2 e_sa v h0b h0h)
    · intro s v hC hk hd
      have h0 : s.tmps[2]? = some (.pointer (some ⟨w.heap.size, 0, none⟩)) := hk 2 (by kernel_rfl)
      exact ok_value rfl (by simp [execOp, Act.eval, h0, go_sem])
    · intro s v hC hk hd
      have h : s.tmps[20]? = some (.pointer (some ⟨w.heap.size, 0, none⟩)) := hd 6 (by kernel_rfl)
      exact ok_load_at rfl rfl h (((HM.out).keep hC).get 2 rfl) (part4 rfl rfl rfl rfl) Try.underlying45 rfl (by kernel_rfl)
    · intro s v hC hk hd
      have h0 : s.tmps[2]? = some (.pointer (some ⟨w.heap.size, 0, none⟩)) := hk 2 (by kernel_rfl)
      exact ok_value rfl (by simp [execOp, Act.eval, h0, go_sem])
    · intro s v hC hk hd
      have h : s.tmps[22]? = some (.pointer (some ⟨w.heap.size, 4, none⟩)) := hd 8 (by kernel_rfl)
      exact ok_load_at rfl rfl h (((HM.out).keep hC).get 2 rfl) (part4 rfl rfl rfl rfl) Try.underlying45 rfl (by kernel_rfl)
    · intro s v hC hk hd
      have h0 : s.tmps[21]? = some (E4 x2) := hd 7 (by kernel_rfl)
      have h1 : s.tmps[23]? = some (E4 z2) := hd 9 (by kernel_rfl)
      exact ok_call rfl (by simp [Act.eval, h0, h1, go_sem]) (sub_e x2 z2 sb l_x2 l_z2 e_sb v)
    · intro s v hC hk hd
      exact ok_alloc hC.size rfl (by simp [execOp, go_sem])
    · intro s v hC hk hd
      exact ok_alloc hC.size rfl (by simp [execOp, go_sem])
  · intro nb wA1 hC hf hne
    have M2 := (HM.out).keep hC
    obtain ⟨_, ⟨l11, f11⟩, ⟨l12, f12⟩, _⟩ := hf
    simp only [Nat.zero_add, Nat.reduceAdd] at l11 f11 l12 f12
    have M3 := (M2).also ((HM.out).ne_new l11) (Nat.le_trans (HM.out).size l11) f11
    have M4 := (M3).also (Mem.ne_cons (hne 11 12 rfl rfl (by decide)) ((HM.out).ne_new l12)) (Nat.le_trans (HM.out).size l12) f12
    clear hne hC l11 f11 l12 f12
    simp [valsOf, valOf, putAll, Act.put]
    generalize nb 11 = g5 at *
    generalize nb 12 = g6 at *
    have HM : Hid (Mem w.heap.size w wA1 [(g6, .cells #[.int .u64 0, .int .u64 0, .int .u64 0, .int .u64 0] 45), (g5, .cells #[.int .u64 0, .int .u64 0, .int .u64 0, .int .u64 0] 45), (w.heap.size + 1 + 1, .cells #[.int .u64 0, .int .u64 0, .int .u64 0, .int .u64 0, .int .u64 0, .int .u64 0, .int .u64 0, .int .u64 0, .int .u64 0, .int .u64 0, .int .u64 0, .int .u64 0, .int .u64 0, .int .u64 0, .int .u64 0, .int .u64 0] 49), (w.heap.size + 1, .cells (C4 u) 45), (w.heap.size, .cells (L4 x2 z2 x3 z3) 49)]) := M4
    refine wpList_store_blk (b := g5) rfl rfl rfl rfl ((HM.out).get 1 rfl) (by kernel_rfl) (rfl) (rfl) ((by simp [Value.oneCell'])) ?_
    simp only [Act.put]
    generalize hV8 : World.setCells wA1 (g5) 0 _ = V7
    have HM9 : Hid (Mem w.heap.size w V7 [(g6, .cells #[.int .u64 0, .int .u64 0, .int .u64 0, .int .u64 0] 45), (g5, .cells (C4 sa) 45), (w.heap.size + 1 + 1, .cells #[.int .u64 0, .int .u64 0, .int .u64 0, .int .u64 0, .int .u64 0, .int .u64 0, .int .u64 0, .int .u64 0, .int .u64 0, .int .u64 0, .int .u64 0, .int .u64 0, .int .u64 0, .int .u64 0, .int .u64 0, .int .u64 0] 49), (w.heap.size + 1, .cells (C4 u) 45), (w.heap.size, .cells (L4 x2 z2 x3 z3) 49)]) := (by rw [← hV8]; exact (HM.out).store 1 (C4 sa) rfl rfl : Mem w.heap.size w V7 [(g6, .cells #[.int .u64 0, .int .u64 0, .int .u64 0, .int .u64 0] 45), (g5, .cells (C4 sa) 45), (w.heap.size + 1 + 1, .cells #[.int .u64 0, .int .u64 0, .int .u64 0, .int .u64 0, .int .u64 0, .int .u64 0, .int .u64 0, .int .u64 0, .int .u64 0, .int .u64 0, .int .u64 0, .int .u64 0, .int .u64 0, .int .u64 0, .int .u64 0, .int .u64 0] 49), (w.heap.size + 1, .cells (C4 u) 45), (w.heap.size, .cells (L4 x2 z2 x3 z3) 49)])
    clear hV8 HM
    refine wpList_store_blk (b := g6) rfl rfl rfl rfl ((HM9.out).get 0 rfl) (by kernel_rfl) (rfl) (rfl) ((by simp [Value.oneCell'])) ?_
    simp only [Act.put]
    generalize hV11 : World.setCells V7 (g6) 0 _ = V10
    have HM12 : Hid (Mem w.heap.size w V10 [(g6, .cells (C4 sb) 45), (g5, .cells (C4 sa) 45), (w.heap.size + 1 + 1, .cells #[.int .u64 0, .int .u64 0, .int .u64 0, .int .u64 0, .int .u64 0, .int .u64 0, .int .u64 0, .int .u64 0, .int .u64 0, .int .u64 0, .int .u64 0, .int .u64 0, .int .u64 0, .int .u64 0, .int .u64 0, .int .u64 0] 49), (w.heap.size + 1, .cells (C4 u) 45), (w.heap.size, .cells (L4 x2 z2 x3 z3) 49)]) := (by rw [← hV11]; exact (HM9.out).store 0 (C4 sb) rfl rfl : Mem w.heap.size w V10 [(g6, .cells (C4 sb) 45), (g5, .cells (C4 sa) 45), (w.heap.size + 1 + 1, .cells #[.int .u64 0, .int .u64 0, .int .u64 0, .int .u64 0, .int .u64 0, .int .u64 0, .int .u64 0, .int .u64 0, .int .u64 0, .int .u64 0, .int .u64 0, .int .u64 0, .int .u64 0, .int .u64 0, .int .u64 0, .int .u64 0] 49), (w.heap.size + 1, .cells (C4 u) 45), (w.heap.size, .cells (L4 x2 z2 x3 z3) 49)])
    clear hV11 HM9
    go_wp2_with fail
    refine region_list V10.heap.size (C := fun w' => Below V10.heap.size V10 w') [.inl (E4 sa), .inl (E4 sa), .inr (.cells #[.int .u64 (w0 sa : Nat), .int .u64 (w1 sa : Nat), .int .u64 (w2 sa : Nat), .int .u64 (w3 sa : Nat), .int .u64 (w0 sa : Nat), .int .u64 (w1 sa : Nat), .int .u64 (w2 sa : Nat), .int .u64 (w3 sa : Nat)] 45, fun b => .slice (some ⟨b, 0, none⟩) 2 2), .inl (E4 aa), .inl (E4 sb), .inl (E4 sb), .inr (.cells #[.int .u64 (w0 sb : Nat), .int .u64 (w1 sb : Nat), .int .u64 (w2 sb : Nat), .int .u64 (w3 sb : Nat), .int .u64 (w0 sb : Nat), .int .u64 (w1 sb : Nat), .int .u64 (w2 sb : Nat), .int .u64 (w3 sb : Nat)] 45, fun b => .slice (some ⟨b, 0, none⟩) 2 2), .inl (E4 bb), .inr (.cells #[.int .u64 0, .int .u64 0, .int .u64 0, .int .u64 0] 45, fun b => .pointer (some ⟨b, 0, none⟩)), .inr (.cells #[.int .u64 0, .int .u64 0, .int .u64 0, .int .u64 0] 45, fun b => .pointer (some ⟨b, 0, none⟩))] [8, 9] (by kernel_rfl) (by kernel_rfl) ⟨rfl, rfl, rfl, Nat.le_refl _, fun _ _ => rfl⟩
      (fun w1 w2 h1 h2 => h1.trans (h2.mono h1.size)) (fun i h => by
        obtain rfl | rfl : i = 8 ∨ i = 9 := by simpa using h
        all_goals exact ⟨_, rfl⟩) ?_ ?_
    · refine ⟨?_, ?_, ?_, ?_, ?_, ?_, ?_, ?_, ?_, ?_, trivial⟩
      · intro s v hC hk hd
        have h : s.tmps[5]? = some (.pointer (some ⟨g5, 0, none⟩)) := hk 5 (by kernel_rfl)
        exact ok_load rfl rfl h (((HM12.out).keep hC).get 1 rfl) Try.underlying45 rfl (by kernel_rfl) (rfl)
      · intro s v hC hk hd
        have h : s.tmps[5]? = some (.pointer (some ⟨g5, 0, none⟩)) := hk 5 (by kernel_rfl)
        exact ok_load rfl rfl h (((HM12.out).keep hC).get 1 rfl) Try.underlying45 rfl (by kernel_rfl) (rfl)
      · intro s v hC hk hd
        have h0 : s.tmps[25]? = some (E4 sa) := hd 0 (by kernel_rfl)
        have h1 : s.tmps[26]? = some (E4 sa) := hd 1 (by kernel_rfl)
        exact ok_new hC.size rfl (by simp [execOp, Act.eval, h0, h1, go_sem])
      · intro s v hC hk hd
        obtain ⟨h0b, h0, h0l, h0h⟩ := holds_new (s.tmps[27]?) v (.cells #[.int .u64 (w0 sa : Nat), .int .u64 (w1 sa : Nat), .int .u64 (w2 sa : Nat), .int .u64 (w3 sa : Nat), .int .u64 (w0 sa : Nat), .int .u64 (w1 sa : Nat), .int .u64 (w2 sa : Nat), .int .u64 (w3 sa : Nat)] 45) (fun b => .slice (some ⟨b, 0, none⟩) 2 2) (hd 2 (by kernel_rfl))
        exact ok_call rfl (by simp [Act.eval, h0, go_sem]) (mul2e sa sa aa l_sa l_sa e_aa v h0b h0h)
      · intro s v hC hk hd
        have h : s.tmps[6]? = some (.pointer (some ⟨g6, 0, none⟩)) := hk 6 (by kernel_rfl)
        exact ok_load rfl rfl h (((HM12.out).keep hC).get 0 rfl) Try.underlying45 rfl (by kernel_rfl) (rfl)
      · intro s v hC hk hd
        have h : s.tmps[6]? = some (.pointer (some ⟨g6, 0, none⟩)) := hk 6 (by kernel_rfl)
        exact ok_load rfl rfl h (((HM12.out).keep hC).get 0 rfl) Try.underlying45 rfl (by kernel_rfl) (rfl)
      · intro s v hC hk hd
        have h0 : s.tmps[29]? = some (E4 sb) := hd 4 (by kernel_rfl)
        have h1 : s.tmps[30]? = some (E4 sb) := hd 5 (by kernel_rfl)
        exact ok_new hC.size rfl (by simp [execOp, Act.eval, h0, h1, go_sem])
      · intro s v hC hk hd
        obtain ⟨h0b, h0, h0l, h0h⟩ := holds_new (s.tmps[31]?) v (.cells #[.int .u64 (w0 sb : Nat), .int .u64 (w1 sb : Nat), .int .u64 (w2 sb : Nat), .int .u64 (w3 sb : Nat), .int .u64 (w0 sb : Nat), .int .u64 (w1 sb : Nat), .int .u64 (w2 sb : Nat), .int .u64 (w3 sb : Nat)] 45) (fun b => .slice (some ⟨b, 0, none⟩) 2 2) (hd 6 (by kernel_rfl))
        exact ok_call rfl (by simp [Act.eval, h0, go_sem]) (mul2e sb sb bb l_sb l_sb e_bb v h0b h0h)
      · intro s v hC hk hd
        exact ok_alloc hC.size rfl (by simp [execOp, go_sem])
      · intro s v hC hk hd
        exact ok_alloc hC.size rfl (by simp [execOp, go_sem])
    · intro nb wA13 hC hf hne
      have M14 := (HM12.out).keep hC
      obtain ⟨_, _, ⟨l8, f8⟩, ⟨l9, f9⟩, _⟩ := hf
      simp only [Nat.zero_add, Nat.reduceAdd] at l8 f8 l9 f9
      have M15 := (M14).also ((HM12.out).ne_new l8) (Nat.le_trans (HM12.out).size l8) f8
      have M16 := (M15).also (Mem.ne_cons (hne 8 9 rfl rfl (by decide)) ((HM12.out).ne_new l9)) (Nat.le_trans (HM12.out).size l9) f9
      clear hne hC l8 f8 l9 f9
      simp [valsOf, valOf, putAll, Act.put]
      generalize nb 8 = g17 at *
      generalize nb 9 = g18 at *
      have HM : Hid (Mem w.heap.size w wA13 [(g18, .cells #[.int .u64 0, .int .u64 0, .int .u64 0, .int .u64 0] 45), (g17, .cells #[.int .u64 0, .int .u64 0, .int .u64 0, .int .u64 0] 45), (g6, .cells (C4 sb) 45), (g5, .cells (C4 sa) 45), (w.heap.size + 1 + 1, .cells #[.int .u64 0, .int .u64 0, .int .u64 0, .int .u64 0, .int .u64 0, .int .u64 0, .int .u64 0, .int .u64 0, .int .u64 0, .int .u64 0, .int .u64 0, .int .u64 0, .int .u64 0, .int .u64 0, .int .u64 0, .int .u64 0] 49), (w.heap.size + 1, .cells (C4 u) 45), (w.heap.size, .cells (L4 x2 z2 x3 z3) 49)]) := M16
      refine wpList_store_blk (b := g17) rfl rfl rfl rfl ((HM.out).get 1 rfl) (by kernel_rfl) (rfl) (rfl) ((by simp [Value.oneCell'])) ?_
      simp only [Act.put]
      generalize hV20 : World.setCells wA13 (g17) 0 _ = V19
      have HM21 : Hid (Mem w.heap.size w V19 [(g18, .cells #[.int .u64 0, .int .u64 0, .int .u64 0, .int .u64 0] 45), (g17, .cells (C4 aa) 45), (g6, .cells (C4 sb) 45), (g5, .cells (C4 sa) 45), (w.heap.size + 1 + 1, .cells #[.int .u64 0, .int .u64 0, .int .u64 0, .int .u64 0, .int .u64 0, .int .u64 0, .int .u64 0, .int .u64 0, .int .u64 0, .int .u64 0, .int .u64 0, .int .u64 0, .int .u64 0, .int .u64 0, .int .u64 0, .int .u64 0] 49), (w.heap.size + 1, .cells (C4 u) 45), (w.heap.size, .cells (L4 x2 z2 x3 z3) 49)]) := (by rw [← hV20]; exact (HM.out).store 1 (C4 aa) rfl rfl : Mem w.heap.size w V19 [(g18, .cells #[.int .u64 0, .int .u64 0, .int .u64 0, .int .u64 0] 45), (g17, .cells (C4 aa) 45), (g6, .cells (C4 sb) 45), (g5, .cells (C4 sa) 45), (w.heap.size + 1 + 1, .cells #[.int .u64 0, .int .u64 0, .int .u64 0, .int .u64 0, .int .u64 0, .int .u64 0, .int .u64 0, .int .u64 0, .int .u64 0, .int .u64 0, .int .u64 0, .int .u64 0, .int .u64 0, .int .u64 0, .int .u64 0, .int .u64 0] 49), (w.heap.size + 1, .cells (C4 u) 45), (w.heap.size, .cells (L4 x2 z2 x3 z3) 49)])
      clear hV20 HM
      refine wpList_store_blk (b := g18) rfl rfl rfl rfl ((HM21.out).get 0 rfl) (by kernel_rfl) (rfl) (rfl) ((by simp [Value.oneCell'])) ?_
      simp only [Act.put]
      generalize hV23 : World.setCells V19 (g18) 0 _ = V22
      have HM24 : Hid (Mem w.heap.size w V22 [(g18, .cells (C4 bb) 45), (g17, .cells (C4 aa) 45), (g6, .cells (C4 sb) 45), (g5, .cells (C4 sa) 45), (w.heap.size + 1 + 1, .cells #[.int .u64 0, .int .u64 0, .int .u64 0, .int .u64 0, .int .u64 0, .int .u64 0, .int .u64 0, .int .u64 0, .int .u64 0, .int .u64 0, .int .u64 0, .int .u64 0, .int .u64 0, .int .u64 0, .int .u64 0, .int .u64 0] 49), (w.heap.size + 1, .cells (C4 u) 45), (w.heap.size, .cells (L4 x2 z2 x3 z3) 49)]) := (by rw [← hV23]; exact (HM21.out).store 0 (C4 bb) rfl rfl : Mem w.heap.size w V22 [(g18, .cells (C4 bb) 45), (g17, .cells (C4 aa) 45), (g6, .cells (C4 sb) 45), (g5, .cells (C4 sa) 45), (w.heap.size + 1 + 1, .cells #[.int .u64 0, .int .u64 0, .int .u64 0, .int .u64 0, .int .u64 0, .int .u64 0, .int .u64 0, .int .u64 0, .int .u64 0, .int .u64 0, .int .u64 0, .int .u64 0, .int .u64 0, .int .u64 0, .int .u64 0, .int .u64 0] 49), (w.heap.size + 1, .cells (C4 u) 45), (w.heap.size, .cells (L4 x2 z2 x3 z3) 49)])
      clear hV23 HM21
      go_upto_region 3 with fail
      refine wp_region_list ?_
      refine wpList_load_blk (b := g17) rfl rfl rfl ((HM24.out).get 1 rfl) Try.underlying45 rfl (by kernel_rfl) (rfl) ?_
      simp only [Act.put]
      refine wpList_load_blk (b := g18) rfl rfl rfl ((HM24.out).get 0 rfl) Try.underlying45 rfl (by kernel_rfl) (rfl) ?_
      simp only [Act.put]
      refine wpList_call rfl (by simp [Act.eval, go_sem]) (sub_e aa bb ee l_aa l_bb e_ee _) fun u25 hb => ?_
      have HM26 : Hid (Mem w.heap.size w u25 [(g18, .cells (C4 bb) 45), (g17, .cells (C4 aa) 45), (g6, .cells (C4 sb) 45), (g5, .cells (C4 sa) 45), (w.heap.size + 1 + 1, .cells #[.int .u64 0, .int .u64 0, .int .u64 0, .int .u64 0, .int .u64 0, .int .u64 0, .int .u64 0, .int .u64 0, .int .u64 0, .int .u64 0, .int .u64 0, .int .u64 0, .int .u64 0, .int .u64 0, .int .u64 0, .int .u64 0] 49), (w.heap.size + 1, .cells (C4 u) 45), (w.heap.size, .cells (L4 x2 z2 x3 z3) 49)]) := (HM24.out).keep hb
      clear hb HM24
      simp only [Act.put]
      refine wpList_alloc (o := .cells #[.int .u64 0, .int .u64 0, .int .u64 0, .int .u64 0] 45) (v := .pointer (some ⟨u25.heap.size, 0, none⟩)) rfl (by simp [execOp, go_sem]) ?_
      simp only [Act.put]
      have HM29 : Hid (Mem w.heap.size w _ [(u25.heap.size, .cells #[.int .u64 0, .int .u64 0, .int .u64 0, .int .u64 0] 45), (g18, .cells (C4 bb) 45), (g17, .cells (C4 aa) 45), (g6, .cells (C4 sb) 45), (g5, .cells (C4 sa) 45), (w.heap.size + 1 + 1, .cells #[.int .u64 0, .int .u64 0, .int .u64 0, .int .u64 0, .int .u64 0, .int .u64 0, .int .u64 0, .int .u64 0, .int .u64 0, .int .u64 0, .int .u64 0, .int .u64 0, .int .u64 0, .int .u64 0, .int .u64 0, .int .u64 0] 49), (w.heap.size + 1, .cells (C4 u) 45), (w.heap.size, .cells (L4 x2 z2 x3 z3) 49)]) := (HM26.out).alloc (.cells #[.int .u64 0, .int .u64 0, .int .u64 0, .int .u64 0] 45)
      clear HM26
      generalize u25.alloc (.cells #[.int .u64 0, .int .u64 0, .int .u64 0, .int .u64 0] 45) = V27 at *
      generalize u25.heap.size = g30 at *
      refine wpList_store_blk (b := g30) rfl rfl rfl rfl ((HM29.out).get 0 rfl) (by kernel_rfl) (rfl) (rfl) ((by simp [Value.oneCell'])) ?_
      simp only [Act.put]
      generalize hV32 : World.setCells V27 (g30) 0 _ = V31
      have HM33 : Hid (Mem w.heap.size w V31 [(g30, .cells (C4 ee) 45), (g18, .cells (C4 bb) 45), (g17, .cells (C4 aa) 45), (g6, .cells (C4 sb) 45), (g5, .cells (C4 sa) 45), (w.heap.size + 1 + 1, .cells #[.int .u64 0, .int .u64 0, .int .u64 0, .int .u64 0, .int .u64 0, .int .u64 0, .int .u64 0, .int .u64 0, .int .u64 0, .int .u64 0, .int .u64 0, .int .u64 0, .int .u64 0, .int .u64 0, .int .u64 0, .int .u64 0] 49), (w.heap.size + 1, .cells (C4 u) 45), (w.heap.size, .cells (L4 x2 z2 x3 z3) 49)]) := (by rw [← hV32]; exact (HM29.out).store 0 (C4 ee) rfl rfl : Mem w.heap.size w V31 [(g30, .cells (C4 ee) 45), (g18, .cells (C4 bb) 45), (g17, .cells (C4 aa) 45), (g6, .cells (C4 sb) 45), (g5, .cells (C4 sa) 45), (w.heap.size + 1 + 1, .cells #[.int .u64 0, .int .u64 0, .int .u64 0, .int .u64 0, .int .u64 0, .int .u64 0, .int .u64 0, .int .u64 0, .int .u64 0, .int .u64 0, .int .u64 0, .int .u64 0, .int .u64 0, .int .u64 0, .int .u64 0, .int .u64 0] 49), (w.heap.size + 1, .cells (C4 u) 45), (w.heap.size, .cells (L4 x2 z2 x3 z3) 49)])
      clear hV32 HM29
      go_wp2_with fail
      refine region_list V31.heap.size (C := fun w' => Below V31.heap.size V31 w') [.inl (.pointer (some ⟨w.heap.size, 8, none⟩)), .inl (E4 x3), .inl (.pointer (some ⟨w.heap.size, 12, none⟩)), .inl (E4 z3), .inl (E4 dd), .inl (E4 sa), .inr (.cells #[.int .u64 (w0 dd : Nat), .int .u64 (w1 dd : Nat), .int .u64 (w2 dd : Nat), .int .u64 (w3 dd : Nat), .int .u64 (w0 sa : Nat), .int .u64 (w1 sa : Nat), .int .u64 (w2 sa : Nat), .int .u64 (w3 sa : Nat)] 45, fun b => .slice (some ⟨b, 0, none⟩) 2 2), .inl (E4 da), .inr (.cells #[.int .u64 0, .int .u64 0, .int .u64 0, .int .u64 0] 45, fun b => .pointer (some ⟨b, 0, none⟩))] [8] (by kernel_rfl) (by kernel_rfl) ⟨rfl, rfl, rfl, Nat.le_refl _, fun _ _ => rfl⟩
        (fun w1 w2 h1 h2 => h1.trans (h2.mono h1.size)) (fun i h => by
          obtain rfl : i = 8 := by simpa using h
          exact ⟨_, rfl⟩) ?_ ?_
      · refine ⟨?_, ?_, ?_, ?_, ?_, ?_, ?_, ?_, ?_, trivial⟩
        · intro s v hC hk hd
          have h0 : s.tmps[2]? = some (.pointer (some ⟨w.heap.size, 0, none⟩)) := hk 2 (by kernel_rfl)
          exact ok_value rfl (by simp [execOp, Act.eval, h0, go_sem])
        · intro s v hC hk hd
          have h : s.tmps[36]? = some (.pointer (some ⟨w.heap.size, 8, none⟩)) := hd 0 (by kernel_rfl)
          exact ok_load_at rfl rfl h (((HM33.out).keep hC).get 7 rfl) (part4 rfl rfl rfl rfl) Try.underlying45 rfl (by kernel_rfl)
        · intro s v hC hk hd
          have h0 : s.tmps[2]? = some (.pointer (some ⟨w.heap.size, 0, none⟩)) := hk 2 (by kernel_rfl)
          exact ok_value rfl (by simp [execOp, Act.eval, h0, go_sem])
        · intro s v hC hk hd
          have h : s.tmps[38]? = some (.pointer (some ⟨w.heap.size, 12, none⟩)) := hd 2 (by kernel_rfl)
          exact ok_load_at rfl rfl h (((HM33.out).keep hC).get 7 rfl) (part4 rfl rfl rfl rfl) Try.underlying45 rfl (by kernel_rfl)
        · intro s v hC hk hd
          have h0 : s.tmps[37]? = some (E4 x3) := hd 1 (by kernel_rfl)
          have h1 : s.tmps[39]? = some (E4 z3) := hd 3 (by kernel_rfl)
          exact ok_call rfl (by simp [Act.eval, h0, h1, go_sem]) (sub_e x3 z3 dd l_x3 l_z3 e_dd v)
        · intro s v hC hk hd
          have h : s.tmps[5]? = some (.pointer (some ⟨g5, 0, none⟩)) := hk 5 (by kernel_rfl)
          exact ok_load rfl rfl h (((HM33.out).keep hC).get 4 rfl) Try.underlying45 rfl (by kernel_rfl) (rfl)
        · intro s v hC hk hd
          have h0 : s.tmps[40]? = some (E4 dd) := hd 4 (by kernel_rfl)
          have h1 : s.tmps[41]? = some (E4 sa) := hd 5 (by kernel_rfl)
          exact ok_new hC.size rfl (by simp [execOp, Act.eval, h0, h1, go_sem])
        · intro s v hC hk hd
          obtain ⟨h0b, h0, h0l, h0h⟩ := holds_new (s.tmps[42]?) v (.cells #[.int .u64 (w0 dd : Nat), .int .u64 (w1 dd : Nat), .int .u64 (w2 dd : Nat), .int .u64 (w3 dd : Nat), .int .u64 (w0 sa : Nat), .int .u64 (w1 sa : Nat), .int .u64 (w2 sa : Nat), .int .u64 (w3 sa : Nat)] 45) (fun b => .slice (some ⟨b, 0, none⟩) 2 2) (hd 6 (by kernel_rfl))
          exact ok_call rfl (by simp [Act.eval, h0, go_sem]) (mul2e dd sa da l_dd l_sa e_da v h0b h0h)
        · intro s v hC hk hd
          exact ok_alloc hC.size rfl (by simp [execOp, go_sem])
      · intro nb wA34 hC hf hne
        have M35 := (HM33.out).keep hC
        obtain ⟨_, ⟨l8, f8⟩, _⟩ := hf
        simp only [Nat.zero_add, Nat.reduceAdd] at l8 f8
        have M36 := (M35).also ((HM33.out).ne_new l8) (Nat.le_trans (HM33.out).size l8) f8
        clear hne hC l8 f8
        simp [valsOf, valOf, putAll, Act.put]
        generalize nb 8 = g37 at *
        have HM : Hid (Mem w.heap.size w wA34 [(g37, .cells #[.int .u64 0, .int .u64 0, .int .u64 0, .int .u64 0] 45), (g30, .cells (C4 ee) 45), (g18, .cells (C4 bb) 45), (g17, .cells (C4 aa) 45), (g6, .cells (C4 sb) 45), (g5, .cells (C4 sa) 45), (w.heap.size + 1 + 1, .cells #[.int .u64 0, .int .u64 0, .int .u64 0, .int .u64 0, .int .u64 0, .int .u64 0, .int .u64 0, .int .u64 0, .int .u64 0, .int .u64 0, .int .u64 0, .int .u64 0, .int .u64 0, .int .u64 0, .int .u64 0, .int .u64 0] 49), (w.heap.size + 1, .cells (C4 u) 45), (w.heap.size, .cells (L4 x2 z2 x3 z3) 49)]) := M36
        refine wpList_store_blk (b := g37) rfl rfl rfl rfl ((HM.out).get 0 rfl) (by kernel_rfl) (rfl) (rfl) ((by simp [Value.oneCell'])) ?_
        simp only [Act.put]
        generalize hV39 : World.setCells wA34 (g37) 0 _ = V38
        have HM40 : Hid (Mem w.heap.size w V38 [(g37, .cells (C4 da) 45), (g30, .cells (C4 ee) 45), (g18, .cells (C4 bb) 45), (g17, .cells (C4 aa) 45), (g6, .cells (C4 sb) 45), (g5, .cells (C4 sa) 45), (w.heap.size + 1 + 1, .cells #[.int .u64 0, .int .u64 0, .int .u64 0, .int .u64 0, .int .u64 0, .int .u64 0, .int .u64 0, .int .u64 0, .int .u64 0, .int .u64 0, .int .u64 0, .int .u64 0, .int .u64 0, .int .u64 0, .int .u64 0, .int .u64 0] 49), (w.heap.size + 1, .cells (C4 u) 45), (w.heap.size, .cells (L4 x2 z2 x3 z3) 49)]) := (by rw [← hV39]; exact (HM.out).store 0 (C4 da) rfl rfl : Mem w.heap.size w V38 [(g37, .cells (C4 da) 45), (g30, .cells (C4 ee) 45), (g18, .cells (C4 bb) 45), (g17, .cells (C4 aa) 45), (g6, .cells (C4 sb) 45), (g5, .cells (C4 sa) 45), (w.heap.size + 1 + 1, .cells #[.int .u64 0, .int .u64 0, .int .u64 0, .int .u64 0, .int .u64 0, .int .u64 0, .int .u64 0, .int .u64 0, .int .u64 0, .int .u64 0, .int .u64 0, .int .u64 0, .int .u64 0, .int .u64 0, .int .u64 0, .int .u64 0] 49), (w.heap.size + 1, .cells (C4 u) 45), (w.heap.size, .cells (L4 x2 z2 x3 z3) 49)])
        clear hV39 HM
        go_wp2_with fail
        refine region_list V38.heap.size (C := fun w' => Below V38.heap.size V38 w') [.inl (.pointer (some ⟨w.heap.size, 8, none⟩)), .inl (E4 x3), .inl (.pointer (some ⟨w.heap.size, 12, none⟩)), .inl (E4 z3), .inr (.cells #[.int .u64 (w0 x3 : Nat), .int .u64 (w1 x3 : Nat), .int .u64 (w2 x3 : Nat), .int .u64 (w3 x3 : Nat), .int .u64 (w0 z3 : Nat), .int .u64 (w1 z3 : Nat), .int .u64 (w2 z3 : Nat), .int .u64 (w3 z3 : Nat)] 45, fun b => .slice (some ⟨b, 0, none⟩) 2 2), .inl (E4 cc), .inl (E4 sb), .inr (.cells #[.int .u64 (w0 cc : Nat), .int .u64 (w1 cc : Nat), .int .u64 (w2 cc : Nat), .int .u64 (w3 cc : Nat), .int .u64 (w0 sb : Nat), .int .u64 (w1 sb : Nat), .int .u64 (w2 sb : Nat), .int .u64 (w3 sb : Nat)] 45, fun b => .slice (some ⟨b, 0, none⟩) 2 2), .inl (E4 cb), .inr (.cells #[.int .u64 0, .int .u64 0, .int .u64 0, .int .u64 0] 45, fun b => .pointer (some ⟨b, 0, none⟩))] [9] (by kernel_rfl) (by kernel_rfl) ⟨rfl, rfl, rfl, Nat.le_refl _, fun _ _ => rfl⟩
          (fun w1 w2 h1 h2 => h1.trans (h2.mono h1.size)) (fun i h => by
            obtain rfl : i = 9 := by simpa using h
            exact ⟨_, rfl⟩) ?_ ?_
        · refine ⟨?_, ?_, ?_, ?_, ?_, ?_, ?_, ?_, ?_, ?_, trivial⟩
          · intro s v hC hk hd
            have h0 : s.tmps[2]? = some (.pointer (some ⟨w.heap.size, 0, none⟩)) := hk 2 (by kernel_rfl)
            exact ok_value rfl (by simp [execOp, Act.eval, h0, go_sem])
          · intro s v hC hk hd
            have h : s.tmps[44]? = some (.pointer (some ⟨w.heap.size, 8, none⟩)) := hd 0 (by kernel_rfl)
            exact ok_load_at rfl rfl h (((HM40.out).keep hC).get 8 rfl) (part4 rfl rfl rfl rfl) Try.underlying45 rfl (by kernel_rfl)
          · intro s v hC hk hd
            have h0 : s.tmps[2]? = some (.pointer (some ⟨w.heap.size, 0, none⟩)) := hk 2 (by kernel_rfl)
            exact ok_value rfl (by simp [execOp, Act.eval, h0, go_sem])
          · intro s v hC hk hd
            have h : s.tmps[46]? = some (.pointer (some ⟨w.heap.size, 12, none⟩)) := hd 2 (by kernel_rfl)
            exact ok_load_at rfl rfl h (((HM40.out).keep hC).get 8 rfl) (part4 rfl rfl rfl rfl) Try.underlying45 rfl (by kernel_rfl)
          · intro s v hC hk hd
            have h0 : s.tmps[45]? = some (E4 x3) := hd 1 (by kernel_rfl)
            have h1 : s.tmps[47]? = some (E4 z3) := hd 3 (by kernel_rfl)
            exact ok_new hC.size rfl (by simp [execOp, Act.eval, h0, h1, go_sem])
          · intro s v hC hk hd
            obtain ⟨h0b, h0, h0l, h0h⟩ := holds_new (s.tmps[48]?) v (.cells #[.int .u64 (w0 x3 : Nat), .int .u64 (w1 x3 : Nat), .int .u64 (w2 x3 : Nat), .int .u64 (w3 x3 : Nat), .int .u64 (w0 z3 : Nat), .int .u64 (w1 z3 : Nat), .int .u64 (w2 z3 : Nat), .int .u64 (w3 z3 : Nat)] 45) (fun b => .slice (some ⟨b, 0, none⟩) 2 2) (hd 4 (by kernel_rfl))
            exact ok_call rfl (by simp [Act.eval, h0, go_sem]) (add2e x3 z3 cc l_x3 l_z3 e_cc v h0b h0h)
          · intro s v hC hk hd
            have h : s.tmps[6]? = some (.pointer (some ⟨g6, 0, none⟩)) := hk 6 (by kernel_rfl)
            exact ok_load rfl rfl h (((HM40.out).keep hC).get 4 rfl) Try.underlying45 rfl (by kernel_rfl) (rfl)
          · intro s v hC hk hd
            have h0 : s.tmps[49]? = some (E4 cc) := hd 5 (by kernel_rfl)
            have h1 : s.tmps[50]? = some (E4 sb) := hd 6 (by kernel_rfl)
            exact ok_new hC.size rfl (by simp [execOp, Act.eval, h0, h1, go_sem])
          · intro s v hC hk hd
            obtain ⟨h0b, h0, h0l, h0h⟩ := holds_new (s.tmps[51]?) v (.cells #[.int .u64 (w0 cc : Nat), .int .u64 (w1 cc : Nat), .int .u64 (w2 cc : Nat), .int .u64 (w3 cc : Nat), .int .u64 (w0 sb : Nat), .int .u64 (w1 sb : Nat), .int .u64 (w2 sb : Nat), .int .u64 (w3 sb : Nat)] 45) (fun b => .slice (some ⟨b, 0, none⟩) 2 2) (hd 7 (by kernel_rfl))
            exact ok_call rfl (by simp [Act.eval, h0, go_sem]) (mul2e cc sb cb l_cc l_sb e_cb v h0b h0h)
          · intro s v hC hk hd
            exact ok_alloc hC.size rfl (by simp [execOp, go_sem])
        · intro nb wA41 hC hf hne
          have M42 := (HM40.out).keep hC
          obtain ⟨_, _, ⟨l9, f9⟩, _⟩ := hf
          simp only [Nat.zero_add, Nat.reduceAdd] at l9 f9
          have M43 := (M42).also ((HM40.out).ne_new l9) (Nat.le_trans (HM40.out).size l9) f9
          clear hne hC l9 f9
          simp [valsOf, valOf, putAll, Act.put]
          generalize nb 9 = g44 at *
          have HM : Hid (Mem w.heap.size w wA41 [(g44, .cells #[.int .u64 0, .int .u64 0, .int .u64 0, .int .u64 0] 45), (g37, .cells (C4 da) 45), (g30, .cells (C4 ee) 45), (g18, .cells (C4 bb) 45), (g17, .cells (C4 aa) 45), (g6, .cells (C4 sb) 45), (g5, .cells (C4 sa) 45), (w.heap.size + 1 + 1, .cells #[.int .u64 0, .int .u64 0, .int .u64 0, .int .u64 0, .int .u64 0, .int .u64 0, .int .u64 0, .int .u64 0, .int .u64 0, .int .u64 0, .int .u64 0, .int .u64 0, .int .u64 0, .int .u64 0, .int .u64 0, .int .u64 0] 49), (w.heap.size + 1, .cells (C4 u) 45), (w.heap.size, .cells (L4 x2 z2 x3 z3) 49)]) := M43
          refine wpList_store_blk (b := g44) rfl rfl rfl rfl ((HM.out).get 0 rfl) (by kernel_rfl) (rfl) (rfl) ((by simp [Value.oneCell'])) ?_
          simp only [Act.put]
          generalize hV46 : World.setCells wA41 (g44) 0 _ = V45
          have HM47 : Hid (Mem w.heap.size w V45 [(g44, .cells (C4 cb) 45), (g37, .cells (C4 da) 45), (g30, .cells (C4 ee) 45), (g18, .cells (C4 bb) 45), (g17, .cells (C4 aa) 45), (g6, .cells (C4 sb) 45), (g5, .cells (C4 sa) 45), (w.heap.size + 1 + 1, .cells #[.int .u64 0, .int .u64 0, .int .u64 0, .int .u64 0, .int .u64 0, .int .u64 0, .int .u64 0, .int .u64 0, .int .u64 0, .int .u64 0, .int .u64 0, .int .u64 0, .int .u64 0, .int .u64 0, .int .u64 0, .int .u64 0] 49), (w.heap.size + 1, .cells (C4 u) 45), (w.heap.size, .cells (L4 x2 z2 x3 z3) 49)]) := (by rw [← hV46]; exact (HM.out).store 0 (C4 cb) rfl rfl : Mem w.heap.size w V45 [(g44, .cells (C4 cb) 45), (g37, .cells (C4 da) 45), (g30, .cells (C4 ee) 45), (g18, .cells (C4 bb) 45), (g17, .cells (C4 aa) 45), (g6, .cells (C4 sb) 45), (g5, .cells (C4 sa) 45), (w.heap.size + 1 + 1, .cells #[.int .u64 0, .int .u64 0, .int .u64 0, .int .u64 0, .int .u64 0, .int .u64 0, .int .u64 0, .int .u64 0, .int .u64 0, .int .u64 0, .int .u64 0, .int .u64 0, .int .u64 0, .int .u64 0, .int .u64 0, .int .u64 0] 49), (w.heap.size + 1, .cells (C4 u) 45), (w.heap.size, .cells (L4 x2 z2 x3 z3) 49)])
          clear hV46 HM
          go_wp2_with fail
          refine region_list V45.heap.size (C := fun w' => Below V45.heap.size V45 w') [.inl (E4 da), .inl (E4 cb), .inr (.cells #[.int .u64 (w0 da : Nat), .int .u64 (w1 da : Nat), .int .u64 (w2 da : Nat), .int .u64 (w3 da : Nat), .int .u64 (w0 cb : Nat), .int .u64 (w1 cb : Nat), .int .u64 (w2 cb : Nat), .int .u64 (w3 cb : Nat)] 45, fun b => .slice (some ⟨b, 0, none⟩) 2 2), .inl (E4 su), .inl (E4 da), .inl (E4 cb), .inl (E4 le), .inr (.cells #[.int .u64 0, .int .u64 0, .int .u64 0, .int .u64 0] 45, fun b => .pointer (some ⟨b, 0, none⟩)), .inr (.cells #[.int .u64 0, .int .u64 0, .int .u64 0, .int .u64 0] 45, fun b => .pointer (some ⟨b, 0, none⟩))] [7, 8] (by kernel_rfl) (by kernel_rfl) ⟨rfl, rfl, rfl, Nat.le_refl _, fun _ _ => rfl⟩
            (fun w1 w2 h1 h2 => h1.trans (h2.mono h1.size)) (fun i h => by
              obtain rfl | rfl : i = 7 ∨ i = 8 := by simpa using h
              all_goals exact ⟨_, rfl⟩) ?_ ?_
          · refine ⟨?_, ?_, ?_, ?_, ?_, ?_, ?_, ?_, ?_, trivial⟩
            · intro s v hC hk hd
              have h : s.tmps[10]? = some (.pointer (some ⟨g37, 0, none⟩)) := hk 10 (by kernel_rfl)
              exact ok_load rfl rfl h (((HM47.out).keep hC).get 1 rfl) Try.underlying45 rfl (by kernel_rfl) (rfl)
            · intro s v hC hk hd
              have h : s.tmps[11]? = some (.pointer (some ⟨g44, 0, none⟩)) := hk 11 (by kernel_rfl)
              exact ok_load rfl rfl h (((HM47.out).keep hC).get 0 rfl) Try.underlying45 rfl (by kernel_rfl) (rfl)
            · intro s v hC hk hd
              have h0 : s.tmps[53]? = some (E4 da) := hd 0 (by kernel_rfl)
              have h1 : s.tmps[54]? = some (E4 cb) := hd 1 (by kernel_rfl)
              exact ok_new hC.size rfl (by simp [execOp, Act.eval, h0, h1, go_sem])
            · intro s v hC hk hd
              obtain ⟨h0b, h0, h0l, h0h⟩ := holds_new (s.tmps[55]?) v (.cells #[.int .u64 (w0 da : Nat), .int .u64 (w1 da : Nat), .int .u64 (w2 da : Nat), .int .u64 (w3 da : Nat), .int .u64 (w0 cb : Nat), .int .u64 (w1 cb : Nat), .int .u64 (w2 cb : Nat), .int .u64 (w3 cb : Nat)] 45) (fun b => .slice (some ⟨b, 0, none⟩) 2 2) (hd 2 (by kernel_rfl))
              exact ok_call rfl (by simp [Act.eval, h0, go_sem]) (add2e da cb su l_da l_cb e_su v h0b h0h)
            · intro s v hC hk hd
              have h : s.tmps[10]? = some (.pointer (some ⟨g37, 0, none⟩)) := hk 10 (by kernel_rfl)
              exact ok_load rfl rfl h (((HM47.out).keep hC).get 1 rfl) Try.underlying45 rfl (by kernel_rfl) (rfl)
            · intro s v hC hk hd
              have h : s.tmps[11]? = some (.pointer (some ⟨g44, 0, none⟩)) := hk 11 (by kernel_rfl)
              exact ok_load rfl rfl h (((HM47.out).keep hC).get 0 rfl) Try.underlying45 rfl (by kernel_rfl) (rfl)
            · intro s v hC hk hd
              have h0 : s.tmps[57]? = some (E4 da) := hd 4 (by kernel_rfl)
              have h1 : s.tmps[58]? = some (E4 cb) := hd 5 (by kernel_rfl)
              exact ok_call rfl (by simp [Act.eval, h0, h1, go_sem]) (sub_e da cb le l_da l_cb e_le v)
            · intro s v hC hk hd
              exact ok_alloc hC.size rfl (by simp [execOp, go_sem])
            · intro s v hC hk hd
              exact ok_alloc hC.size rfl (by simp [execOp, go_sem])
          · intro nb wA48 hC hf hne
            have M49 := (HM47.out).keep hC
            obtain ⟨_, ⟨l7, f7⟩, ⟨l8, f8⟩, _⟩ := hf
            simp only [Nat.zero_add, Nat.reduceAdd] at l7 f7 l8 f8
            have M50 := (M49).also ((HM47.out).ne_new l7) (Nat.le_trans (HM47.out).size l7) f7
            have M51 := (M50).also (Mem.ne_cons (hne 7 8 rfl rfl (by decide)) ((HM47.out).ne_new l8)) (Nat.le_trans (HM47.out).size l8) f8
            clear hne hC l7 f7 l8 f8
            simp [valsOf, valOf, putAll, Act.put]
            generalize nb 7 = g52 at *
            generalize nb 8 = g53 at *
            have HM : Hid (Mem w.heap.size w wA48 [(g53, .cells #[.int .u64 0, .int .u64 0, .int .u64 0, .int .u64 0] 45), (g52, .cells #[.int .u64 0, .int .u64 0, .int .u64 0, .int .u64 0] 45), (g44, .cells (C4 cb) 45), (g37, .cells (C4 da) 45), (g30, .cells (C4 ee) 45), (g18, .cells (C4 bb) 45), (g17, .cells (C4 aa) 45), (g6, .cells (C4 sb) 45), (g5, .cells (C4 sa) 45), (w.heap.size + 1 + 1, .cells #[.int .u64 0, .int .u64 0, .int .u64 0, .int .u64 0, .int .u64 0, .int .u64 0, .int .u64 0, .int .u64 0, .int .u64 0, .int .u64 0, .int .u64 0, .int .u64 0, .int .u64 0, .int .u64 0, .int .u64 0, .int .u64 0] 49), (w.heap.size + 1, .cells (C4 u) 45), (w.heap.size, .cells (L4 x2 z2 x3 z3) 49)]) := M51
            refine wpList_store_blk (b := g52) rfl rfl rfl rfl ((HM.out).get 1 rfl) (by kernel_rfl) (rfl) (rfl) ((by simp [Value.oneCell'])) ?_
            simp only [Act.put]
            generalize hV55 : World.setCells wA48 (g52) 0 _ = V54
            have HM56 : Hid (Mem w.heap.size w V54 [(g53, .cells #[.int .u64 0, .int .u64 0, .int .u64 0, .int .u64 0] 45), (g52, .cells (C4 su) 45), (g44, .cells (C4 cb) 45), (g37, .cells (C4 da) 45), (g30, .cells (C4 ee) 45), (g18, .cells (C4 bb) 45), (g17, .cells (C4 aa) 45), (g6, .cells (C4 sb) 45), (g5, .cells (C4 sa) 45), (w.heap.size + 1 + 1, .cells #[.int .u64 0, .int .u64 0, .int .u64 0, .int .u64 0, .int .u64 0, .int .u64 0, .int .u64 0, .int .u64 0, .int .u64 0, .int .u64 0, .int .u64 0, .int .u64 0, .int .u64 0, .int .u64 0, .int .u64 0, .int .u64 0] 49), (w.heap.size + 1, .cells (C4 u) 45), (w.heap.size, .cells (L4 x2 z2 x3 z3) 49)]) := (by rw [← hV55]; exact (HM.out).store 1 (C4 su) rfl rfl : Mem w.heap.size w V54 [(g53, .cells #[.int .u64 0, .int .u64 0, .int .u64 0, .int .u64 0] 45), (g52, .cells (C4 su) 45), (g44, .cells (C4 cb) 45), (g37, .cells (C4 da) 45), (g30, .cells (C4 ee) 45), (g18, .cells (C4 bb) 45), (g17, .cells (C4 aa) 45), (g6, .cells (C4 sb) 45), (g5, .cells (C4 sa) 45), (w.heap.size + 1 + 1, .cells #[.int .u64 0, .int .u64 0, .int .u64 0, .int .u64 0, .int .u64 0, .int .u64 0, .int .u64 0, .int .u64 0, .int .u64 0, .int .u64 0, .int .u64 0, .int .u64 0, .int .u64 0, .int .u64 0, .int .u64 0, .int .u64 0] 49), (w.heap.size + 1, .cells (C4 u) 45), (w.heap.size, .cells (L4 x2 z2 x3 z3) 49)])
            clear hV55 HM
            refine wpList_store_blk (b := g53) rfl rfl rfl rfl ((HM56.out).get 0 rfl) (by kernel_rfl) (rfl) (rfl) ((by simp [Value.oneCell'])) ?_
            simp only [Act.put]
            generalize hV58 : World.setCells V54 (g53) 0 _ = V57
            have HM59 : Hid (Mem w.heap.size w V57 [(g53, .cells (C4 le) 45), (g52, .cells (C4 su) 45), (g44, .cells (C4 cb) 45), (g37, .cells (C4 da) 45), (g30, .cells (C4 ee) 45), (g18, .cells (C4 bb) 45), (g17, .cells (C4 aa) 45), (g6, .cells (C4 sb) 45), (g5, .cells (C4 sa) 45), (w.heap.size + 1 + 1, .cells #[.int .u64 0, .int .u64 0, .int .u64 0, .int .u64 0, .int .u64 0, .int .u64 0, .int .u64 0, .int .u64 0, .int .u64 0, .int .u64 0, .int .u64 0, .int .u64 0, .int .u64 0, .int .u64 0, .int .u64 0, .int .u64 0] 49), (w.heap.size + 1, .cells (C4 u) 45), (w.heap.size, .cells (L4 x2 z2 x3 z3) 49)]) := (by rw [← hV58]; exact (HM56.out).store 0 (C4 le) rfl rfl : Mem w.heap.size w V57 [(g53, .cells (C4 le) 45), (g52, .cells (C4 su) 45), (g44, .cells (C4 cb) 45), (g37, .cells (C4 da) 45), (g30, .cells (C4 ee) 45), (g18, .cells (C4 bb) 45), (g17, .cells (C4 aa) 45), (g6, .cells (C4 sb) 45), (g5, .cells (C4 sa) 45), (w.heap.size + 1 + 1, .cells #[.int .u64 0, .int .u64 0, .int .u64 0, .int .u64 0, .int .u64 0, .int .u64 0, .int .u64 0, .int .u64 0, .int .u64 0, .int .u64 0, .int .u64 0, .int .u64 0, .int .u64 0, .int .u64 0, .int .u64 0, .int .u64 0] 49), (w.heap.size + 1, .cells (C4 u) 45), (w.heap.size, .cells (L4 x2 z2 x3 z3) 49)])
            clear hV58 HM56
            go_wp2_with fail
            refine region_list V57.heap.size (C := fun w' => Below V57.heap.size V57 w') [.inl (E4 aa), .inl (E4 bb), .inr (.cells #[.int .u64 (w0 aa : Nat), .int .u64 (w1 aa : Nat), .int .u64 (w2 aa : Nat), .int .u64 (w3 aa : Nat), .int .u64 (w0 bb : Nat), .int .u64 (w1 bb : Nat), .int .u64 (w2 bb : Nat), .int .u64 (w3 bb : Nat)] 45, fun b => .slice (some ⟨b, 0, none⟩) 2 2), .inl (E4 p1), .inl (E4 ee), .inl (E4 aa), .inl (E4 121665), .inl (E4 ee), .inr (.cells #[.int .u64 (w0 121665 : Nat), .int .u64 (w1 121665 : Nat), .int .u64 (w2 121665 : Nat), .int .u64 (w3 121665 : Nat), .int .u64 (w0 ee : Nat), .int .u64 (w1 ee : Nat), .int .u64 (w2 ee : Nat), .int .u64 (w3 ee : Nat)] 45, fun b => .slice (some ⟨b, 0, none⟩) 2 2), .inl (E4 ff), .inr (.cells #[.int .u64 (w0 aa : Nat), .int .u64 (w1 aa : Nat), .int .u64 (w2 aa : Nat), .int .u64 (w3 aa : Nat), .int .u64 (w0 ff : Nat), .int .u64 (w1 ff : Nat), .int .u64 (w2 ff : Nat), .int .u64 (w3 ff : Nat)] 45, fun b => .slice (some ⟨b, 0, none⟩) 2 2), .inl (E4 gg), .inr (.cells #[.int .u64 (w0 ee : Nat), .int .u64 (w1 ee : Nat), .int .u64 (w2 ee : Nat), .int .u64 (w3 ee : Nat), .int .u64 (w0 gg : Nat), .int .u64 (w1 gg : Nat), .int .u64 (w2 gg : Nat), .int .u64 (w3 gg : Nat)] 45, fun b => .slice (some ⟨b, 0, none⟩) 2 2), .inl (E4 p2), .inl (E4 su), .inl (E4 su), .inr (.cells #[.int .u64 (w0 su : Nat), .int .u64 (w1 su : Nat), .int .u64 (w2 su : Nat), .int .u64 (w3 su : Nat), .int .u64 (w0 su : Nat), .int .u64 (w1 su : Nat), .int .u64 (w2 su : Nat), .int .u64 (w3 su : Nat)] 45, fun b => .slice (some ⟨b, 0, none⟩) 2 2), .inl (E4 p3), .inl (E4 u), .inl (E4 le), .inl (E4 le), .inr (.cells #[.int .u64 (w0 u : Nat), .int .u64 (w1 u : Nat), .int .u64 (w2 u : Nat), .int .u64 (w3 u : Nat), .int .u64 (w0 le : Nat), .int .u64 (w1 le : Nat), .int .u64 (w2 le : Nat), .int .u64 (w3 le : Nat), .int .u64 (w0 le : Nat), .int .u64 (w1 le : Nat), .int .u64 (w2 le : Nat), .int .u64 (w3 le : Nat)] 45, fun b => .slice (some ⟨b, 0, none⟩) 3 3), .inl (E4 p4), .inl (.agg (L4 p1 p2 p3 p4))] [] (by kernel_rfl) (by kernel_rfl) ⟨rfl, rfl, rfl, Nat.le_refl _, fun _ _ => rfl⟩
              (fun w1 w2 h1 h2 => h1.trans (h2.mono h1.size)) (fun i h => by simp at h) ?_ ?_
            · refine ⟨?_, ?_, ?_, ?_, ?_, ?_, ?_, ?_, ?_, ?_, ?_, ?_, ?_, ?_, ?_, ?_, ?_, ?_, ?_, ?_, ?_, ?_, ?_, ?_, trivial⟩
              · intro s v hC hk hd
                have h : s.tmps[7]? = some (.pointer (some ⟨g17, 0, none⟩)) := hk 7 (by kernel_rfl)
                exact ok_load rfl rfl h (((HM59.out).keep hC).get 6 rfl) Try.underlying45 rfl (by kernel_rfl) (rfl)
              · intro s v hC hk hd
                have h : s.tmps[8]? = some (.pointer (some ⟨g18, 0, none⟩)) := hk 8 (by kernel_rfl)
                exact ok_load rfl rfl h (((HM59.out).keep hC).get 5 rfl) Try.underlying45 rfl (by kernel_rfl) (rfl)
              · intro s v hC hk hd
                have h0 : s.tmps[60]? = some (E4 aa) := hd 0 (by kernel_rfl)
                have h1 : s.tmps[61]? = some (E4 bb) := hd 1 (by kernel_rfl)
                exact ok_new hC.size rfl (by simp [execOp, Act.eval, h0, h1, go_sem])
              · intro s v hC hk hd
                obtain ⟨h0b, h0, h0l, h0h⟩ := holds_new (s.tmps[62]?) v (.cells #[.int .u64 (w0 aa : Nat), .int .u64 (w1 aa : Nat), .int .u64 (w2 aa : Nat), .int .u64 (w3 aa : Nat), .int .u64 (w0 bb : Nat), .int .u64 (w1 bb : Nat), .int .u64 (w2 bb : Nat), .int .u64 (w3 bb : Nat)] 45) (fun b => .slice (some ⟨b, 0, none⟩) 2 2) (hd 2 (by kernel_rfl))
                exact ok_call rfl (by simp [Act.eval, h0, go_sem]) (mul2e aa bb p1 l_aa l_bb e_p1 v h0b h0h)
              · intro s v hC hk hd
                have h : s.tmps[9]? = some (.pointer (some ⟨g30, 0, none⟩)) := hk 9 (by kernel_rfl)
                exact ok_load rfl rfl h (((HM59.out).keep hC).get 4 rfl) Try.underlying45 rfl (by kernel_rfl) (rfl)
              · intro s v hC hk hd
                have h : s.tmps[7]? = some (.pointer (some ⟨g17, 0, none⟩)) := hk 7 (by kernel_rfl)
                exact ok_load rfl rfl h (((HM59.out).keep hC).get 6 rfl) Try.underlying45 rfl (by kernel_rfl) (rfl)
              · intro s v hC hk hd
                exact ok_call rfl (by simp [Act.eval, go_sem]) (num_any 121665 (by decide) v)
              · intro s v hC hk hd
                have h : s.tmps[9]? = some (.pointer (some ⟨g30, 0, none⟩)) := hk 9 (by kernel_rfl)
                exact ok_load rfl rfl h (((HM59.out).keep hC).get 4 rfl) Try.underlying45 rfl (by kernel_rfl) (rfl)
              · intro s v hC hk hd
                have h0 : s.tmps[66]? = some (E4 121665) := hd 6 (by kernel_rfl)
                have h1 : s.tmps[67]? = some (E4 ee) := hd 7 (by kernel_rfl)
                exact ok_new hC.size rfl (by simp [execOp, Act.eval, h0, h1, go_sem])
              · intro s v hC hk hd
                obtain ⟨h0b, h0, h0l, h0h⟩ := holds_new (s.tmps[68]?) v (.cells #[.int .u64 (w0 121665 : Nat), .int .u64 (w1 121665 : Nat), .int .u64 (w2 121665 : Nat), .int .u64 (w3 121665 : Nat), .int .u64 (w0 ee : Nat), .int .u64 (w1 ee : Nat), .int .u64 (w2 ee : Nat), .int .u64 (w3 ee : Nat)] 45) (fun b => .slice (some ⟨b, 0, none⟩) 2 2) (hd 8 (by kernel_rfl))
                exact ok_call rfl (by simp [Act.eval, h0, go_sem]) (mul2e 121665 ee ff (by decide) l_ee e_ff v h0b h0h)
              · intro s v hC hk hd
                have h0 : s.tmps[65]? = some (E4 aa) := hd 5 (by kernel_rfl)
                have h1 : s.tmps[69]? = some (E4 ff) := hd 9 (by kernel_rfl)
                exact ok_new hC.size rfl (by simp [execOp, Act.eval, h0, h1, go_sem])
              · intro s v hC hk hd
                obtain ⟨h0b, h0, h0l, h0h⟩ := holds_new (s.tmps[70]?) v (.cells #[.int .u64 (w0 aa : Nat), .int .u64 (w1 aa : Nat), .int .u64 (w2 aa : Nat), .int .u64 (w3 aa : Nat), .int .u64 (w0 ff : Nat), .int .u64 (w1 ff : Nat), .int .u64 (w2 ff : Nat), .int .u64 (w3 ff : Nat)] 45) (fun b => .slice (some ⟨b, 0, none⟩) 2 2) (hd 10 (by kernel_rfl))
                exact ok_call rfl (by simp [Act.eval, h0, go_sem]) (add2e aa ff gg l_aa l_ff e_gg v h0b h0h)
              · intro s v hC hk hd
                have h0 : s.tmps[64]? = some (E4 ee) := hd 4 (by kernel_rfl)
                have h1 : s.tmps[71]? = some (E4 gg) := hd 11 (by kernel_rfl)
                exact ok_new hC.size rfl (by simp [execOp, Act.eval, h0, h1, go_sem])
              · intro s v hC hk hd
                obtain ⟨h0b, h0, h0l, h0h⟩ := holds_new (s.tmps[72]?) v (.cells #[.int .u64 (w0 ee : Nat), .int .u64 (w1 ee : Nat), .int .u64 (w2 ee : Nat), .int .u64 (w3 ee : Nat), .int .u64 (w0 gg : Nat), .int .u64 (w1 gg : Nat), .int .u64 (w2 gg : Nat), .int .u64 (w3 gg : Nat)] 45) (fun b => .slice (some ⟨b, 0, none⟩) 2 2) (hd 12 (by kernel_rfl))
                exact ok_call rfl (by simp [Act.eval, h0, go_sem]) (mul2e ee gg p2 l_ee l_gg e_p2 v h0b h0h)
              · intro s v hC hk hd
                have h : s.tmps[12]? = some (.pointer (some ⟨g52, 0, none⟩)) := hk 12 (by kernel_rfl)
                exact ok_load rfl rfl h (((HM59.out).keep hC).get 1 rfl) Try.underlying45 rfl (by kernel_rfl) (rfl)
              · intro s v hC hk hd
                have h : s.tmps[12]? = some (.pointer (some ⟨g52, 0, none⟩)) := hk 12 (by kernel_rfl)
                exact ok_load rfl rfl h (((HM59.out).keep hC).get 1 rfl) Try.underlying45 rfl (by kernel_rfl) (rfl)
              · intro s v hC hk hd
                have h0 : s.tmps[74]? = some (E4 su) := hd 14 (by kernel_rfl)
                have h1 : s.tmps[75]? = some (E4 su) := hd 15 (by kernel_rfl)
                exact ok_new hC.size rfl (by simp [execOp, Act.eval, h0, h1, go_sem])
              · intro s v hC hk hd
                obtain ⟨h0b, h0, h0l, h0h⟩ := holds_new (s.tmps[76]?) v (.cells #[.int .u64 (w0 su : Nat), .int .u64 (w1 su : Nat), .int .u64 (w2 su : Nat), .int .u64 (w3 su : Nat), .int .u64 (w0 su : Nat), .int .u64 (w1 su : Nat), .int .u64 (w2 su : Nat), .int .u64 (w3 su : Nat)] 45) (fun b => .slice (some ⟨b, 0, none⟩) 2 2) (hd 16 (by kernel_rfl))
                exact ok_call rfl (by simp [Act.eval, h0, go_sem]) (mul2e su su p3 l_su l_su e_p3 v h0b h0h)
              · intro s v hC hk hd
                have h : s.tmps[3]? = some (.pointer (some ⟨w.heap.size + 1, 0, none⟩)) := hk 3 (by kernel_rfl)
                exact ok_load rfl rfl h (((HM59.out).keep hC).get 10 rfl) Try.underlying45 rfl (by kernel_rfl) (rfl)
              · intro s v hC hk hd
                have h : s.tmps[13]? = some (.pointer (some ⟨g53, 0, none⟩)) := hk 13 (by kernel_rfl)
                exact ok_load rfl rfl h (((HM59.out).keep hC).get 0 rfl) Try.underlying45 rfl (by kernel_rfl) (rfl)
              · intro s v hC hk hd
                have h : s.tmps[13]? = some (.pointer (some ⟨g53, 0, none⟩)) := hk 13 (by kernel_rfl)
                exact ok_load rfl rfl h (((HM59.out).keep hC).get 0 rfl) Try.underlying45 rfl (by kernel_rfl) (rfl)
              · intro s v hC hk hd
                have h0 : s.tmps[78]? = some (E4 u) := hd 18 (by kernel_rfl)
                have h1 : s.tmps[79]? = some (E4 le) := hd 19 (by kernel_rfl)
                have h2 : s.tmps[80]? = some (E4 le) := hd 20 (by kernel_rfl)
                exact ok_new hC.size rfl (by simp [execOp, Act.eval, h0, h1, h2, go_sem])
              · intro s v hC hk hd
                obtain ⟨h0b, h0, h0l, h0h⟩ := holds_new (s.tmps[81]?) v (.cells #[.int .u64 (w0 u : Nat), .int .u64 (w1 u : Nat), .int .u64 (w2 u : Nat), .int .u64 (w3 u : Nat), .int .u64 (w0 le : Nat), .int .u64 (w1 le : Nat), .int .u64 (w2 le : Nat), .int .u64 (w3 le : Nat), .int .u64 (w0 le : Nat), .int .u64 (w1 le : Nat), .int .u64 (w2 le : Nat), .int .u64 (w3 le : Nat)] 45) (fun b => .slice (some ⟨b, 0, none⟩) 3 3) (hd 21 (by kernel_rfl))
                exact ok_call rfl (by simp [Act.eval, h0, go_sem]) (mul3e u le le p4 l_u l_le l_le e_p4 v h0b h0h)
              · intro s v hC hk hd
                have h0 : s.tmps[63]? = some (E4 p1) := hd 3 (by kernel_rfl)
                have h1 : s.tmps[73]? = some (E4 p2) := hd 13 (by kernel_rfl)
                have h2 : s.tmps[77]? = some (E4 p3) := hd 17 (by kernel_rfl)
                have h3 : s.tmps[82]? = some (E4 p4) := hd 22 (by kernel_rfl)
                exact ok_value rfl (by simp [execOp, Act.eval, h0, h1, h2, h3, go_sem])
            · intro nb wA60 hC hf hne
              have M61 := (HM59.out).keep hC
              clear hf hne hC
              simp [valsOf, valOf, putAll, Act.put]
              have HM : Hid (Mem w.heap.size w wA60 [(g53, .cells (C4 le) 45), (g52, .cells (C4 su) 45), (g44, .cells (C4 cb) 45), (g37, .cells (C4 da) 45), (g30, .cells (C4 ee) 45), (g18, .cells (C4 bb) 45), (g17, .cells (C4 aa) 45), (g6, .cells (C4 sb) 45), (g5, .cells (C4 sa) 45), (w.heap.size + 1 + 1, .cells #[.int .u64 0, .int .u64 0, .int .u64 0, .int .u64 0, .int .u64 0, .int .u64 0, .int .u64 0, .int .u64 0, .int .u64 0, .int .u64 0, .int .u64 0, .int .u64 0, .int .u64 0, .int .u64 0, .int .u64 0, .int .u64 0] 49), (w.heap.size + 1, .cells (C4 u) 45), (w.heap.size, .cells (L4 x2 z2 x3 z3) 49)]) := M61
              refine wpList_store_blk (b := w.heap.size + 1 + 1) rfl rfl rfl rfl ((HM.out).get 9 rfl) (by kernel_rfl) (rfl) (rfl) ((by simp [Value.oneCell'])) ?_
              simp only [Act.put]
              generalize hV63 : World.setCells wA60 (w.heap.size + 1 + 1) 0 _ = V62
              have HM64 : Hid (Mem w.heap.size w V62 [(g53, .cells (C4 le) 45), (g52, .cells (C4 su) 45), (g44, .cells (C4 cb) 45), (g37, .cells (C4 da) 45), (g30, .cells (C4 ee) 45), (g18, .cells (C4 bb) 45), (g17, .cells (C4 aa) 45), (g6, .cells (C4 sb) 45), (g5, .cells (C4 sa) 45), (w.heap.size + 1 + 1, .cells (L4 p1 p2 p3 p4) 49), (w.heap.size + 1, .cells (C4 u) 45), (w.heap.size, .cells (L4 x2 z2 x3 z3) 49)]) := (by rw [← hV63]; exact (HM.out).store 9 (L4 p1 p2 p3 p4) rfl rfl : Mem w.heap.size w V62 [(g53, .cells (C4 le) 45), (g52, .cells (C4 su) 45), (g44, .cells (C4 cb) 45), (g37, .cells (C4 da) 45), (g30, .cells (C4 ee) 45), (g18, .cells (C4 bb) 45), (g17, .cells (C4 aa) 45), (g6, .cells (C4 sb) 45), (g5, .cells (C4 sa) 45), (w.heap.size + 1 + 1, .cells (L4 p1 p2 p3 p4) 49), (w.heap.size + 1, .cells (C4 u) 45), (w.heap.size, .cells (L4 x2 z2 x3 z3) 49)])
              clear hV63 HM
              go_wp2_with fail
              exact bodyPost_ret (v := .agg (L4 p1 p2 p3 p4)) (results_blk (b := w.heap.size + 1 + 1) Try.results19 rfl ((HM64.out).get 9 rfl) Try.underlying49 rfl (by kernel_rfl) rfl) rfl ⟨rfl, (HM64.out).below⟩
end Go.Proofs.Ytfciodbgjljjhaa
