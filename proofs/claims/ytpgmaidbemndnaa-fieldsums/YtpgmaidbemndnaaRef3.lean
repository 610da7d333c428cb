/- The walk of Add of the document's answer of layer 1. -/
import Derived.Test.YtpgmaidbemndnaaRef2
namespace Go.Proofs.Ytpgmaidbemndnaa
open Go.RowKit

set_option maxRecDepth 100000 in
set_option maxHeartbeats 4000000 in
theorem radd_raw (F G : Nat → Nat) (hF : ∀ j, F j < 65536) (hG : ∀ j, G j < 65536) (n : Nat) (c1 c2 : Array Value) (hc1 : c1 = ca 16 F) (hc2 : c2 = ca 16 G)
    (k1 : ∀ w, Calls Try.prog 27 #[.agg (ca 16 (fun j => F j + G j))] w fun e w' => e = .returned (.agg (ca 16 (dg n))) ∧ Below w.heap.size w w') (w : World) :
    Calls Try.prog 21 #[.agg c1, .agg c2] w fun e w' => e = .returned (.agg (ca 16 (dg n))) ∧ Below w.heap.size w w' := by
  have K1 : Hid _ := k1
  have HF : Hid _ := hF
  have HG : Hid _ := hG
  have C1 : Hid _ := hc1
  have C2 : Hid _ := hc2
  clear k1 hF hG hc1 hc2
  go_enter Try.func21, Try.ntmps21
  go_wp2_with fail
  go_loopw [5] (fun t wr => ∃ (k : Nat) (zs : Array Value), k ≤ 16 ∧ t = .int .i64 k ∧ wr.heap[w.heap.size]? = some (.cells (ca 16 (fun j => if j < k then F j + G j else F j)) 33) ∧ wr.heap[w.heap.size + 1]? = some (.cells (ca 16 G) 33) ∧ (wr.heap[w.heap.size + 1 + 1]? = some (.cells zs 33) ∧ zs.size = 16) ∧ Below w.heap.size w wr) (fun t _ => 16 - (intOf t).toNat)
  case atStart =>
    refine ⟨0, _, by omega, rfl, ?_, ?_, ⟨heap_new' _ _ (by simp), rfl⟩, (((Below.refl _ _).alloc (Nat.le_refl _) _).alloc (by simp) _).alloc (by simp; omega) _⟩
    · rw [heap_old _ _ (by simp; omega), heap_old _ _ (by simp), C1.out]; exact (heap_new _ _).trans (cells_eq (ca_ext fun j _ => by rw [if_neg (by omega)]))
    · rw [heap_old _ _ (by simp), C2.out]; exact heap_new' _ _ (by simp)
  case round =>
    obtain ⟨k, zs, hk, rfl, X, Y, ⟨Z, hzs⟩, B⟩ := hrel
    have X1 : Hid _ := X
    have Y1 : Hid _ := Y
    have Z1 : Hid _ := Z
    have B1 : Hid _ := B
    have SZ : Hid _ := hzs
    clear X Y Z B hzs
    by_cases hlt : k < 16
    · have k16 : (k : Int) < 16 := by omega
      have qx := (cell_of X1.out k).trans (ca_get 16 _ k hlt)
      have qy := (cell_of Y1.out k).trans (ca_get 16 _ k hlt)
      simp only [Nat.lt_irrefl, if_false] at qx
      have h1 := HF.out k
      have h2 := HG.out k
      obtain ⟨s, hs⟩ : ∃ s, F k + G k = s := ⟨_, rfl⟩
      have HS : Hid _ := hs
      generalize hfx : F k = x at *
      generalize hgy : G k = y at *
      have HFX : Hid _ := hfx
      have HGY : Hid _ := hgy
      clear hfx hgy
      have e1 : IntKind.u64.wrap ((x : Int) + (y : Int)) = (s : Int) := by rw [addN, wrapN _ (by omega), hs]
      have E1 : Hid _ := e1
      clear e1 hs h1 h2
      go_upto_region 4 with fail
      refine region_list wr.heap.size (C := fun w' => Below wr.heap.size wr w') [.inl (.int .i64 (k : Nat)), .inl (.pointer (some ⟨w.heap.size, k, none⟩)), .inl (.int .u64 (x : Nat)), .inl (.int .i64 (k : Nat)), .inl (.pointer (some ⟨w.heap.size + 1, k, none⟩)), .inl (.int .u64 (y : Nat)), .inl (.int .u64 (s : Nat)), .inl (.pointer (some ⟨w.heap.size, k, none⟩))] [] (by kernel_rfl) (by kernel_rfl) ⟨rfl, rfl, rfl, Nat.le_refl _, fun _ _ => rfl⟩
        (fun w1 w2 h1 h2 => h1.trans (h2.mono h1.size)) (fun i h => by simp at h) ?_ ?_
      · refine ⟨?_, ?_, ?_, ?_, ?_, ?_, ?_, ?_, trivial⟩
        · intro s v hC hk hd
          have h : s.tmps[5]? = some (.int .i64 (k : Nat)) := hk 5 (by kernel_rfl)
          exact ok_value rfl (by simp [execOp, Act.eval, h])
        · intro s v hC hk hd
          have h : s.tmps[2]? = some (.pointer (some ⟨w.heap.size, 0, none⟩)) := hk 2 (by kernel_rfl)
          have h2 : s.tmps[10]? = some (.int .i64 (k : Nat)) := hd 0 (by kernel_rfl)
          exact ok_value rfl (by simp [execOp, Act.eval, h, h2, go_sem, k16])
        · intro s v hC hk hd
          have h : s.tmps[11]? = some (.pointer (some ⟨w.heap.size, k, none⟩)) := hd 1 (by kernel_rfl)
          have hc := (hC.cell (p := ⟨w.heap.size, k, none⟩) (lt_of_block X1.out)).trans qx
          exact ok_value rfl (by simp [execOp, Act.eval, h, go_sem, hc])
        · intro s v hC hk hd
          have h : s.tmps[5]? = some (.int .i64 (k : Nat)) := hk 5 (by kernel_rfl)
          exact ok_value rfl (by simp [execOp, Act.eval, h])
        · intro s v hC hk hd
          have h : s.tmps[3]? = some (.pointer (some ⟨w.heap.size + 1, 0, none⟩)) := hk 3 (by kernel_rfl)
          have h2 : s.tmps[13]? = some (.int .i64 (k : Nat)) := hd 3 (by kernel_rfl)
          exact ok_value rfl (by simp [execOp, Act.eval, h, h2, go_sem, k16])
        · intro s v hC hk hd
          have h : s.tmps[14]? = some (.pointer (some ⟨w.heap.size + 1, k, none⟩)) := hd 4 (by kernel_rfl)
          have hc := (hC.cell (p := ⟨w.heap.size + 1, k, none⟩) (lt_of_block Y1.out)).trans qy
          exact ok_value rfl (by simp [execOp, Act.eval, h, go_sem, hc])
        · intro s v hC hk hd
          have h : s.tmps[12]? = some (.int .u64 (x : Nat)) := hd 2 (by kernel_rfl)
          have h2 : s.tmps[15]? = some (.int .u64 (y : Nat)) := hd 5 (by kernel_rfl)
          exact ok_value rfl (by simp [execOp, Act.eval, h, h2, go_sem, E1.out])
        · intro s v hC hk hd
          have h : s.tmps[2]? = some (.pointer (some ⟨w.heap.size, 0, none⟩)) := hk 2 (by kernel_rfl)
          have h2 : s.tmps[10]? = some (.int .i64 (k : Nat)) := hd 0 (by kernel_rfl)
          exact ok_value rfl (by simp [execOp, Act.eval, h, h2, go_sem, k16])
      · intro b wA hC _ _
        simp [valsOf, valOf, putAll, Act.put]
        have X2 : Hid _ := keep hC X1.out
        have Y2 : Hid _ := keep hC Y1.out
        have Z2 : Hid _ := keep hC Z1.out
        have B2 : Hid (Below w.heap.size w wA) := B1.out.trans (hC.mono B1.out.size)
        clear hC X1 Y1 Z1 B1 qx qy
        have q := (cell_of X2.out k).trans (ca_get 16 _ k hlt)
        have f := frozen_of X2.out k
        clear E1
        go_wp2_with fail
        go_roundw
        case rel =>
          refine ⟨k + 1, zs, by omega, by go_num, (heap_set X2.out k _).trans (cells_eq ((ca_set 16 _ k s hlt).trans (ca_ext fun j _ => ?_))), (heap_set_ne _ _ (by omega)).trans Y2.out, ⟨(heap_set_ne _ _ (by omega)).trans Z2.out, SZ.out⟩, B2.out.setCell (by simp) _⟩
          by_cases e : j = k
          · rw [if_pos e, if_pos (by omega), e]; rw [HFX.out, HGY.out]; exact HS.out.symm
          · rw [if_neg e]
            by_cases e' : j < k
            · rw [if_pos e', if_pos (by omega)]
            · rw [if_neg e', if_neg (by omega)]
        case measure => simp [intOf]; omega
    · have e : k = 16 := by omega
      subst e
      have X2 : Hid (wr.heap[w.heap.size]? = some (.cells (ca 16 (fun j => F j + G j)) 33)) := (X1.out.trans (cells_eq (ca_ext fun j hj => by rw [if_pos hj])) : wr.heap[w.heap.size]? = some (.cells (ca 16 (fun j => F j + G j)) 33))
      clear hk hlt X1
      go_upto_region 5 with fail
      refine wp_region_list ?_
      refine wpList_load_blk (b := w.heap.size) rfl rfl rfl X2.out Try.underlying33 rfl (by kernel_rfl) (ca_size _ _) ?_
      simp only [Act.put]
      go_wp2_with fail
      refine (K1.out _).mono ?_
      rintro e u ⟨rfl, hb⟩
      have Z2 : Hid _ := keep hb Z1.out
      have B2 : Hid (Below w.heap.size w u) := B1.out.trans (hb.mono B1.out.size)
      clear hb
      go_wp2_with (refine wpList_store_blk (b := w.heap.size + 1 + 1) rfl rfl rfl rfl Z2.out (by kernel_rfl) SZ.out (ca_size _ _) (ca_one _ _) ?_)
      refine bodyPost_ret (v := .agg (ca 16 (dg n))) (results_blk (b := w.heap.size + 1 + 1) Try.results21 rfl (heap_setCells_all _ Z2.out (by rw [SZ.out, ca_size])) Try.underlying33 rfl (by kernel_rfl) (ca_size _ _)) rfl ⟨rfl, ?_⟩
      exact below_setCells (by omega) _ _ _ B2.out

theorem radd_any (x y : Nat) (hx : x < q256) (hy : y < q256) (w : World) :
    Calls Try.prog 21 #[.agg (ca 16 (dg x)), .agg (ca 16 (dg y))] w fun e w' => e = .returned (.agg (ca 16 (dg ((x + y) % pN)))) ∧ Below w.heap.size w w' := by
  have k1 := fun w => full_any (fun j => dg x j + dg y j) (fun j _ => by have := dg_lt x j; have := dg_lt y j; omega) w
  rw [psum_add, psum_dg, psum_dg, show (65536 : Nat) ^ 16 = q256 from rfl, Nat.mod_eq_of_lt hx, Nat.mod_eq_of_lt hy] at k1
  exact radd_raw (dg x) (dg y) (dg_lt x) (dg_lt y) _ _ _ rfl rfl k1 w
end Go.Proofs.Ytpgmaidbemndnaa
