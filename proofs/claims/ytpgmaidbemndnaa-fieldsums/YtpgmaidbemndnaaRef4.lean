/- The walk of Sub of the document's answer of layer 1. -/
import Derived.Test.YtpgmaidbemndnaaRef3
namespace Go.Proofs.Ytpgmaidbemndnaa
open Go.RowKit

set_option maxRecDepth 100000 in
set_option maxHeartbeats 8000000 in
theorem rsub_raw (S T : Nat → Nat) (hT : ∀ j, T j < 65536) (n : Nat) (c1 c2 : Array Value) (hc1 : c1 = ca 16 S) (hc2 : c2 = ca 16 T)
    (k1 : ∀ w, Calls Try.prog 21 #[.agg (ca 16 S), .agg (ca 16 (bd pd T))] w fun e w' => e = .returned (.agg (ca 16 (dg n))) ∧ Below w.heap.size w w') (w : World) :
    Calls Try.prog 15 #[.agg c1, .agg c2] w fun e w' => e = .returned (.agg (ca 16 (dg n))) ∧ Below w.heap.size w w' := by
  have K1 : Hid _ := k1
  have HT : Hid _ := hT
  have C1 : Hid _ := hc1
  have C2 : Hid _ := hc2
  clear k1 hT hc1 hc2
  go_enter Try.func15, Try.ntmps15
  go_wp2_with fail
  generalize hW : (((w.alloc (Obj.cells c1 33)).alloc (Obj.cells c2 33)).alloc _).alloc _ = W
  have X0 : Hid (W.heap[w.heap.size]? = some (.cells (ca 16 S) 33)) := (by rw [← hW, heap_old _ _ (by simp; omega), heap_old _ _ (by simp; omega), heap_old _ _ (by simp), ← C1.out]; exact heap_new _ _ : W.heap[w.heap.size]? = some (.cells (ca 16 S) 33))
  have Y0 : Hid (W.heap[w.heap.size + 1]? = some (.cells (ca 16 T) 33)) := (by rw [← hW, heap_old _ _ (by simp), heap_old _ _ (by simp), ← C2.out]; exact heap_new' _ _ (by simp) : W.heap[w.heap.size + 1]? = some (.cells (ca 16 T) 33))
  obtain ⟨zs, Z0', hzs⟩ : ∃ zs, W.heap[w.heap.size + 1 + 1]? = some (.cells zs 33) ∧ zs.size = 16 := ⟨_, by rw [← hW]; exact (heap_old _ _ (by simp)).trans (heap_new' _ _ (by simp)), rfl⟩
  have G0 : Hid (W.heap[w.heap.size + 1 + 1 + 1]? = some (.cells (ca 16 (fun j => if j < 0 then bd pd T j else 0)) 33)) := (by rw [← hW]; exact (heap_new' _ _ (by simp)).trans (by rfl) : W.heap[w.heap.size + 1 + 1 + 1]? = some (.cells (ca 16 (fun j => if j < 0 then bd pd T j else 0)) 33))
  have B0 : Hid (Below w.heap.size w W) := (by rw [← hW]; exact ((((Below.refl _ _).alloc (Nat.le_refl _) _).alloc (by simp) _).alloc (by simp; omega) _).alloc (by simp; omega) _ : Below w.heap.size w W)
  have Z0 : Hid _ := Z0'
  have SZ : Hid _ := hzs
  clear hW Z0' hzs
  go_loopw [6, 7, 8] (fun l i _ wx => ∃ k : Nat, k ≤ 16 ∧ i = .int .i64 k ∧ l = .int .u64 (bw pd T k : Nat) ∧ wx.heap[w.heap.size + 1 + 1 + 1]? = some (.cells (ca 16 (fun j => if j < k then bd pd T j else 0)) 33) ∧ wx.heap[w.heap.size]? = some (.cells (ca 16 S) 33) ∧ wx.heap[w.heap.size + 1]? = some (.cells (ca 16 T) 33) ∧ wx.heap[w.heap.size + 1 + 1]? = some (.cells zs 33) ∧ Below w.heap.size w wx) (fun _ i _ _ => 16 - (intOf i).toNat)
  case atStart => exact ⟨0, by omega, rfl, rfl, G0.out, X0.out, Y0.out, Z0.out, B0.out⟩
  case round =>
    obtain ⟨k, hk, rfl, rfl, G, X, Y, Z, B⟩ := hrel
    have G1 : Hid _ := G
    have X1 : Hid _ := X
    have Y1 : Hid _ := Y
    have Z1 : Hid _ := Z
    have B1 : Hid _ := B
    clear G X Y Z B G0 X0 Y0 Z0 B0
    by_cases hlt2 : k < 16
    · have k16 : (k : Int) < 16 := by omega
      have hl := bw_le pd T k
      have hxd := HT.out k
      have hpd := pd_lt k
      have q := (cell_of Y1.out k).trans (ca_get 16 _ k hlt2)
      have ebd : Hid (bd pd T k = (pd k + 65536 - T k - bw pd T k) % 65536) := rfl
      have ebw : Hid (bw pd T (k + 1) = 1 - (pd k + 65536 - T k - bw pd T k) / 65536) := rfl
      have KP := fun v => prime_any k v
      generalize bw pd T k = l at *
      generalize T k = x at *
      generalize pd k = p at *
      obtain ⟨D, hD⟩ : ∃ D, p + 65536 - x - l = D := ⟨_, rfl⟩
      rw [hD] at ebd ebw
      have e1 : IntKind.u64.wrap ((p : Int) + 65536) = ((p + 65536 : Nat) : Int) := wrapN (p + 65536) (by omega)
      have e2 : IntKind.u64.wrap (((p + 65536 : Nat) : Int) - (x : Int)) = ((p + 65536 - x : Nat) : Int) := by
        rw [show ((p + 65536 : Nat) : Int) - (x : Int) = ((p + 65536 - x : Nat) : Int) by omega]; exact wrapN _ (by omega)
      have e3 : IntKind.u64.wrap (((p + 65536 - x : Nat) : Int) - (l : Int)) = (D : Int) := by
        rw [show ((p + 65536 - x : Nat) : Int) - (l : Int) = (D : Int) by omega]; exact wrapN _ (by omega)
      have hDl : D < 131072 := by omega
      obtain ⟨y, hy⟩ : ∃ y, p + 65536 - x = y := ⟨_, rfl⟩
      obtain ⟨z, hz'⟩ : ∃ z, p + 65536 = z := ⟨_, rfl⟩
      rw [hz'] at e1 e2
      rw [show z - x = y by omega] at e2
      rw [hy] at e3
      have E1 : Hid _ := e1
      have E2 : Hid _ := e2
      have E3 : Hid _ := e3
      have KPP : Hid _ := KP
      clear e1 e2 e3 hD hy hz' KP hl hxd hpd
      go_upto_region 6 with fail
      refine region_list wr.heap.size (C := fun w' => Below wr.heap.size wr w') [.inl (.int .i64 (k : Nat)), .inl (.int .u64 (p : Nat)), .inl (.int .u64 (z : Nat)), .inl (.int .i64 (k : Nat)), .inl (.pointer (some ⟨w.heap.size + 1, k, none⟩)), .inl (.int .u64 (x : Nat)), .inl (.int .u64 (y : Nat)), .inl (.int .u64 (l : Nat)), .inl (.int .u64 (D : Nat)), .inl (.int .u64 (D : Nat))] [] (by kernel_rfl) (by kernel_rfl) ⟨rfl, rfl, rfl, Nat.le_refl _, fun _ _ => rfl⟩
        (fun w1 w2 h1 h2 => h1.trans (h2.mono h1.size)) (fun i h => by simp at h) ?_ ?_
      · refine ⟨?_, ?_, ?_, ?_, ?_, ?_, ?_, ?_, ?_, ?_, trivial⟩
        · intro s v hC hk hd
          have h : s.tmps[7]? = some (.int .i64 (k : Nat)) := hk 7 (by kernel_rfl)
          exact ok_value rfl (by simp [execOp, Act.eval, h])
        · intro s v hC hk hd
          have h : s.tmps[14]? = some (.int .i64 (k : Nat)) := hd 0 (by kernel_rfl)
          exact ok_call rfl (by simp [Act.eval, h, go_sem]) (KPP.out v)
        · intro s v hC hk hd
          have h : s.tmps[15]? = some (.int .u64 (p : Nat)) := hd 1 (by kernel_rfl)
          exact ok_value rfl (by simp [execOp, Act.eval, h, go_sem, E1.out])
        · intro s v hC hk hd
          have h : s.tmps[7]? = some (.int .i64 (k : Nat)) := hk 7 (by kernel_rfl)
          exact ok_value rfl (by simp [execOp, Act.eval, h])
        · intro s v hC hk hd
          have h : s.tmps[3]? = some (.pointer (some ⟨w.heap.size + 1, 0, none⟩)) := hk 3 (by kernel_rfl)
          have h2 : s.tmps[17]? = some (.int .i64 (k : Nat)) := hd 3 (by kernel_rfl)
          exact ok_value rfl (by simp [execOp, Act.eval, h, h2, go_sem, k16])
        · intro s v hC hk hd
          have h : s.tmps[18]? = some (.pointer (some ⟨w.heap.size + 1, k, none⟩)) := hd 4 (by kernel_rfl)
          have hc := (hC.cell (p := ⟨w.heap.size + 1, k, none⟩) (lt_of_block Y1.out)).trans q
          exact ok_value rfl (by simp [execOp, Act.eval, h, go_sem, hc])
        · intro s v hC hk hd
          have h : s.tmps[16]? = some (.int .u64 (z : Nat)) := hd 2 (by kernel_rfl)
          have h2 : s.tmps[19]? = some (.int .u64 (x : Nat)) := hd 5 (by kernel_rfl)
          exact ok_value rfl (by simp [execOp, Act.eval, h, h2, go_sem, E2.out])
        · intro s v hC hk hd
          have h : s.tmps[6]? = some (.int .u64 (l : Nat)) := hk 6 (by kernel_rfl)
          exact ok_value rfl (by simp [execOp, Act.eval, h])
        · intro s v hC hk hd
          have h : s.tmps[20]? = some (.int .u64 (y : Nat)) := hd 6 (by kernel_rfl)
          have h2 : s.tmps[21]? = some (.int .u64 (l : Nat)) := hd 7 (by kernel_rfl)
          exact ok_value rfl (by simp [execOp, Act.eval, h, h2, go_sem, E3.out])
        · intro s v hC hk hd
          have h : s.tmps[22]? = some (.int .u64 (D : Nat)) := hd 8 (by kernel_rfl)
          exact ok_value rfl (by simp [execOp, Act.eval, h])
      · intro b wA hC _ _
        simp [valsOf, valOf, putAll, Act.put]
        have G2 : Hid _ := keep hC G1.out
        have X2 : Hid _ := keep hC X1.out
        have Y2 : Hid _ := keep hC Y1.out
        have Z2 : Hid _ := keep hC Z1.out
        have B2 : Hid (Below w.heap.size w wA) := B1.out.trans (hC.mono B1.out.size)
        clear hC G1 X1 Y1 Z1 B1 q
        have q := (cell_of G2.out k).trans (ca_get 16 _ k hlt2)
        have f := frozen_of G2.out k
        obtain ⟨d, hd⟩ : ∃ d, D % 65536 = d := ⟨_, rfl⟩
        obtain ⟨l', hl'⟩ : ∃ l', 1 - D / 65536 = l' := ⟨_, rfl⟩
        have e4 : bits .and .u64 (D : Int) 65535 = (d : Int) := by rw [← hd]; exact and_16 D (by omega)
        have e5 : IntKind.u64.wrap (1 - (D : Int) / 65536) = (l' : Int) := by
          rw [show (1 - (D : Int) / 65536) = (l' : Int) by omega]; exact wrapN _ (by omega)
        have EBD : Hid (bd pd T k = d) := (by rw [← hd]; exact ebd.out : bd pd T k = d)
        have EBW : Hid (bw pd T (k + 1) = l') := (by rw [← hl']; exact ebw.out : bw pd T (k + 1) = l')
        clear hd hl' ebd ebw hDl E1 E2 E3 KPP
        go_wp2_with fail
        go_roundw
        case rel =>
          refine ⟨k + 1, by omega, by go_num, int_eq (by rw [EBW.out]), ?_, (heap_set_ne _ _ (by omega)).trans X2.out, (heap_set_ne _ _ (by omega)).trans Y2.out, (heap_set_ne _ _ (by omega)).trans Z2.out, B2.out.setCell (by simp; omega) _⟩
          refine (heap_set G2.out k _).trans ?_
          refine cells_eq ((ca_set 16 _ k d hlt2).trans (ca_ext fun j _ => ?_))
          by_cases e : j = k
          · rw [if_pos e, if_pos (by omega), e]; exact EBD.out.symm
          · rw [if_neg e]
            by_cases e' : j < k
            · rw [if_pos e', if_pos (by omega)]
            · rw [if_neg e', if_neg (by omega)]
        case measure => simp [intOf]; omega
    · have e : k = 16 := by omega
      subst e
      have G2 : Hid (wr.heap[w.heap.size + 1 + 1 + 1]? = some (.cells (ca 16 (bd pd T)) 33)) := (G1.out.trans (cells_eq (ca_ext fun j hj => by rw [if_pos hj])) : wr.heap[w.heap.size + 1 + 1 + 1]? = some (.cells (ca 16 (bd pd T)) 33))
      clear hk hlt2 G1
      go_upto_region 9 with fail
      refine wp_region_list ?_
      refine wpList_load_blk (b := w.heap.size) rfl rfl rfl X1.out Try.underlying33 rfl (by kernel_rfl) (ca_size _ _) ?_
      simp only [Act.put]
      refine wpList_load_blk (b := w.heap.size + 1 + 1 + 1) rfl rfl rfl G2.out Try.underlying33 rfl (by kernel_rfl) (ca_size _ _) ?_
      go_wp2_with fail
      refine (K1.out _).mono ?_
      rintro e u ⟨rfl, hb⟩
      have Z2 : Hid _ := keep hb Z1.out
      have B2 : Hid (Below w.heap.size w u) := B1.out.trans (hb.mono B1.out.size)
      clear hb
      go_wp2_with (refine wpList_store_blk (b := w.heap.size + 1 + 1) rfl rfl rfl rfl Z2.out (by kernel_rfl) SZ.out (ca_size _ _) (ca_one _ _) ?_)
      refine bodyPost_ret (v := .agg (ca 16 (dg n))) (results_blk (b := w.heap.size + 1 + 1) Try.results15 rfl (heap_setCells_all _ Z2.out (by rw [SZ.out, ca_size])) Try.underlying33 rfl (by kernel_rfl) (ca_size _ _)) rfl ⟨rfl, ?_⟩
      exact below_setCells (by omega) _ _ _ B2.out

theorem bd_prime (y : Nat) (hy : y ≤ pN) : ∀ j, j < 16 → bd pd (dg y) j = dg (pN - y) j := by
  have hq : y < q256 := Nat.lt_of_le_of_lt hy (by decide)
  have h := bw_spec pd (dg y) 16 (fun j _ => pd_lt j) (fun j _ => dg_lt y j)
  have hl := psum_lt (h := bd pd (dg y)) 16 (fun j _ => bd_lt _ _ j)
  rw [pd_psum, psum_dg, show (65536 : Nat) ^ 16 = q256 from rfl, Nat.mod_eq_of_lt hq] at h
  rw [show (65536 : Nat) ^ 16 = q256 from rfl] at hl
  have hb := bw_le pd (dg y) 16
  have hp : pN < q256 := by decide
  have e2 : psum (bd pd (dg y)) 16 = pN - y := by
    generalize bw pd (dg y) 16 = b at *
    have : b = 0 ∨ b = 1 := by omega
    rcases this with rfl | rfl <;> omega
  intro j hj
  rw [← e2]
  exact (dg_eq 16 j hj (fun j _ => bd_lt _ _ j)).symm
theorem rsub_any (x y : Nat) (hx : x < pN) (hy : y < pN) (w : World) :
    Calls Try.prog 15 #[.agg (ca 16 (dg x)), .agg (ca 16 (dg y))] w fun e w' => e = .returned (.agg (ca 16 (dg ((x + (pN - y)) % pN)))) ∧ Below w.heap.size w w' := by
  have k1 := fun w => radd_any x (pN - y) (Nat.lt_trans hx (by decide)) (Nat.lt_of_le_of_lt (Nat.sub_le _ _) (by decide)) w
  rw [← ca_ext (bd_prime y (Nat.le_of_lt hy))] at k1
  exact rsub_raw (dg x) (dg y) (dg_lt y) _ _ _ rfl rfl k1 w
end Go.Proofs.Ytpgmaidbemndnaa
