/- The walk of Of of the document's answer of layer 1. -/
import Derived.Test.YtpgmaidbemndnaaRef2
import Derived.Test.YtpgmaidbemndnaaByteNum
namespace Go.Proofs.Ytpgmaidbemndnaa
open Go.RowKit

/-- Two bytes a digit. -/
def kd (ks : List Nat) (j : Nat) : Nat := ks.getD (2 * j) 0 + ks.getD (2 * j + 1) 0 * 256
/-- Without the highest bit. -/
def kd' (ks : List Nat) (j : Nat) : Nat := if j = 15 then kd ks 15 % 32768 else kd ks j
theorem and_15 (s : Nat) (h : s < 18446744073709551616) : bits .and .u64 (s : Int) 32767 = ((s % 32768 : Nat) : Int) := by
  have e := u64_and_nat s 32767 h (by omega)
  rw [show s &&& 32767 = s % 32768 from Nat.and_two_pow_sub_one_eq_mod s 15] at e
  exact e

set_option maxRecDepth 100000 in
set_option maxHeartbeats 8000000 in
theorem rof_raw (ks : List Nat) (hb : Bytes ks) (n : Nat) (c : Array Value) (hc : c = cs8 ks)
    (k1 : ∀ w, Calls Try.prog 27 #[.agg (ca 16 (kd' ks))] w fun e w' => e = .returned (.agg (ca 16 (dg n))) ∧ Below w.heap.size w w') (w : World) :
    Calls Try.prog 9 #[.agg c] w fun e w' => e = .returned (.agg (ca 16 (dg n))) ∧ Below w.heap.size w w' := by
  have K1 : Hid _ := k1
  have HK : Hid _ := hb
  have HC : Hid _ := hc
  clear k1 hb hc
  go_enter Try.func9, Try.ntmps9
  go_upto_region 2 with (refine wpList_store_blk (b := w.heap.size + 1 + 1) rfl rfl rfl rfl (heap_new' _ _ (by simp)) (by kernel_rfl) rfl rfl (by simp [Value.oneCell']) ?_)
  generalize hW : World.setCells _ _ 0 _ = W
  have X0 : Hid (W.heap[w.heap.size]? = some (.cells (cs8 ks) 22)) := (by rw [← hW]; exact (heap_setCells_ne (by omega) _ _ _).trans ((heap_old _ _ (by simp; omega)).trans ((heap_old _ _ (by simp)).trans ((heap_new _ _).trans (cells_eq HC.out)))) : W.heap[w.heap.size]? = some (.cells (cs8 ks) 22))
  obtain ⟨zs, Z0', hzs⟩ : ∃ zs, W.heap[w.heap.size + 1]? = some (.cells zs 33) ∧ zs.size = 16 := ⟨_, by rw [← hW]; exact (heap_setCells_ne (by omega) _ _ _).trans ((heap_old _ _ (by simp)).trans (heap_new' _ _ (by simp))), rfl⟩
  have A0 : Hid (W.heap[w.heap.size + 1 + 1]? = some (.cells (ca 16 (fun j => if j < 0 then kd ks j else 0)) 33)) := (by rw [← hW]; exact (heap_setCells_all _ (heap_new' _ _ (by simp)) rfl).trans (by rfl) : W.heap[w.heap.size + 1 + 1]? = some (.cells (ca 16 (fun j => if j < 0 then kd ks j else 0)) 33))
  have B0 : Hid (Below w.heap.size w W) := (by rw [← hW]; exact below_setCells (by omega) _ _ _ ((((Below.refl _ _).alloc (Nat.le_refl _) _).alloc (by simp) _).alloc (by simp; omega) _) : Below w.heap.size w W)
  have Z0 : Hid _ := Z0'
  have SZ : Hid _ := hzs
  clear hW Z0' hzs
  go_wp2_with fail
  go_loopw [4] (fun t wr => ∃ k : Nat, k ≤ 16 ∧ t = .int .i64 k ∧ wr.heap[w.heap.size]? = some (.cells (cs8 ks) 22) ∧ wr.heap[w.heap.size + 1]? = some (.cells zs 33) ∧ wr.heap[w.heap.size + 1 + 1]? = some (.cells (ca 16 (fun j => if j < k then kd ks j else 0)) 33) ∧ Below w.heap.size w wr) (fun t _ => 16 - (intOf t).toNat)
  case atStart => exact ⟨0, by omega, rfl, X0.out, Z0.out, A0.out, B0.out⟩
  case round =>
    obtain ⟨k, hk, rfl, X, Z, A, B⟩ := hrel
    have X1 : Hid _ := X
    have Z1 : Hid _ := Z
    have A1 : Hid _ := A
    have B1 : Hid _ := B
    clear X Z A B X0 Z0 A0 B0
    by_cases hlt : k < 16
    · have k16 : (k : Int) < 16 := by omega
      have i2 : 2 * (k : Int) < 32 := by omega
      have i3 : 2 * (k : Int) + 1 < 32 := by omega
      have i20 : (0 : Int) ≤ 2 * (k : Int) := by omega
      have i30 : (0 : Int) ≤ 2 * (k : Int) + 1 := by omega
      have t2 : (2 * (k : Int)).toNat = 2 * k := by omega
      have t3 : (2 * (k : Int) + 1).toNat = 2 * k + 1 := by omega
      have w2 : IntKind.i64.wrap (2 * (k : Int)) = 2 * (k : Int) := by rw [IntKind.wrap_i64]; omega
      have w3 : IntKind.i64.wrap (2 * (k : Int) + 1) = 2 * (k : Int) + 1 := by rw [IntKind.wrap_i64]; omega
      have W2 : Hid _ := w2
      have W3 : Hid _ := w3
      clear w2 w3
      have qx := (cell_of X1.out (2 * k)).trans (cs8_get ks (2 * k) (by rw [HK.out.1]; omega))
      have qy := (cell_of X1.out (2 * k + 1)).trans (cs8_get ks (2 * k + 1) (by rw [HK.out.1]; omega))
      have h1 := HK.out.2 (2 * k)
      have h2 := HK.out.2 (2 * k + 1)
      obtain ⟨s, hs⟩ : ∃ s, kd ks k = s := ⟨_, rfl⟩
      have hs2 : ks.getD (2 * k) 0 + ks.getD (2 * k + 1) 0 * 256 = s := hs
      have HS : Hid _ := hs
      generalize ks.getD (2 * k) 0 = x at *
      generalize ks.getD (2 * k + 1) 0 = y at *
      obtain ⟨z, hz⟩ : ∃ z, y * 256 = z := ⟨_, rfl⟩
      have EX : Hid _ := wrapN x (by omega)
      have EY : Hid _ := wrapN y (by omega)
      have E1 : Hid (IntKind.u64.wrap ((y : Int) * 256) = (z : Int)) := (by rw [show (y : Int) * 256 = ((y * 256 : Nat) : Int) by omega, wrapN _ (by omega), hz] : IntKind.u64.wrap ((y : Int) * 256) = (z : Int))
      have E2 : Hid (IntKind.u64.wrap ((x : Int) + (z : Int)) = (s : Int)) := (by rw [addN, wrapN _ (by omega)]; congr 1; omega : IntKind.u64.wrap ((x : Int) + (z : Int)) = (s : Int))
      clear hs hs2 h1 h2 hz
      go_upto_region 5 with fail
      refine region_list wr.heap.size (C := fun w' => Below wr.heap.size wr w') [.inl (.int .i64 (k : Nat)), .inl (.int .i64 (k : Nat)), .inl (.int .i64 (2 * (k : Int))), .inl (.pointer (some ⟨w.heap.size, 2 * k, none⟩)), .inl (.int .u8 (x : Nat)), .inl (.int .u64 (x : Nat)), .inl (.int .i64 (k : Nat)), .inl (.int .i64 (2 * (k : Int))), .inl (.int .i64 (2 * (k : Int) + 1)), .inl (.pointer (some ⟨w.heap.size, 2 * k + 1, none⟩)), .inl (.int .u8 (y : Nat)), .inl (.int .u64 (y : Nat)), .inl (.int .u64 (z : Nat)), .inl (.int .u64 (s : Nat)), .inl (.pointer (some ⟨w.heap.size + 1 + 1, k, none⟩))] [] (by kernel_rfl) (by kernel_rfl) ⟨rfl, rfl, rfl, Nat.le_refl _, fun _ _ => rfl⟩
        (fun w1 w2 h1 h2 => h1.trans (h2.mono h1.size)) (fun i h => by simp at h) ?_ ?_
      · refine ⟨?_, ?_, ?_, ?_, ?_, ?_, ?_, ?_, ?_, ?_, ?_, ?_, ?_, ?_, ?_, trivial⟩
        · intro s v hC hk hd
          have h : s.tmps[4]? = some (.int .i64 (k : Nat)) := hk 4 (by kernel_rfl)
          exact ok_value rfl (by simp [execOp, Act.eval, h])
        · intro s v hC hk hd
          have h : s.tmps[4]? = some (.int .i64 (k : Nat)) := hk 4 (by kernel_rfl)
          exact ok_value rfl (by simp [execOp, Act.eval, h])
        · intro s v hC hk hd
          have h : s.tmps[11]? = some (.int .i64 (k : Nat)) := hd 1 (by kernel_rfl)
          exact ok_value rfl (by simp [execOp, Act.eval, h, go_sem, W2.out])
        · intro s v hC hk hd
          have h : s.tmps[1]? = some (.pointer (some ⟨w.heap.size, 0, none⟩)) := hk 1 (by kernel_rfl)
          have h2 : s.tmps[12]? = some (.int .i64 (2 * (k : Int))) := hd 2 (by kernel_rfl)
          exact ok_value rfl (by simp [execOp, Act.eval, h, h2, go_sem, i2, i20, t2])
        · intro s v hC hk hd
          have h : s.tmps[13]? = some (.pointer (some ⟨w.heap.size, 2 * k, none⟩)) := hd 3 (by kernel_rfl)
          have hc := (hC.cell (p := ⟨w.heap.size, 2 * k, none⟩) (lt_of_block X1.out)).trans qx
          exact ok_value rfl (by simp [execOp, Act.eval, h, go_sem, hc])
        · intro s v hC hk hd
          have h : s.tmps[14]? = some (.int .u8 (x : Nat)) := hd 4 (by kernel_rfl)
          exact ok_value rfl (by simp [execOp, Act.eval, h, go_sem, EX.out])
        · intro s v hC hk hd
          have h : s.tmps[4]? = some (.int .i64 (k : Nat)) := hk 4 (by kernel_rfl)
          exact ok_value rfl (by simp [execOp, Act.eval, h])
        · intro s v hC hk hd
          have h : s.tmps[16]? = some (.int .i64 (k : Nat)) := hd 6 (by kernel_rfl)
          exact ok_value rfl (by simp [execOp, Act.eval, h, go_sem, W2.out])
        · intro s v hC hk hd
          have h : s.tmps[17]? = some (.int .i64 (2 * (k : Int))) := hd 7 (by kernel_rfl)
          exact ok_value rfl (by simp [execOp, Act.eval, h, go_sem, W3.out])
        · intro s v hC hk hd
          have h : s.tmps[1]? = some (.pointer (some ⟨w.heap.size, 0, none⟩)) := hk 1 (by kernel_rfl)
          have h2 : s.tmps[18]? = some (.int .i64 (2 * (k : Int) + 1)) := hd 8 (by kernel_rfl)
          exact ok_value rfl (by simp [execOp, Act.eval, h, h2, go_sem, i3, i30, t3])
        · intro s v hC hk hd
          have h : s.tmps[19]? = some (.pointer (some ⟨w.heap.size, 2 * k + 1, none⟩)) := hd 9 (by kernel_rfl)
          have hc := (hC.cell (p := ⟨w.heap.size, 2 * k + 1, none⟩) (lt_of_block X1.out)).trans qy
          exact ok_value rfl (by simp [execOp, Act.eval, h, go_sem, hc])
        · intro s v hC hk hd
          have h : s.tmps[20]? = some (.int .u8 (y : Nat)) := hd 10 (by kernel_rfl)
          exact ok_value rfl (by simp [execOp, Act.eval, h, go_sem, EY.out])
        · intro s v hC hk hd
          have h : s.tmps[21]? = some (.int .u64 (y : Nat)) := hd 11 (by kernel_rfl)
          exact ok_value rfl (by simp [execOp, Act.eval, h, go_sem, E1.out])
        · intro s v hC hk hd
          have h : s.tmps[15]? = some (.int .u64 (x : Nat)) := hd 5 (by kernel_rfl)
          have h2 : s.tmps[22]? = some (.int .u64 (z : Nat)) := hd 12 (by kernel_rfl)
          exact ok_value rfl (by simp [execOp, Act.eval, h, h2, go_sem, E2.out])
        · intro s v hC hk hd
          have h : s.tmps[3]? = some (.pointer (some ⟨w.heap.size + 1 + 1, 0, none⟩)) := hk 3 (by kernel_rfl)
          have h2 : s.tmps[10]? = some (.int .i64 (k : Nat)) := hd 0 (by kernel_rfl)
          exact ok_value rfl (by simp [execOp, Act.eval, h, h2, go_sem, k16])
      · intro b wA hC _ _
        simp [valsOf, valOf, putAll, Act.put]
        have X2 : Hid _ := keep hC X1.out
        have A2 : Hid _ := keep hC A1.out
        have Z2 : Hid _ := keep hC Z1.out
        have B2 : Hid (Below w.heap.size w wA) := B1.out.trans (hC.mono B1.out.size)
        clear hC X1 A1 Z1 B1 qx qy E1 E2 EX EY W2 W3
        have q := (cell_of A2.out k).trans (ca_get 16 _ k hlt)
        have f := frozen_of A2.out k
        go_wp2_with fail
        go_roundw
        case rel =>
          refine ⟨k + 1, by omega, by go_num, (heap_set_ne _ _ (by omega)).trans X2.out, (heap_set_ne _ _ (by omega)).trans Z2.out, (heap_set A2.out k _).trans (cells_eq ((ca_set 16 _ k s hlt).trans (ca_ext fun j _ => ?_))), B2.out.setCell (by simp; omega) _⟩
          by_cases e : j = k
          · rw [if_pos e, if_pos (by omega), e]; exact HS.out.symm
          · rw [if_neg e]
            by_cases e' : j < k
            · rw [if_pos e', if_pos (by omega)]
            · rw [if_neg e', if_neg (by omega)]
        case measure => simp [intOf]; omega
    · have e : k = 16 := by omega
      subst e
      have A2 : Hid (wr.heap[w.heap.size + 1 + 1]? = some (.cells (ca 16 (kd ks)) 33)) := (A1.out.trans (cells_eq (ca_ext fun j hj => by rw [if_pos hj])) : wr.heap[w.heap.size + 1 + 1]? = some (.cells (ca 16 (kd ks)) 33))
      have q := (cell_of A2.out 15).trans (ca_get 16 _ 15 (by omega))
      have f := frozen_of A2.out 15
      have hx1 := HK.out.2 30
      have hx2 := HK.out.2 31
      obtain ⟨s, hs⟩ : ∃ s, kd ks 15 = s := ⟨_, rfl⟩
      have hs2 : ks.getD 30 0 + ks.getD 31 0 * 256 = s := hs
      obtain ⟨d, hd⟩ : ∃ d, s % 32768 = d := ⟨_, rfl⟩
      have e1 : bits .and .u64 (s : Int) 32767 = (d : Int) := by rw [← hd]; exact and_15 s (by omega)
      have HD : Hid (kd' ks 15 = d) := (by unfold kd'; rw [if_pos rfl, hs, hd] : kd' ks 15 = d)
      rw [hs] at q
      clear hk hlt A1 hx1 hx2 hs hs2 hd
      go_upto_region 7 with fail
      generalize hV : wr.setCell _ _ = V
      have A3 : Hid (V.heap[w.heap.size + 1 + 1]? = some (.cells (ca 16 (kd' ks)) 33)) := (by
        rw [← hV]
        refine (heap_set A2.out 15 _).trans (cells_eq ((ca_set 16 _ 15 d (by omega)).trans (ca_ext fun j _ => ?_)))
        by_cases e : j = 15
        · rw [if_pos e, e]; exact HD.out.symm
        · rw [if_neg e]; unfold kd'; rw [if_neg e] : V.heap[w.heap.size + 1 + 1]? = some (.cells (ca 16 (kd' ks)) 33))
      have Z3 : Hid (V.heap[w.heap.size + 1]? = some (.cells zs 33)) := (by rw [← hV]; exact (heap_set_ne _ _ (by omega)).trans Z1.out : V.heap[w.heap.size + 1]? = some (.cells zs 33))
      have B3 : Hid (Below w.heap.size w V) := (by rw [← hV]; exact B1.out.setCell (by simp; omega) _ : Below w.heap.size w V)
      clear hV q f A2 Z1 B1 X1 e1 HD
      refine wp_region_list ?_
      refine wpList_load_blk (b := w.heap.size + 1 + 1) rfl rfl rfl A3.out Try.underlying33 rfl (by kernel_rfl) (ca_size _ _) ?_
      simp only [Act.put]
      go_wp2_with fail
      refine (K1.out _).mono ?_
      rintro e u ⟨rfl, hb⟩
      have Z2 : Hid _ := keep hb Z3.out
      have B2 : Hid (Below w.heap.size w u) := B3.out.trans (hb.mono B3.out.size)
      clear hb
      go_wp2_with (refine wpList_store_blk (b := w.heap.size + 1) rfl rfl rfl rfl Z2.out (by kernel_rfl) SZ.out (ca_size _ _) (ca_one _ _) ?_)
      refine bodyPost_ret (v := .agg (ca 16 (dg n))) (results_blk (b := w.heap.size + 1) Try.results9 rfl (heap_setCells_all _ Z2.out (by rw [SZ.out, ca_size])) Try.underlying33 rfl (by kernel_rfl) (ca_size _ _)) rfl ⟨rfl, ?_⟩
      exact below_setCells (by omega) _ _ _ B2.out
end Go.Proofs.Ytpgmaidbemndnaa
