/- The walk of full of the document's answer of layer 1. -/
import Derived.Test.YtpgmaidbemndnaaRef1
namespace Go.Proofs.Ytpgmaidbemndnaa
open Go.RowKit

theorem cells_eq {a b : Array Value} {T : TypeId} (h : a = b) : (some (Obj.cells a T) : Option Obj) = some (.cells b T) := by rw [h]

def subN (n : Nat) : Nat → Nat
  | 0 => n
  | r + 1 => sub1 (subN n r)
/-- What one round of full comes to: where nothing is borrowed at the end, p was taken away. -/
theorem bw_16 (n : Nat) (hn : n < q256) : bw (dg n) pd 16 = (if n < pN then 1 else 0) ∧ (¬ n < pN → ∀ j, j < 16 → bd (dg n) pd j = dg (n - pN) j) := by
  have h := bw_spec (dg n) pd 16 (fun j _ => dg_lt n j) (fun j _ => pd_lt j)
  have hl := psum_lt (h := bd (dg n) pd) 16 (fun j _ => bd_lt _ _ j)
  rw [pd_psum, psum_dg, show (65536 : Nat) ^ 16 = q256 from rfl, Nat.mod_eq_of_lt hn] at h
  rw [show (65536 : Nat) ^ 16 = q256 from rfl] at hl
  have hb := bw_le (dg n) pd 16
  have hp : pN < q256 := by decide
  have e : bw (dg n) pd 16 = (if n < pN then 1 else 0) := by
    generalize bw (dg n) pd 16 = b at *
    have : b = 0 ∨ b = 1 := by omega
    rcases this with rfl | rfl
    · rw [if_neg (by omega)]
    · split
      · rfl
      · omega
  refine ⟨e, fun hnp j hj => ?_⟩
  rw [e, if_neg hnp, Nat.zero_mul, Nat.add_zero] at h
  have e2 : psum (bd (dg n) pd) 16 = n - pN := by omega
  rw [← e2]
  exact (dg_eq 16 j hj (fun j _ => bd_lt _ _ j)).symm

set_option maxRecDepth 100000 in
set_option maxHeartbeats 8000000 in
theorem full_raw (cs : Array Value) (hcs : cs.size = 16) (n : Nat) (hn : n < q256)
    (k1 : ∀ w, Calls Try.prog 33 #[.agg cs] w fun e w' => e = .returned (.agg (ca 16 (dg n))) ∧ Below w.heap.size w w') (w : World) :
    Calls Try.prog 27 #[.agg cs] w fun e w' => e = .returned (.agg (ca 16 (dg (subN n 3)))) ∧ Below w.heap.size w w' := by
  have K1 : Hid _ := k1
  have HN : Hid _ := hn
  have CS : Hid _ := hcs
  clear k1 hn hcs
  go_enter Try.func27, Try.ntmps27
  go_upto_region 1 with fail
  generalize hW : (w.alloc (Obj.cells cs 33)).alloc _ = W
  have X0 : Hid (W.heap[w.heap.size]? = some (.cells cs 33)) := (by rw [← hW, heap_old _ _ (by simp)]; exact heap_new _ _ : W.heap[w.heap.size]? = some (.cells cs 33))
  obtain ⟨zs, Z0', hzs⟩ : ∃ zs, W.heap[w.heap.size + 1]? = some (.cells zs 33) ∧ zs.size = 16 := ⟨_, by rw [← hW]; exact heap_new' _ _ (by simp), rfl⟩
  have Z0 : Hid _ := Z0'
  have SZ : Hid _ := hzs
  have B0 : Hid (Below w.heap.size w W) := (by rw [← hW]; exact ((Below.refl _ _).alloc (Nat.le_refl _) _).alloc (by simp) _ : Below w.heap.size w W)
  clear hW Z0' hzs
  go_wp2_with (refine wpList_load_blk (b := w.heap.size) rfl rfl rfl X0.out Try.underlying33 rfl (by kernel_rfl) CS.out ?_)
  refine (K1.out _).mono ?_
  rintro e u1 ⟨rfl, hb⟩
  have X1 : Hid _ := keep hb X0.out
  have Z1 : Hid _ := keep hb Z0.out
  have B1 : Hid (Below w.heap.size w u1) := B0.out.trans (hb.mono B0.out.size)
  clear hb X0 Z0 B0
  go_wp2_with (refine wpList_store_blk (b := w.heap.size) rfl rfl rfl rfl X1.out (by kernel_rfl) CS.out (ca_size _ _) (ca_one _ _) ?_)
  go_loopw [3] (fun t wr => ∃ (r : Nat), r ≤ 3 ∧ t = .int .i64 r ∧ wr.heap[w.heap.size]? = some (.cells (ca 16 (dg (subN n r))) 33) ∧ wr.heap[w.heap.size + 1]? = some (.cells zs 33) ∧ Below w.heap.size w wr) (fun t _ => 3 - (intOf t).toNat)
  case atStart => exact ⟨0, by omega, rfl, heap_setCells_all _ X1.out (by rw [CS.out, ca_size]), (heap_setCells_ne (by omega) _ _ _).trans Z1.out, below_setCells (Nat.le_refl _) _ _ _ B1.out⟩
  case round =>
    obtain ⟨r, hr, rfl, X, Z, B⟩ := hrel
    have XX : Hid _ := X
    have ZZ : Hid _ := Z
    have BB : Hid _ := B
    have hz := lt_of_block Z
    have hx := lt_of_block X
    clear X Z B X1 Z1 B1
    by_cases hlt : r < 3
    · have hr3 : (r : Int) < 3 := by omega
      obtain ⟨N, hN⟩ : ∃ N, subN n r = N := ⟨_, rfl⟩
      have hNq : N < q256 := by
        rw [← hN]
        have : ∀ r, subN n r < q256 := fun r => by
          induction r with
          | zero => exact HN.out
          | succ r ih => show sub1 (subN n r) < q256; unfold sub1; split <;> omega
        exact this r
      have HNr : Hid _ := hN
      obtain ⟨b16, bdg⟩ := bw_16 N hNq
      have B16 : Hid _ := b16
      have BDG : Hid _ := bdg
      have X2 : Hid (wr.heap[w.heap.size]? = some (.cells (ca 16 (dg N)) 33)) := (by rw [← hN]; exact XX.out : wr.heap[w.heap.size]? = some (.cells (ca 16 (dg N)) 33))
      clear hN hNq b16 bdg XX
      go_wp2_with fail
      obtain ⟨g, hg⟩ : ∃ g, wr.heap.size = g := ⟨_, rfl⟩
      have S1 : ∃ W1 : World, W1 = wr.alloc (Obj.cells #[Value.int IntKind.u64 0, Value.int IntKind.u64 0, Value.int IntKind.u64 0, Value.int IntKind.u64 0, Value.int IntKind.u64 0, Value.int IntKind.u64 0, Value.int IntKind.u64 0, Value.int IntKind.u64 0, Value.int IntKind.u64 0, Value.int IntKind.u64 0, Value.int IntKind.u64 0, Value.int IntKind.u64 0, Value.int IntKind.u64 0, Value.int IntKind.u64 0, Value.int IntKind.u64 0, Value.int IntKind.u64 0] 33) := ⟨_, rfl⟩
      obtain ⟨W1, hW1⟩ := S1
      have G0 : Hid (W1.heap[g]? = some (.cells (ca 16 (fun j => if j < 0 then bd (dg N) pd j else 0)) 33)) := (by rw [hW1, ← hg]; exact (heap_new _ _).trans (by rfl) : W1.heap[g]? = some (.cells (ca 16 (fun j => if j < 0 then bd (dg N) pd j else 0)) 33))
      have X3 : Hid (W1.heap[w.heap.size]? = some (.cells (ca 16 (dg N)) 33)) := (by rw [hW1]; exact (heap_old _ _ hx).trans X2.out : W1.heap[w.heap.size]? = some (.cells (ca 16 (dg N)) 33))
      have Z3 : Hid (W1.heap[w.heap.size + 1]? = some (.cells zs 33)) := (by rw [hW1]; exact (heap_old _ _ hz).trans ZZ.out : W1.heap[w.heap.size + 1]? = some (.cells zs 33))
      have B3 : Hid (Below w.heap.size w W1) := (by rw [hW1]; exact BB.out.alloc BB.out.size _ : Below w.heap.size w W1)
      rw [hg] at hx hz
      rw [← hW1, hg]
      clear hW1 X2 ZZ BB hg
      go_loopw [5, 6, 7] (fun l i _ wx => ∃ k : Nat, k ≤ 16 ∧ i = .int .i64 k ∧ l = .int .u64 (bw (dg N) pd k : Nat) ∧ wx.heap[g]? = some (.cells (ca 16 (fun j => if j < k then bd (dg N) pd j else 0)) 33) ∧ wx.heap[w.heap.size]? = some (.cells (ca 16 (dg N)) 33) ∧ wx.heap[w.heap.size + 1]? = some (.cells zs 33) ∧ Below w.heap.size w wx) (fun _ i _ _ => 16 - (intOf i).toNat)
      case atStart => exact ⟨0, by omega, rfl, rfl, G0.out, X3.out, Z3.out, B3.out⟩
      case round =>
        obtain ⟨k, hk, rfl, rfl, G, X, Z, B⟩ := hrel
        clear G0 X3 Z3 B3
        have G1 : Hid _ := G
        have X1 : Hid _ := X
        have Z1 : Hid _ := Z
        have B1 : Hid _ := B
        clear G X Z B
        by_cases hlt2 : k < 16
        · have k16 : (k : Int) < 16 := by omega
          have hl := bw_le (dg N) pd k
          have hxd := dg_lt N k
          have hpd := pd_lt k
          have q := (cell_of X1.out k).trans (ca_get 16 _ k hlt2)
          have ebd : Hid (bd (dg N) pd k = (dg N k + 65536 - pd k - bw (dg N) pd k) % 65536) := rfl
          have ebw : Hid (bw (dg N) pd (k + 1) = 1 - (dg N k + 65536 - pd k - bw (dg N) pd k) / 65536) := rfl
          have KP := fun v => prime_any k v
          generalize bw (dg N) pd k = l at *
          generalize dg N k = x at *
          generalize pd k = p at *
          obtain ⟨D, hD⟩ : ∃ D, x + 65536 - p - l = D := ⟨_, rfl⟩
          rw [hD] at ebd ebw
          have e1 : IntKind.u64.wrap ((x : Int) + 65536) = ((x + 65536 : Nat) : Int) := wrapN (x + 65536) (by omega)
          have e2 : IntKind.u64.wrap (((x + 65536 : Nat) : Int) - (p : Int)) = ((x + 65536 - p : Nat) : Int) := by
            rw [show ((x + 65536 : Nat) : Int) - (p : Int) = ((x + 65536 - p : Nat) : Int) by omega]; exact wrapN _ (by omega)
          have e3 : IntKind.u64.wrap (((x + 65536 - p : Nat) : Int) - (l : Int)) = (D : Int) := by
            rw [show ((x + 65536 - p : Nat) : Int) - (l : Int) = (D : Int) by omega]; exact wrapN _ (by omega)
          have hDl : D < 131072 := by omega
          obtain ⟨y, hy⟩ : ∃ y, x + 65536 - p = y := ⟨_, rfl⟩
          obtain ⟨z, hz'⟩ : ∃ z, x + 65536 = z := ⟨_, rfl⟩
          rw [hz'] at e1 e2
          rw [show z - p = y by omega] at e2
          rw [hy] at e3
          have E1 : Hid _ := e1
          have E2 : Hid _ := e2
          have E3 : Hid _ := e3
          have KPP : Hid _ := KP
          clear e1 e2 e3 hD hy hz' KP hl hxd hpd
          go_upto_region 10 with fail
          refine region_list wr.heap.size (C := fun w' => Below wr.heap.size wr w') [.inl (.int .i64 (k : Nat)), .inl (.pointer (some ⟨w.heap.size, k, none⟩)), .inl (.int .u64 (x : Nat)), .inl (.int .u64 (z : Nat)), .inl (.int .i64 (k : Nat)), .inl (.int .u64 (p : Nat)), .inl (.int .u64 (y : Nat)), .inl (.int .u64 (l : Nat)), .inl (.int .u64 (D : Nat)), .inl (.int .u64 (D : Nat))] [] (by kernel_rfl) (by kernel_rfl) ⟨rfl, rfl, rfl, Nat.le_refl _, fun _ _ => rfl⟩
            (fun w1 w2 h1 h2 => h1.trans (h2.mono h1.size)) (fun i h => by simp at h) ?_ ?_
          · refine ⟨?_, ?_, ?_, ?_, ?_, ?_, ?_, ?_, ?_, ?_, trivial⟩
            · intro s v hC hk hd
              have h : s.tmps[6]? = some (.int .i64 (k : Nat)) := hk 6 (by kernel_rfl)
              exact ok_value rfl (by simp [execOp, Act.eval, h])
            · intro s v hC hk hd
              have h : s.tmps[1]? = some (.pointer (some ⟨w.heap.size, 0, none⟩)) := hk 1 (by kernel_rfl)
              have h2 : s.tmps[19]? = some (.int .i64 (k : Nat)) := hd 0 (by kernel_rfl)
              exact ok_value rfl (by simp [execOp, Act.eval, h, h2, go_sem, k16])
            · intro s v hC hk hd
              have h : s.tmps[20]? = some (.pointer (some ⟨w.heap.size, k, none⟩)) := hd 1 (by kernel_rfl)
              have hc := (hC.cell (p := ⟨w.heap.size, k, none⟩) (lt_of_block X1.out)).trans q
              exact ok_value rfl (by simp [execOp, Act.eval, h, go_sem, hc])
            · intro s v hC hk hd
              have h : s.tmps[21]? = some (.int .u64 (x : Nat)) := hd 2 (by kernel_rfl)
              exact ok_value rfl (by simp [execOp, Act.eval, h, go_sem, E1.out])
            · intro s v hC hk hd
              have h : s.tmps[6]? = some (.int .i64 (k : Nat)) := hk 6 (by kernel_rfl)
              exact ok_value rfl (by simp [execOp, Act.eval, h])
            · intro s v hC hk hd
              have h : s.tmps[23]? = some (.int .i64 (k : Nat)) := hd 4 (by kernel_rfl)
              exact ok_call rfl (by simp [Act.eval, h, go_sem]) (KPP.out v)
            · intro s v hC hk hd
              have h : s.tmps[22]? = some (.int .u64 (z : Nat)) := hd 3 (by kernel_rfl)
              have h2 : s.tmps[24]? = some (.int .u64 (p : Nat)) := hd 5 (by kernel_rfl)
              exact ok_value rfl (by simp [execOp, Act.eval, h, h2, go_sem, E2.out])
            · intro s v hC hk hd
              have h : s.tmps[5]? = some (.int .u64 (l : Nat)) := hk 5 (by kernel_rfl)
              exact ok_value rfl (by simp [execOp, Act.eval, h])
            · intro s v hC hk hd
              have h : s.tmps[25]? = some (.int .u64 (y : Nat)) := hd 6 (by kernel_rfl)
              have h2 : s.tmps[26]? = some (.int .u64 (l : Nat)) := hd 7 (by kernel_rfl)
              exact ok_value rfl (by simp [execOp, Act.eval, h, h2, go_sem, E3.out])
            · intro s v hC hk hd
              have h : s.tmps[27]? = some (.int .u64 (D : Nat)) := hd 8 (by kernel_rfl)
              exact ok_value rfl (by simp [execOp, Act.eval, h])
          · intro b wA hC _ _
            simp [valsOf, valOf, putAll, Act.put]
            have G2 : Hid _ := keep hC G1.out
            have X2 : Hid _ := keep hC X1.out
            have Z2 : Hid _ := keep hC Z1.out
            have B2 : Hid (Below w.heap.size w wA) := B1.out.trans (hC.mono B1.out.size)
            clear hC G1 X1 Z1 B1 q
            have q := (cell_of G2.out k).trans (ca_get 16 _ k hlt2)
            have f := frozen_of G2.out k
            obtain ⟨d, hd⟩ : ∃ d, D % 65536 = d := ⟨_, rfl⟩
            obtain ⟨l', hl'⟩ : ∃ l', 1 - D / 65536 = l' := ⟨_, rfl⟩
            have e4 : bits .and .u64 (D : Int) 65535 = (d : Int) := by rw [← hd]; exact and_16 D (by omega)
            have e5 : IntKind.u64.wrap (1 - (D : Int) / 65536) = (l' : Int) := by
              rw [show (1 - (D : Int) / 65536) = (l' : Int) by omega]; exact wrapN _ (by omega)
            have EBD : Hid (bd (dg N) pd k = d) := (by rw [← hd]; exact ebd.out : bd (dg N) pd k = d)
            have EBW : Hid (bw (dg N) pd (k + 1) = l') := (by rw [← hl']; exact ebw.out : bw (dg N) pd (k + 1) = l')
            clear hd hl' ebd ebw hDl E1 E2 E3 KPP
            go_wp2_with fail
            go_roundw
            case rel =>
              refine ⟨k + 1, by omega, by go_num, int_eq (by rw [EBW.out]), ?_, (heap_set_ne _ _ (by omega)).trans X2.out, (heap_set_ne _ _ (by omega)).trans Z2.out, B2.out.setCell (by simp; omega) _⟩
              refine (heap_set G2.out k _).trans ?_
              refine cells_eq ((ca_set 16 _ k d hlt2).trans (ca_ext fun j _ => ?_))
              by_cases e : j = k
              · rw [if_pos e, if_pos (by omega), e]; exact EBD.out.symm
              · rw [if_neg e]
                by_cases e' : j < k
                · rw [if_pos e', if_pos (by omega)]
                · rw [if_neg e', if_neg (by omega)]
            case measure => simp [intOf]; omega
        · have e : k = 16 := by omega
          subst e
          rw [B16.out]
          by_cases hNp : N < pN
          · rw [if_pos hNp]
            have e2 : Hid (subN n (r + 1) = N) := (by show sub1 (subN n r) = N; rw [HNr.out]; unfold sub1; rw [if_pos hNp] : subN n (r + 1) = N)
            have t0 : (((1 : Nat) : Int) == 0) = false := by decide
            clear hNp hk hlt2 B16 BDG
            go_wp2_with fail
            refine ⟨⟨r + 1, by omega, by go_num, ?_, Z1.out, B1.out⟩, by simp [intOf]; omega⟩
            rw [e2.out]; exact X1.out
          · rw [if_neg hNp]
            obtain ⟨M, hM⟩ : ∃ M, N - pN = M := ⟨_, rfl⟩
            have e2 : Hid (subN n (r + 1) = M) := (by show sub1 (subN n r) = M; rw [HNr.out]; unfold sub1; rw [if_neg hNp, hM] : subN n (r + 1) = M)
            have G2 : Hid (wr.heap[g]? = some (.cells (ca 16 (dg M)) 33)) := (G1.out.trans (cells_eq (ca_ext fun j hj => by rw [if_pos hj, BDG.out hNp j hj, hM])) : wr.heap[g]? = some (.cells (ca 16 (dg M)) 33))
            clear hNp hk hlt2 B16 BDG G1 hM
            go_upto_region 14 with fail
            refine wp_region_list ?_
            refine wpList_load_blk (b := g) rfl rfl rfl G2.out Try.underlying33 rfl (by kernel_rfl) (ca_size _ _) ?_
            refine wpList_store_blk (b := w.heap.size) rfl rfl rfl rfl X1.out (by kernel_rfl) (ca_size _ _) (ca_size _ _) (ca_one _ _) ?_
            go_wp2_with fail
            refine ⟨⟨r + 1, by omega, by go_num, ?_, (heap_setCells_ne (by omega) _ _ _).trans Z1.out, below_setCells (Nat.le_refl _) _ _ _ B1.out⟩, by simp [intOf]; omega⟩
            rw [e2.out]
            exact heap_setCells_all _ X1.out (by rw [ca_size, ca_size])
    · have e : r = 3 := by omega
      subst e
      clear hr hlt
      go_wp2_with (first | (refine wpList_load_blk (b := w.heap.size) rfl rfl rfl XX.out Try.underlying33 rfl (by kernel_rfl) (ca_size _ _) ?_) | (refine wpList_store_blk (b := w.heap.size + 1) rfl rfl rfl rfl ZZ.out (by kernel_rfl) SZ.out (ca_size _ _) (ca_one _ _) ?_))
      refine bodyPost_ret (v := .agg (ca 16 (dg (subN n 3)))) (results_blk (b := w.heap.size + 1) Try.results27 rfl (heap_setCells_all _ ZZ.out (by rw [SZ.out, ca_size])) Try.underlying33 rfl (by kernel_rfl) (ca_size _ _)) rfl ⟨rfl, ?_⟩
      exact below_setCells (by omega) _ _ _ BB.out

/-- full: the digits of what came modulo p. -/
theorem full_any (h : Nat → Nat) (hh : ∀ j, j < 16 → h j < 1125899906842624) (w : World) :
    Calls Try.prog 27 #[.agg (ca 16 h)] w fun e w' => e = .returned (.agg (ca 16 (dg (psum h 16 % pN)))) ∧ Below w.heap.size w w' := by
  have hov := psum_div (h := h) (B := 1125899906842624) (by omega) 16 hh
  have hlt := (fold_fold (V := psum h 16) hov).1
  have r := full_raw (ca 16 h) (ca_size _ _) _ hlt (carry_any h hh) w
  have e : subN (fold (fold (psum h 16))) 3 = psum h 16 % pN := by
    show sub1 (sub1 (sub1 (fold (fold (psum h 16))))) = _
    rw [sub3 hlt, fold_mod, fold_mod]
  rw [e] at r
  exact r
end Go.Proofs.Ytpgmaidbemndnaa
