/- The walk of package curve's Mul: the ladder, bit by bit. -/
import Derived.Test.YtfciodbgjljjhaaLad
import Derived.Test.YtfciodbgjljjhaaInvNum
namespace Go.Proofs.Ytfciodbgjljjhaa
open Go.RowKit

theorem and1 : ∀ z : Fin 256, bits BinOp.and IntKind.i64 ((z.val : Nat) : Int) 1 = ((z.val : Nat) : Int) % 2 := by decide +kernel
theorem keyC_size (r : Nat) : (cs8 (keyL r)).size = 32 := by simp [cs8, keyL_len]

set_option maxRecDepth 100000 in
set_option maxHeartbeats 8000000 in
theorem cmul_raw (ks us : List Nat) (hk : Bytes ks) (hu : Bytes us) (u r : Nat) (hul : u < pN) (ku : ∀ w, Calls Try.prog 16 #[.agg (cs8 us)] w fun e w' => e = .returned (E4 u) ∧ Below w.heap.size w w')
    (hr : mN (ladTo (scal ks) u 255).x2 (invTo (ladTo (scal ks) u 255).z2 255) = r) (w : World) :
    Calls Try.prog 10 #[.agg (cs8 ks), .agg (cs8 us)] w fun e w' => e = .returned (.agg (cs8 (keyL r))) ∧ Below w.heap.size w w' := by
  have HK : Hid _ := hk
  have KU : Hid _ := ku
  have HUL : Hid _ := hul
  have HR : Hid _ := hr
  have SK : Hid ((cs8 (scal ks)).size = 32) := (by simp [cs8, (scal_bytes hk).1] : (cs8 (scal ks)).size = 32)
  have SK0 : Hid ((cs8 ks).size = 32) := (by simp [cs8, hk.1] : (cs8 ks).size = 32)
  have SU0 : Hid ((cs8 us).size = 32) := (by simp [cs8, hu.1] : (cs8 us).size = 32)
  clear hk hu ku hul hr
  go_enter Try.func10, Try.ntmps10
  go_upto_region 1 with fail
  generalize hW : World.alloc (World.alloc (World.alloc w _) _) _ = W
  obtain ⟨zs, hz, hm⟩ : ∃ zs : Array Value, zs.size = 32 ∧ Mem w.heap.size w W [(w.heap.size + 1 + 1, .cells zs 23), (w.heap.size + 1, .cells (cs8 us) 23), (w.heap.size, .cells (cs8 ks) 23)] := ⟨_, rfl, (by rw [← hW]; exact (((Mem.start w).allocAt _ rfl).allocAt _ (by simp)).allocAt _ (by simp))⟩
  have SZ : Hid _ := hz
  have HM : Hid _ := hm
  clear hW hz hm
  refine wp_region_list ?_
  refine wpList_load_blk (b := w.heap.size) rfl rfl rfl ((HM.out).get 2 rfl) Try.underlying23 rfl (by kernel_rfl) (SK0.out) ?_
  simp only [Act.put]
  refine wpList_call rfl (by simp [Act.eval, go_sem]) (scalar_any ks (HK.out) _) fun u1 hb => ?_
  have HM2 : Hid (Mem w.heap.size w u1 [(w.heap.size + 1 + 1, .cells zs 23), (w.heap.size + 1, .cells (cs8 us) 23), (w.heap.size, .cells (cs8 ks) 23)]) := (HM.out).keep hb
  clear hb HM
  simp only [Act.put]
  refine wpList_store_blk (b := w.heap.size) rfl rfl rfl rfl ((HM2.out).get 2 rfl) (by kernel_rfl) (SK0.out) ((SK.out)) (cs8_one _) ?_
  simp only [Act.put]
  generalize hV4 : World.setCells u1 (w.heap.size) 0 _ = V3
  have HM5 : Hid (Mem w.heap.size w V3 [(w.heap.size + 1 + 1, .cells zs 23), (w.heap.size + 1, .cells (cs8 us) 23), (w.heap.size, .cells (cs8 (scal ks)) 23)]) := (by rw [← hV4]; exact (HM2.out).store 2 (cs8 (scal ks)) rfl ((SK0.out).trans ((SK.out)).symm) : Mem w.heap.size w V3 [(w.heap.size + 1 + 1, .cells zs 23), (w.heap.size + 1, .cells (cs8 us) 23), (w.heap.size, .cells (cs8 (scal ks)) 23)])
  clear hV4 HM2
  go_upto_region 2 with fail
  refine wp_region_list ?_
  refine wpList_load_blk (b := w.heap.size + 1) rfl rfl rfl ((HM5.out).get 1 rfl) Try.underlying23 rfl (by kernel_rfl) (SU0.out) ?_
  simp only [Act.put]
  refine wpList_call rfl (by simp [Act.eval, go_sem]) (KU.out _) fun u6 hb => ?_
  have HM7 : Hid (Mem w.heap.size w u6 [(w.heap.size + 1 + 1, .cells zs 23), (w.heap.size + 1, .cells (cs8 us) 23), (w.heap.size, .cells (cs8 (scal ks)) 23)]) := (HM5.out).keep hb
  clear hb HM5
  simp only [Act.put]
  refine wpList_alloc (o := .cells #[.int .u64 0, .int .u64 0, .int .u64 0, .int .u64 0] 45) (v := .pointer (some ⟨u6.heap.size, 0, none⟩)) rfl (by simp [execOp, go_sem]) ?_
  simp only [Act.put]
  have HM10 : Hid (Mem w.heap.size w _ [(u6.heap.size, .cells #[.int .u64 0, .int .u64 0, .int .u64 0, .int .u64 0] 45), (w.heap.size + 1 + 1, .cells zs 23), (w.heap.size + 1, .cells (cs8 us) 23), (w.heap.size, .cells (cs8 (scal ks)) 23)]) := (HM7.out).alloc (.cells #[.int .u64 0, .int .u64 0, .int .u64 0, .int .u64 0] 45)
  clear HM7
  generalize u6.alloc (.cells #[.int .u64 0, .int .u64 0, .int .u64 0, .int .u64 0] 45) = V8 at *
  generalize u6.heap.size = g11 at *
  refine wpList_store_blk (b := g11) rfl rfl rfl rfl ((HM10.out).get 0 rfl) (by kernel_rfl) (rfl) (rfl) ((by simp [Value.oneCell'])) ?_
  simp only [Act.put]
  generalize hV13 : World.setCells V8 (g11) 0 _ = V12
  have HM14 : Hid (Mem w.heap.size w V12 [(g11, .cells (C4 u) 45), (w.heap.size + 1 + 1, .cells zs 23), (w.heap.size + 1, .cells (cs8 us) 23), (w.heap.size, .cells (cs8 (scal ks)) 23)]) := (by rw [← hV13]; exact (HM10.out).store 0 (C4 u) rfl rfl : Mem w.heap.size w V12 [(g11, .cells (C4 u) 45), (w.heap.size + 1 + 1, .cells zs 23), (w.heap.size + 1, .cells (cs8 us) 23), (w.heap.size, .cells (cs8 (scal ks)) 23)])
  clear hV13 HM10
  go_wp2_with fail
  refine region_list V12.heap.size (C := fun w' => Below V12.heap.size V12 w') [.inl (E4 1), .inl (E4 u), .inl (E4 1), .inl (.agg (L40 1 u 1)), .inr (.cells #[.int .u64 0, .int .u64 0, .int .u64 0, .int .u64 0, .int .u64 0, .int .u64 0, .int .u64 0, .int .u64 0, .int .u64 0, .int .u64 0, .int .u64 0, .int .u64 0, .int .u64 0, .int .u64 0, .int .u64 0, .int .u64 0] 49, fun b => .pointer (some ⟨b, 0, none⟩))] [4] (by kernel_rfl) (by kernel_rfl) ⟨rfl, rfl, rfl, Nat.le_refl _, fun _ _ => rfl⟩
    (fun w1 w2 h1 h2 => h1.trans (h2.mono h1.size)) (fun i h => by
      obtain rfl : i = 4 := by simpa using h
      exact ⟨_, rfl⟩) ?_ ?_
  · refine ⟨?_, ?_, ?_, ?_, ?_, trivial⟩
    · intro s v hC hk hd
      exact ok_call rfl (by simp [Act.eval, go_sem]) (num_any 1 (by decide) v)
    · intro s v hC hk hd
      have h : s.tmps[5]? = some (.pointer (some ⟨g11, 0, none⟩)) := hk 5 (by kernel_rfl)
      exact ok_load rfl rfl h (((HM14.out).keep hC).get 0 rfl) Try.underlying45 rfl (by kernel_rfl) (rfl)
    · intro s v hC hk hd
      exact ok_call rfl (by simp [Act.eval, go_sem]) (num_any 1 (by decide) v)
    · intro s v hC hk hd
      have h0 : s.tmps[13]? = some (E4 1) := hd 0 (by kernel_rfl)
      have h1 : s.tmps[14]? = some (E4 u) := hd 1 (by kernel_rfl)
      have h2 : s.tmps[15]? = some (E4 1) := hd 2 (by kernel_rfl)
      exact ok_value rfl (by simp [execOp, Act.eval, h0, h1, h2, go_sem])
    · intro s v hC hk hd
      exact ok_alloc hC.size rfl (by simp [execOp, go_sem])
  · intro nb wA15 hC hf hne
    have M16 := (HM14.out).keep hC
    obtain ⟨⟨l4, f4⟩, _⟩ := hf
    simp only [Nat.zero_add, Nat.reduceAdd] at l4 f4
    have M17 := (M16).also ((HM14.out).ne_new l4) (Nat.le_trans (HM14.out).size l4) f4
    clear hne hC l4 f4
    simp [valsOf, valOf, putAll, Act.put]
    generalize nb 4 = g18 at *
    have HM : Hid (Mem w.heap.size w wA15 [(g18, .cells #[.int .u64 0, .int .u64 0, .int .u64 0, .int .u64 0, .int .u64 0, .int .u64 0, .int .u64 0, .int .u64 0, .int .u64 0, .int .u64 0, .int .u64 0, .int .u64 0, .int .u64 0, .int .u64 0, .int .u64 0, .int .u64 0] 49), (g11, .cells (C4 u) 45), (w.heap.size + 1 + 1, .cells zs 23), (w.heap.size + 1, .cells (cs8 us) 23), (w.heap.size, .cells (cs8 (scal ks)) 23)]) := M17
    refine wpList_store_blk (b := g18) rfl rfl rfl rfl ((HM.out).get 0 rfl) (by kernel_rfl) (rfl) (rfl) ((by simp [Value.oneCell'])) ?_
    simp only [Act.put]
    generalize hV20 : World.setCells wA15 (g18) 0 _ = V19
    have HM21 : Hid (Mem w.heap.size w V19 [(g18, .cells (L40 1 u 1) 49), (g11, .cells (C4 u) 45), (w.heap.size + 1 + 1, .cells zs 23), (w.heap.size + 1, .cells (cs8 us) 23), (w.heap.size, .cells (cs8 (scal ks)) 23)]) := (by rw [← hV20]; exact (HM.out).store 0 (L40 1 u 1) rfl rfl : Mem w.heap.size w V19 [(g18, .cells (L40 1 u 1) 49), (g11, .cells (C4 u) 45), (w.heap.size + 1 + 1, .cells zs 23), (w.heap.size + 1, .cells (cs8 us) 23), (w.heap.size, .cells (cs8 (scal ks)) 23)])
    clear hV20 HM
    have HS : Hid (Mem w.heap.size w V19 [(g18, .cells (LC (ladTo (scal ks) u 0)) 49), (g11, .cells (C4 u) 45), (w.heap.size + 1 + 1, .cells zs 23), (w.heap.size + 1, .cells (cs8 us) 23), (w.heap.size, .cells (cs8 (scal ks)) 23)]) := (by rw [← L40_start]; exact HM21.out : Mem w.heap.size w V19 [(g18, .cells (LC (ladTo (scal ks) u 0)) 49), (g11, .cells (C4 u) 45), (w.heap.size + 1 + 1, .cells zs 23), (w.heap.size + 1, .cells (cs8 us) 23), (w.heap.size, .cells (cs8 (scal ks)) 23)])
    clear HM21
    go_wp2_with fail
    go_loopw [7, 8] (fun i _ wr => ∃ j : Nat, j ≤ 255 ∧ i = .int .i64 (254 - (j : Int)) ∧ Mem w.heap.size w wr [(g18, .cells (LC (ladTo (scal ks) u j)) 49), (g11, .cells (C4 u) 45), (w.heap.size + 1 + 1, .cells zs 23), (w.heap.size + 1, .cells (cs8 us) 23), (w.heap.size, .cells (cs8 (scal ks)) 23)]) (fun i _ _ => (intOf i + 1).toNat)
    case atStart => exact ⟨0, by omega, rfl, HS.out⟩
    case round =>
      obtain ⟨j, hj, rfl, MM⟩ := hrel
      have HM : Hid _ := MM
      clear MM HS
      by_cases hlt : j < 255
      · obtain ⟨m, hm⟩ : ∃ m : Nat, m = 254 - j := ⟨_, rfl⟩
        have e1 : (254 - (j : Int)) = (m : Int) := by omega
        rw [e1]
        have hm2 : m ≤ 254 := by omega
        have m0 : (0 : Int) ≤ m := by omega
        go_upto_region 7 with fail
        refine wp_region_list ?_
        refine wpList_value (v := .int .i64 (m : Nat)) rfl (by simp [execOp, Act.eval]) ?_
        simp only [Act.put]
        refine wpList_value (v := .int .i64 (m / 8 : Nat)) rfl (by simp [execOp, Act.eval, go_sem]; rw [IntKind.wrap_i64]; omega) ?_
        simp only [Act.put]
        refine wpList_value (v := .pointer (some ⟨w.heap.size, m / 8, none⟩)) rfl (by simp [execOp, Act.eval, go_sem]; rw [if_pos (by omega), show ((m : Int) / 8).toNat = m / 8 by omega]) ?_
        simp only [Act.put]
        have q := (cell_of (HM.out.get 4 rfl) (m / 8)).trans (cs8_get (scal ks) (m / 8) (by rw [(scal_bytes HK.out).1]; omega))
        obtain ⟨y, hy⟩ : ∃ x, (scal ks).getD (m / 8) 0 = x := ⟨_, rfl⟩
        rw [hy] at q
        have yl : y < 256 := hy ▸ (scal_bytes HK.out).2 (m / 8)
        obtain ⟨z, hz⟩ : ∃ x, y / 2 ^ (m % 8) = x := ⟨_, rfl⟩
        have zl : z < 256 := by rw [← hz]; exact Nat.lt_of_le_of_lt (Nat.div_le_self _ _) yl
        have hb : bitAt (scal ks) (254 - j) = z % 2 := by unfold bitAt; rw [← hm, hy, hz]
        refine wpList_value (v := .int .u8 (y : Nat)) rfl (by simp [execOp, Act.eval, go_sem, q]) ?_
        simp only [Act.put]
        refine wpList_value (v := .int .i64 (m : Nat)) rfl (by simp [execOp, Act.eval]) ?_
        simp only [Act.put]
        refine wpList_value (v := .int .i64 (m % 8 : Nat)) rfl (by simp [execOp, Act.eval, go_sem]; exact Int.tmod_eq_emod_of_nonneg m0) ?_
        simp only [Act.put]
        refine wpList_value (v := .int .u8 (z : Nat)) rfl (by simp [execOp, Act.eval, go_sem]; rw [show ((m : Int) % 8).toNat = m % 8 by omega, ← hz]; simp) ?_
        simp only [Act.put]
        refine wpList_value (v := .int .i64 (z : Nat)) rfl (by simp [execOp, Act.eval, go_sem]; rw [IntKind.wrap_i64]; omega) ?_
        simp only [Act.put]
        refine wpList_value (v := .int .i64 (z % 2 : Nat)) rfl (by simp [execOp, Act.eval, go_sem]; exact and1 ⟨z, zl⟩) ?_
        simp only [Act.put]
        clear q hy hz yl m0
        obtain ⟨t, ht⟩ : ∃ x, z % 2 = x := ⟨_, rfl⟩
        have t1 : t ≤ 1 := by omega
        rw [ht] at hb
        rw [ht]
        clear ht zl
        have HN : Hid (ladTo (scal ks) u (j + 1) = (((ladTo (scal ks) u j).swap t).step u).swap t) := (by show (((ladTo (scal ks) u j).swap (bitAt (scal ks) (254 - j))).step u).swap (bitAt (scal ks) (254 - j)) = _; rw [hb] : ladTo (scal ks) u (j + 1) = (((ladTo (scal ks) u j).swap t).step u).swap t)
        have OKL := ladTo_ok (scal ks) u HUL.out j
        generalize ladTo (scal ks) u j = l at *
        have HB : Hid _ := hb
        have HMJ : Hid (m = 254 - j) := hm
        clear hb hm
        go_wp2_with fail
        refine region_list wr.heap.size (C := fun w' => Below wr.heap.size wr w') [.inl (.agg (LC l)), .inl (.int .i64 (t : Nat)), .inl (.agg (LC (l.swap t))), .inl (E4 u), .inl (.agg (LC ((l.swap t).step u))), .inl (.int .i64 (t : Nat)), .inl (.agg (LC (((l.swap t).step u).swap t)))] [] (by kernel_rfl) (by kernel_rfl) ⟨rfl, rfl, rfl, Nat.le_refl _, fun _ _ => rfl⟩
          (fun w1 w2 h1 h2 => h1.trans (h2.mono h1.size)) (fun i h => by simp at h) ?_ ?_
        · refine ⟨?_, ?_, ?_, ?_, ?_, ?_, ?_, trivial⟩
          · intro s v hC hk hd
            have h : s.tmps[6]? = some (.pointer (some ⟨g18, 0, none⟩)) := hk 6 (by kernel_rfl)
            exact ok_load rfl rfl h (((HM.out).keep hC).get 0 rfl) Try.underlying49 rfl (by kernel_rfl) (rfl)
          · intro s v hC hk hd
            have h0 : s.tmps[8]? = some (.int .i64 (t : Nat)) := hk 8 (by kernel_rfl)
            exact ok_value rfl (by simp [execOp, Act.eval, h0, go_sem])
          · intro s v hC hk hd
            have h0 : s.tmps[30]? = some (.agg (LC l)) := hd 0 (by kernel_rfl)
            have h1 : s.tmps[31]? = some (.int .i64 (t : Nat)) := hd 1 (by kernel_rfl)
            exact ok_call rfl (by simp [Act.eval, h0, h1, go_sem]) (swapped_any l t t1 v)
          · intro s v hC hk hd
            have h : s.tmps[5]? = some (.pointer (some ⟨g11, 0, none⟩)) := hk 5 (by kernel_rfl)
            exact ok_load rfl rfl h (((HM.out).keep hC).get 1 rfl) Try.underlying45 rfl (by kernel_rfl) (rfl)
          · intro s v hC hk hd
            have h0 : s.tmps[32]? = some (.agg (LC (l.swap t))) := hd 2 (by kernel_rfl)
            have h1 : s.tmps[33]? = some (E4 u) := hd 3 (by kernel_rfl)
            exact ok_call rfl (by simp [Act.eval, h0, h1, go_sem]) (step_any u (l.swap t) HUL.out (swap_ok OKL) v)
          · intro s v hC hk hd
            have h0 : s.tmps[8]? = some (.int .i64 (t : Nat)) := hk 8 (by kernel_rfl)
            exact ok_value rfl (by simp [execOp, Act.eval, h0, go_sem])
          · intro s v hC hk hd
            have h0 : s.tmps[34]? = some (.agg (LC ((l.swap t).step u))) := hd 4 (by kernel_rfl)
            have h1 : s.tmps[35]? = some (.int .i64 (t : Nat)) := hd 5 (by kernel_rfl)
            exact ok_call rfl (by simp [Act.eval, h0, h1, go_sem]) (swapped_any ((l.swap t).step u) t t1 v)
        · intro nb wA22 hC hf hne
          have M23 := (HM.out).keep hC
          clear hf hne hC
          simp [valsOf, valOf, putAll, Act.put]
          have HM : Hid (Mem w.heap.size w wA22 [(g18, .cells (LC l) 49), (g11, .cells (C4 u) 45), (w.heap.size + 1 + 1, .cells zs 23), (w.heap.size + 1, .cells (cs8 us) 23), (w.heap.size, .cells (cs8 (scal ks)) 23)]) := M23
          refine wpList_store_blk (b := g18) rfl rfl rfl rfl ((HM.out).get 0 rfl) (by kernel_rfl) (rfl) (rfl) ((by simp [Value.oneCell'])) ?_
          simp only [Act.put]
          generalize hV25 : World.setCells wA22 (g18) 0 _ = V24
          have HM26 : Hid (Mem w.heap.size w V24 [(g18, .cells (LC (((l.swap t).step u).swap t)) 49), (g11, .cells (C4 u) 45), (w.heap.size + 1 + 1, .cells zs 23), (w.heap.size + 1, .cells (cs8 us) 23), (w.heap.size, .cells (cs8 (scal ks)) 23)]) := (by rw [← hV25]; exact (HM.out).store 0 (LC (((l.swap t).step u).swap t)) rfl rfl : Mem w.heap.size w V24 [(g18, .cells (LC (((l.swap t).step u).swap t)) 49), (g11, .cells (C4 u) 45), (w.heap.size + 1 + 1, .cells zs 23), (w.heap.size + 1, .cells (cs8 us) 23), (w.heap.size, .cells (cs8 (scal ks)) 23)])
          clear hV25 HM
          go_wp2_with fail
          go_roundw
          case rel =>
            have hm := HMJ.out
            exact ⟨j + 1, by omega, int_eq (by omega), by rw [HN.out]; exact HM26.out⟩
          case measure => simp [intOf]
      · have ej : j = 255 := by omega
        subst ej
        have e1 : (254 - ((255 : Nat) : Int)) = -1 := by omega
        rw [e1]
        have OKL := ladTo_ok (scal ks) u HUL.out 255
        have hr := HR.out
        generalize ladTo (scal ks) u 255 = l at *
        obtain ⟨X2, Z2, X3, Z3⟩ := l
        obtain ⟨l_X2, l_Z2, _, _⟩ := OKL
        simp only at l_X2 l_Z2 hr
        have KI := fun w => inv_any Z2 (Nat.lt_trans l_Z2 pN_top) w
        have l_iz := inv_lt Z2
        generalize invTo Z2 255 = iz at *
        have e_r : X2 * iz % pN = r := hr
        clear hr hlt hj e1
        have HL : Hid (Mem w.heap.size w wr [(g18, .cells (L4 X2 Z2 X3 Z3) 49), (g11, .cells (C4 u) 45), (w.heap.size + 1 + 1, .cells zs 23), (w.heap.size + 1, .cells (cs8 us) 23), (w.heap.size, .cells (cs8 (scal ks)) 23)]) := HM.out
        clear HM
        go_wp2_with fail
        refine region_list wr.heap.size (C := fun w' => Below wr.heap.size wr w') [.inl (.pointer (some ⟨g18, 0, none⟩)), .inl (E4 X2), .inl (.pointer (some ⟨g18, 4, none⟩)), .inl (E4 Z2), .inl (E4 iz), .inr (.cells #[.int .u64 (w0 X2 : Nat), .int .u64 (w1 X2 : Nat), .int .u64 (w2 X2 : Nat), .int .u64 (w3 X2 : Nat), .int .u64 (w0 iz : Nat), .int .u64 (w1 iz : Nat), .int .u64 (w2 iz : Nat), .int .u64 (w3 iz : Nat)] 45, fun b => .slice (some ⟨b, 0, none⟩) 2 2), .inl (E4 r), .inl (.agg (cs8 (keyL r)))] [] (by kernel_rfl) (by kernel_rfl) ⟨rfl, rfl, rfl, Nat.le_refl _, fun _ _ => rfl⟩
          (fun w1 w2 h1 h2 => h1.trans (h2.mono h1.size)) (fun i h => by simp at h) ?_ ?_
        · refine ⟨?_, ?_, ?_, ?_, ?_, ?_, ?_, ?_, trivial⟩
          · intro s v hC hk hd
            have h0 : s.tmps[6]? = some (.pointer (some ⟨g18, 0, none⟩)) := hk 6 (by kernel_rfl)
            exact ok_value rfl (by simp [execOp, Act.eval, h0, go_sem])
          · intro s v hC hk hd
            have h : s.tmps[37]? = some (.pointer (some ⟨g18, 0, none⟩)) := hd 0 (by kernel_rfl)
            exact ok_load_at rfl rfl h (((HL.out).keep hC).get 0 rfl) (part4 rfl rfl rfl rfl) Try.underlying45 rfl (by kernel_rfl)
          · intro s v hC hk hd
            have h0 : s.tmps[6]? = some (.pointer (some ⟨g18, 0, none⟩)) := hk 6 (by kernel_rfl)
            exact ok_value rfl (by simp [execOp, Act.eval, h0, go_sem])
          · intro s v hC hk hd
            have h : s.tmps[39]? = some (.pointer (some ⟨g18, 4, none⟩)) := hd 2 (by kernel_rfl)
            exact ok_load_at rfl rfl h (((HL.out).keep hC).get 0 rfl) (part4 rfl rfl rfl rfl) Try.underlying45 rfl (by kernel_rfl)
          · intro s v hC hk hd
            have h0 : s.tmps[40]? = some (E4 Z2) := hd 3 (by kernel_rfl)
            exact ok_call rfl (by simp [Act.eval, h0, go_sem]) (KI v)
          · intro s v hC hk hd
            have h0 : s.tmps[38]? = some (E4 X2) := hd 1 (by kernel_rfl)
            have h1 : s.tmps[41]? = some (E4 iz) := hd 4 (by kernel_rfl)
            exact ok_new hC.size rfl (by simp [execOp, Act.eval, h0, h1, go_sem])
          · intro s v hC hk hd
            obtain ⟨h0b, h0, h0l, h0h⟩ := holds_new (s.tmps[42]?) v (.cells #[.int .u64 (w0 X2 : Nat), .int .u64 (w1 X2 : Nat), .int .u64 (w2 X2 : Nat), .int .u64 (w3 X2 : Nat), .int .u64 (w0 iz : Nat), .int .u64 (w1 iz : Nat), .int .u64 (w2 iz : Nat), .int .u64 (w3 iz : Nat)] 45) (fun b => .slice (some ⟨b, 0, none⟩) 2 2) (hd 5 (by kernel_rfl))
            exact ok_call rfl (by simp [Act.eval, h0, go_sem]) (mul2e X2 iz r l_X2 l_iz e_r v h0b h0h)
          · intro s v hC hk hd
            have h0 : s.tmps[43]? = some (E4 r) := hd 6 (by kernel_rfl)
            exact ok_call rfl (by simp [Act.eval, h0, go_sem]) (key_any r v)
        · intro nb wA27 hC hf hne
          have M28 := (HL.out).keep hC
          clear hf hne hC
          simp [valsOf, valOf, putAll, Act.put]
          have HM : Hid (Mem w.heap.size w wA27 [(g18, .cells (L4 X2 Z2 X3 Z3) 49), (g11, .cells (C4 u) 45), (w.heap.size + 1 + 1, .cells zs 23), (w.heap.size + 1, .cells (cs8 us) 23), (w.heap.size, .cells (cs8 (scal ks)) 23)]) := M28
          refine wpList_store_blk (b := w.heap.size + 1 + 1) rfl rfl rfl rfl ((HM.out).get 2 rfl) (by kernel_rfl) (SZ.out) ((keyC_size r)) (cs8_one _) ?_
          simp only [Act.put]
          generalize hV30 : World.setCells wA27 (w.heap.size + 1 + 1) 0 _ = V29
          have HM31 : Hid (Mem w.heap.size w V29 [(g18, .cells (L4 X2 Z2 X3 Z3) 49), (g11, .cells (C4 u) 45), (w.heap.size + 1 + 1, .cells (cs8 (keyL r)) 23), (w.heap.size + 1, .cells (cs8 us) 23), (w.heap.size, .cells (cs8 (scal ks)) 23)]) := (by rw [← hV30]; exact (HM.out).store 2 (cs8 (keyL r)) rfl ((SZ.out).trans ((keyC_size r)).symm) : Mem w.heap.size w V29 [(g18, .cells (L4 X2 Z2 X3 Z3) 49), (g11, .cells (C4 u) 45), (w.heap.size + 1 + 1, .cells (cs8 (keyL r)) 23), (w.heap.size + 1, .cells (cs8 us) 23), (w.heap.size, .cells (cs8 (scal ks)) 23)])
          clear hV30 HM
          go_wp2_with fail
          exact bodyPost_ret (v := .agg (cs8 (keyL r))) (results_blk (b := w.heap.size + 1 + 1) Try.results10 rfl ((HM31.out).get 2 rfl) Try.underlying23 rfl (by kernel_rfl) (keyC_size r)) rfl ⟨rfl, (HM31.out).below⟩

theorem cmul_any (ks us : List Nat) (hk : Bytes ks) (hu : Bytes us) (w : World) : Calls Try.prog 10 #[.agg (cs8 ks), .agg (cs8 us)] w fun e w' => e = .returned (.agg (cs8 (keyL (curveN ks us)))) ∧ Below w.heap.size w w' :=
  cmul_raw ks us hk hu (numOf us % pN) _ (Nat.mod_lt _ (by decide)) (of_any us hu) rfl w
end Go.Proofs.Ytfciodbgjljjhaa
