/- The walk of the document's answer of layer 2: the ladder, bit by bit. -/
import Derived.Test.YtfciodbgjljjhaaLad
import Derived.Test.YtfciodbgjljjhaaC3
import Derived.Test.YtfciodbgjljjhaaReg3
import Derived.Test.YtfciodbgjljjhaaRef5
import Derived.Test.YtfciodbgjljjhaaRef6
import Derived.Test.YtfciodbgjljjhaaRef9
import Derived.Test.YtfciodbgjljjhaaRef10
namespace Go.Proofs.Ytfciodbgjljjhaa
open Go.RowKit

theorem Mem.tail {B : Nat} {w0 w : World} {x : Nat × Obj} {l : List (Nat × Obj)} (M : Mem B w0 w (x :: l)) : Mem B w0 w l :=
  ⟨M.below, fun i y h => M.has (i + 1) y (by simpa using h), fun i j y z h1 h2 hn => M.apart (i + 1) (j + 1) y z (by simpa using h1) (by simpa using h2) (by omega), fun i y h => M.base (i + 1) y (by simpa using h)⟩
theorem and_248 : ∀ v : Fin 256, bits .and .u8 ((v.val : Nat) : Int) 248 = ((v.val / 8 * 8 : Nat) : Int) := by decide +kernel
theorem and_127 : ∀ v : Fin 256, bits .and .u8 ((v.val : Nat) : Int) 127 = ((v.val % 128 : Nat) : Int) := by decide +kernel
theorem and1' : ∀ z : Fin 256, bits BinOp.and IntKind.u8 ((z.val : Nat) : Int) 1 = ((z.val : Nat) : Int) % 2 := by decide +kernel
theorem scal_cells (ks : List Nat) (h : Bytes ks) : ((cs8 ks).setIfInBounds 0 (.int .u8 ((ks.getD 0 0 / 8 * 8 : Nat) : Int))).setIfInBounds 31 (.int .u8 ((ks.getD 31 0 % 128 % 64 + 64 : Nat) : Int)) = cs8 (scal ks) := by
  refine Array.ext_getElem? fun j => ?_
  have hm : ks.getD 31 0 % 128 % 64 = ks.getD 31 0 % 64 := by omega
  simp only [Array.getElem?_setIfInBounds, Array.size_setIfInBounds, cs8, scal, List.getElem?_toArray, List.getElem?_map, List.getElem?_set, List.length_set, List.size_toArray, List.length_map, h.1, hm]
  by_cases e1 : 31 = j
  · simp [e1]
  · by_cases e2 : 0 = j
    · simp [e1, e2]
    · simp [e1, e2]
theorem mN_assoc (u l : Nat) : mN u (mN l l) = mN (mN u l) l := by
  unfold mN
  rw [Nat.mul_mod_mod, Nat.mod_mul_mod, Nat.mul_assoc]
theorem ca_zero : (#[.int .u64 0, .int .u64 0, .int .u64 0, .int .u64 0, .int .u64 0, .int .u64 0, .int .u64 0, .int .u64 0, .int .u64 0, .int .u64 0, .int .u64 0, .int .u64 0, .int .u64 0, .int .u64 0, .int .u64 0, .int .u64 0] : Array Value) = ca 16 (dg 0) := by simp [ca, dg, List.range, List.range.loop]

set_option maxRecDepth 100000 in
set_option maxHeartbeats 16000000 in
theorem rcurve_raw (ks us : List Nat) (hk : Bytes ks) (hu : Bytes us) (u r : Nat) (hul : u < pN) (ku : ∀ w, Calls Try.prog 23 #[.agg (cs8 us)] w fun e w' => e = .returned (.agg (ca 16 (dg u))) ∧ Below w.heap.size w w')
    (hr : mN (ladTo (scal ks) u 255).x2 (invTo (ladTo (scal ks) u 255).z2 255) = r) (w : World) :
    Calls Try.prog 14 #[.agg (cs8 ks), .agg (cs8 us)] w fun e w' => e = .returned (.agg (cs8 (keyL r))) ∧ Below w.heap.size w w' := by
  have HK : Hid _ := hk
  have KU : Hid _ := ku
  have HUL : Hid _ := hul
  have HR : Hid _ := hr
  have SK : Hid ((cs8 (scal ks)).size = 32) := (by simp [cs8, (scal_bytes hk).1] : (cs8 (scal ks)).size = 32)
  have SK0 : Hid ((cs8 ks).size = 32) := (by simp [cs8, hk.1] : (cs8 ks).size = 32)
  have SU0 : Hid ((cs8 us).size = 32) := (by simp [cs8, hu.1] : (cs8 us).size = 32)
  have h0 := hk.2 0
  have h31 := hk.2 31
  have H0 : Hid _ := cs8_get ks 0 (by rw [hk.1]; decide)
  have H31 : Hid _ := cs8_get ks 31 (by rw [hk.1]; decide)
  have HC : Hid _ := scal_cells ks hk
  have A0 := and_248 ⟨ks.getD 0 0, h0⟩
  have A31 := and_127 ⟨ks.getD 31 0, h31⟩
  have O31 := or_64 ⟨ks.getD 31 0 % 128, by omega⟩
  simp only at A0 A31 O31
  generalize ks.getD 0 0 = k0 at *
  generalize ks.getD 31 0 = k31 at *
  generalize hb0 : ((k0 / 8 * 8 : Nat) : Int) = b0 at *
  generalize hb31 : ((k31 % 128 : Nat) : Int) = b31 at *
  generalize hd31 : ((k31 % 128 % 64 + 64 : Nat) : Int) = d31 at *
  clear hk hu ku hul hr h0 h31 hb0 hb31 hd31
  go_enter Try.func14, Try.ntmps14
  go_upto_region 1 with fail
  generalize hW : World.alloc (World.alloc (World.alloc w _) _) _ = W
  obtain ⟨zs, hz, hm⟩ : ∃ zs : Array Value, zs.size = 32 ∧ Mem w.heap.size w W [(w.heap.size + 1 + 1, .cells zs 22), (w.heap.size + 1, .cells (cs8 us) 22), (w.heap.size, .cells (cs8 ks) 22)] := ⟨_, rfl, (by rw [← hW]; exact (((Mem.start w).allocAt _ rfl).allocAt _ (by simp)).allocAt _ (by simp))⟩
  have SZ : Hid _ := hz
  have HM : Hid _ := hm
  clear hW hz hm
  have q0 := (cell_of (HM.out.get 2 rfl) 0).trans H0.out
  have f0 := frozen_of (HM.out.get 2 rfl) 0
  go_upto_region 2 with fail
  generalize hV : W.setCell _ _ = V
  have HV : Hid (Mem w.heap.size w V [(w.heap.size + 1 + 1, .cells zs 22), (w.heap.size + 1, .cells (cs8 us) 22), (w.heap.size, .cells ((cs8 ks).setIfInBounds 0 (.int .u8 b0)) 22)]) := (by rw [← hV, ← A0]; exact HM.out.put 2 0 _ rfl : Mem w.heap.size w V [(w.heap.size + 1 + 1, .cells zs 22), (w.heap.size + 1, .cells (cs8 us) 22), (w.heap.size, .cells ((cs8 ks).setIfInBounds 0 (.int .u8 b0)) 22)])
  clear hV HM q0 f0
  have q1 := (cell_of (HV.out.get 2 rfl) 31).trans ((Array.getElem?_setIfInBounds_ne (by decide)).trans H31.out)
  have f1 := frozen_of (HV.out.get 2 rfl) 31
  go_upto_region 3 with fail
  generalize hU : V.setCell _ _ = U
  have HM : Hid (Mem w.heap.size w U [(w.heap.size + 1 + 1, .cells zs 22), (w.heap.size + 1, .cells (cs8 us) 22), (w.heap.size, .cells (cs8 (scal ks)) 22)]) := (by rw [← hU, ← HC.out]; exact HV.out.put 2 31 _ rfl : Mem w.heap.size w U [(w.heap.size + 1 + 1, .cells zs 22), (w.heap.size + 1, .cells (cs8 us) 22), (w.heap.size, .cells (cs8 (scal ks)) 22)])
  clear hU HV q1 f1 A0 A31 O31 HC H0 H31
  refine wp_region_list ?_
  refine wpList_load_blk (b := w.heap.size + 1) rfl rfl rfl ((HM.out).get 1 rfl) Try.underlying22 rfl (by kernel_rfl) (SU0.out) ?_
  simp only [Act.put, List.setIfInBounds_toArray, List.set_cons_succ, List.set_cons_zero]
  refine wpList_call rfl (by simp [Act.eval, go_sem]) (KU.out _) fun u1 hb => ?_
  have HM2 : Hid (Mem w.heap.size w u1 [(w.heap.size + 1 + 1, .cells zs 22), (w.heap.size + 1, .cells (cs8 us) 22), (w.heap.size, .cells (cs8 (scal ks)) 22)]) := (HM.out).keep hb
  clear hb HM
  simp only [Act.put, List.setIfInBounds_toArray, List.set_cons_succ, List.set_cons_zero]
  refine wpList_alloc (o := .cells #[.int .u64 0, .int .u64 0, .int .u64 0, .int .u64 0, .int .u64 0, .int .u64 0, .int .u64 0, .int .u64 0, .int .u64 0, .int .u64 0, .int .u64 0, .int .u64 0, .int .u64 0, .int .u64 0, .int .u64 0, .int .u64 0] 56) (v := .pointer (some ⟨u1.heap.size, 0, none⟩)) rfl (by simp [execOp, go_sem]) ?_
  simp only [Act.put, List.setIfInBounds_toArray, List.set_cons_succ, List.set_cons_zero]
  have HM5 : Hid (Mem w.heap.size w _ [(u1.heap.size, .cells #[.int .u64 0, .int .u64 0, .int .u64 0, .int .u64 0, .int .u64 0, .int .u64 0, .int .u64 0, .int .u64 0, .int .u64 0, .int .u64 0, .int .u64 0, .int .u64 0, .int .u64 0, .int .u64 0, .int .u64 0, .int .u64 0] 56), (w.heap.size + 1 + 1, .cells zs 22), (w.heap.size + 1, .cells (cs8 us) 22), (w.heap.size, .cells (cs8 (scal ks)) 22)]) := (HM2.out).alloc (.cells #[.int .u64 0, .int .u64 0, .int .u64 0, .int .u64 0, .int .u64 0, .int .u64 0, .int .u64 0, .int .u64 0, .int .u64 0, .int .u64 0, .int .u64 0, .int .u64 0, .int .u64 0, .int .u64 0, .int .u64 0, .int .u64 0] 56)
  clear HM2
  generalize u1.alloc (.cells #[.int .u64 0, .int .u64 0, .int .u64 0, .int .u64 0, .int .u64 0, .int .u64 0, .int .u64 0, .int .u64 0, .int .u64 0, .int .u64 0, .int .u64 0, .int .u64 0, .int .u64 0, .int .u64 0, .int .u64 0, .int .u64 0] 56) = V3 at *
  generalize u1.heap.size = g6 at *
  refine wpList_store_blk (b := g6) rfl rfl rfl rfl ((HM5.out).get 0 rfl) (by kernel_rfl) (rfl) (ca_size _ _) (ca_one _ _) ?_
  simp only [Act.put]
  generalize hV8 : World.setCells V3 (g6) 0 _ = V7
  have HM9 : Hid (Mem w.heap.size w V7 [(g6, .cells (ca 16 (dg u)) 56), (w.heap.size + 1 + 1, .cells zs 22), (w.heap.size + 1, .cells (cs8 us) 22), (w.heap.size, .cells (cs8 (scal ks)) 22)]) := (by rw [← hV8]; exact (HM5.out).store 0 (ca 16 (dg u)) rfl (by simp [ca_size]) : Mem w.heap.size w V7 [(g6, .cells (ca 16 (dg u)) 56), (w.heap.size + 1 + 1, .cells zs 22), (w.heap.size + 1, .cells (cs8 us) 22), (w.heap.size, .cells (cs8 (scal ks)) 22)])
  clear hV8 HM5
  go_wp2_with fail
  refine region_assign4 32 6 (ca 16 (dg 1)) #[.int .u64 0, .int .u64 0, .int .u64 0, .int .u64 0, .int .u64 0, .int .u64 0, .int .u64 0, .int .u64 0, .int .u64 0, .int .u64 0, .int .u64 0, .int .u64 0, .int .u64 0, .int .u64 0, .int .u64 0, .int .u64 0] (ca 16 (dg u)) (ca 16 (dg 1)) #[.int .u64 0, .int .u64 0, .int .u64 0, .int .u64 0, .int .u64 0, .int .u64 0, .int .u64 0, .int .u64 0, .int .u64 0, .int .u64 0, .int .u64 0, .int .u64 0, .int .u64 0, .int .u64 0, .int .u64 0, .int .u64 0] 56 (by kernel_rfl) (by kernel_rfl) ⟨by simp, by simp, by omega⟩
    ⟨by rw [ca_size]; rfl, ca_one _ _, by rw [ca_size]; kernel_rfl⟩ ⟨rfl, by simp [Value.oneCell'], by kernel_rfl⟩ ⟨by rw [ca_size]; rfl, ca_one _ _, by rw [ca_size]; kernel_rfl⟩ ⟨by rw [ca_size]; rfl, ca_one _ _, by rw [ca_size]; kernel_rfl⟩
    ⟨rfl, fun a w hB hk => ⟨ok_call rfl (by simp [Act.eval, go_sem]) (small_any 1 (by decide) w), rfl⟩⟩
    ⟨rfl, fun a w hB hk => ⟨ok_value rfl (by simp [execOp, go_sem]), rfl⟩⟩
    ⟨rfl, fun a w hB hk => ⟨ok_load rfl rfl ((hk 5 (by omega) (by omega)).trans rfl) (((HM9.out).keep hB).get 0 rfl) Try.underlying56 rfl (by kernel_rfl) (ca_size _ _), rfl⟩⟩
    ⟨rfl, fun a w hB hk => ⟨ok_call rfl (by simp [Act.eval, go_sem]) (small_any 1 (by decide) w), rfl⟩⟩
    ⟨rfl, rfl, fun a w => by simp [execOp, go_sem]⟩
    ⟨rfl, rfl, fun a w => by simp [execOp, go_sem]⟩
    ⟨rfl, rfl, fun a w => by simp [execOp, go_sem]⟩
    ⟨rfl, rfl, fun a w => by simp [execOp, go_sem]⟩
    ⟨rfl, rfl, rfl, of_decide_eq_true (by kernel_rfl), of_decide_eq_true (by kernel_rfl)⟩
    ⟨rfl, rfl, rfl, of_decide_eq_true (by kernel_rfl), of_decide_eq_true (by kernel_rfl)⟩
    ⟨rfl, rfl, rfl, of_decide_eq_true (by kernel_rfl), of_decide_eq_true (by kernel_rfl)⟩
    ⟨rfl, rfl, rfl, of_decide_eq_true (by kernel_rfl), of_decide_eq_true (by kernel_rfl)⟩
    ?_
  intro b0 b1 b2 b3 wB hB l0 l1 l2 l3 f0 f1 f2 f3 n01 n02 n03 n12 n13 n23
  have M1 := ((HM9.out).keep hB).also ((HM9.out).ne_new l0) (Nat.le_trans (HM9.out).size l0) f0
  have M2 := M1.also (Mem.ne_cons n01 ((HM9.out).ne_new l1)) (Nat.le_trans (HM9.out).size l1) f1
  have M3 := M2.also (Mem.ne_cons n12 (Mem.ne_cons n02 ((HM9.out).ne_new l2))) (Nat.le_trans (HM9.out).size l2) f2
  have M4 := M3.also (Mem.ne_cons n23 (Mem.ne_cons n13 (Mem.ne_cons n03 ((HM9.out).ne_new l3)))) (Nat.le_trans (HM9.out).size l3) f3
  have HM4 : Hid (Mem w.heap.size w wB [(b3, .cells (ca 16 (dg 1)) 56), (b2, .cells (ca 16 (dg u)) 56), (b1, .cells #[.int .u64 0, .int .u64 0, .int .u64 0, .int .u64 0, .int .u64 0, .int .u64 0, .int .u64 0, .int .u64 0, .int .u64 0, .int .u64 0, .int .u64 0, .int .u64 0, .int .u64 0, .int .u64 0, .int .u64 0, .int .u64 0] 56), (b0, .cells (ca 16 (dg 1)) 56), (g6, .cells (ca 16 (dg u)) 56), (w.heap.size + 1 + 1, .cells zs 22), (w.heap.size + 1, .cells (cs8 us) 22), (w.heap.size, .cells (cs8 (scal ks)) 22)]) := M4
  clear M1 M2 M3 M4 hB l0 l1 l2 l3 f0 f1 f2 f3 n01 n02 n03 n12 n13 n23
  simp only [Act.put, List.setIfInBounds_toArray, List.set_cons_succ, List.set_cons_zero]
  have HS : Hid (Mem w.heap.size w wB [(b3, .cells (ca 16 (dg 1)) 56), (b2, .cells (ca 16 (dg u)) 56), (b1, .cells (ca 16 (dg 0)) 56), (b0, .cells (ca 16 (dg 1)) 56), (g6, .cells (ca 16 (dg u)) 56), (w.heap.size + 1 + 1, .cells zs 22), (w.heap.size + 1, .cells (cs8 us) 22), (w.heap.size, .cells (cs8 (scal ks)) 22)]) := (by rw [← ca_zero]; exact HM4.out : Mem w.heap.size w wB [(b3, .cells (ca 16 (dg 1)) 56), (b2, .cells (ca 16 (dg u)) 56), (b1, .cells (ca 16 (dg 0)) 56), (b0, .cells (ca 16 (dg 1)) 56), (g6, .cells (ca 16 (dg u)) 56), (w.heap.size + 1 + 1, .cells zs 22), (w.heap.size + 1, .cells (cs8 us) 22), (w.heap.size, .cells (cs8 (scal ks)) 22)])
  clear HM4
  go_wp2_with fail
  go_loopw [10, 11] (fun i _ wr => ∃ j : Nat, j ≤ 255 ∧ i = .int .i64 (254 - (j : Int)) ∧ Mem w.heap.size w wr [(b3, .cells (ca 16 (dg (ladTo (scal ks) u j).z3)) 56), (b2, .cells (ca 16 (dg (ladTo (scal ks) u j).x3)) 56), (b1, .cells (ca 16 (dg (ladTo (scal ks) u j).z2)) 56), (b0, .cells (ca 16 (dg (ladTo (scal ks) u j).x2)) 56), (g6, .cells (ca 16 (dg u)) 56), (w.heap.size + 1 + 1, .cells zs 22), (w.heap.size + 1, .cells (cs8 us) 22), (w.heap.size, .cells (cs8 (scal ks)) 22)]) (fun i _ _ => (intOf i + 1).toNat)
  case atStart => exact ⟨0, by omega, rfl, HS.out⟩
  case round =>
    obtain ⟨j, hj, rfl, MM⟩ := hrel
    have HM : Hid _ := MM
    clear MM HS
    by_cases hlt : j < 255
    · obtain ⟨m, hm⟩ : ∃ m : Nat, m = 254 - j := ⟨_, rfl⟩
      have e1 : (254 - (j : Int)) = (m : Int) := by omega
      rw [e1]
      have hm2 : m ≤ 254 := by omega
      have m0 : (0 : Int) ≤ m := by omega
      go_upto_region 8 with fail
      refine wp_region_list ?_
      refine wpList_value (v := .int .i64 (m : Nat)) rfl (by simp [execOp, Act.eval]) ?_
      simp only [Act.put, List.setIfInBounds_toArray, List.set_cons_succ, List.set_cons_zero]
      refine wpList_value (v := .int .i64 (m / 8 : Nat)) rfl (by simp [execOp, Act.eval, go_sem]; rw [IntKind.wrap_i64]; omega) ?_
      simp only [Act.put, List.setIfInBounds_toArray, List.set_cons_succ, List.set_cons_zero]
      refine wpList_value (v := .pointer (some ⟨w.heap.size, m / 8, none⟩)) rfl (by simp [execOp, Act.eval, go_sem]; rw [if_pos (by omega), show ((m : Int) / 8).toNat = m / 8 by omega]) ?_
      simp only [Act.put, List.setIfInBounds_toArray, List.set_cons_succ, List.set_cons_zero]
      have q := (cell_of (HM.out.get 7 rfl) (m / 8)).trans (cs8_get (scal ks) (m / 8) (by rw [(scal_bytes HK.out).1]; omega))
      obtain ⟨y, hy⟩ : ∃ x, (scal ks).getD (m / 8) 0 = x := ⟨_, rfl⟩
      rw [hy] at q
      have yl : y < 256 := hy ▸ (scal_bytes HK.out).2 (m / 8)
      obtain ⟨z, hz⟩ : ∃ x, y / 2 ^ (m % 8) = x := ⟨_, rfl⟩
      have zl : z < 256 := by rw [← hz]; exact Nat.lt_of_le_of_lt (Nat.div_le_self _ _) yl
      have hb : bitAt (scal ks) (254 - j) = z % 2 := by unfold bitAt; rw [← hm, hy, hz]
      refine wpList_value (v := .int .u8 (y : Nat)) rfl (by simp [execOp, Act.eval, go_sem, q]) ?_
      simp only [Act.put, List.setIfInBounds_toArray, List.set_cons_succ, List.set_cons_zero]
      refine wpList_value (v := .int .i64 (m : Nat)) rfl (by simp [execOp, Act.eval]) ?_
      simp only [Act.put, List.setIfInBounds_toArray, List.set_cons_succ, List.set_cons_zero]
      refine wpList_value (v := .int .i64 (m % 8 : Nat)) rfl (by simp [execOp, Act.eval, go_sem]; exact Int.tmod_eq_emod_of_nonneg m0) ?_
      simp only [Act.put, List.setIfInBounds_toArray, List.set_cons_succ, List.set_cons_zero]
      refine wpList_value (v := .int .u8 (z : Nat)) rfl (by simp [execOp, Act.eval, go_sem]; rw [show ((m : Int) % 8).toNat = m % 8 by omega, ← hz]; simp) ?_
      simp only [Act.put, List.setIfInBounds_toArray, List.set_cons_succ, List.set_cons_zero]
      refine wpList_value (v := .int .u8 (z % 2 : Nat)) rfl (by simp [execOp, Act.eval, go_sem]; exact and1' ⟨z, zl⟩) ?_
      simp only [Act.put, List.setIfInBounds_toArray, List.set_cons_succ, List.set_cons_zero]
      clear q hy hz yl m0
      obtain ⟨t, ht⟩ : ∃ x, z % 2 = x := ⟨_, rfl⟩
      have t1 : t = 0 ∨ t = 1 := by omega
      rw [ht] at hb
      rw [ht]
      clear ht zl
      have HN : Hid (ladTo (scal ks) u (j + 1) = (((ladTo (scal ks) u j).swap t).step u).swap t) := (by show (((ladTo (scal ks) u j).swap (bitAt (scal ks) (254 - j))).step u).swap (bitAt (scal ks) (254 - j)) = _; rw [hb] : ladTo (scal ks) u (j + 1) = (((ladTo (scal ks) u j).swap t).step u).swap t)
      have OKL := ladTo_ok (scal ks) u HUL.out j
      generalize ladTo (scal ks) u j = l at *
      obtain ⟨A2, B2, A3, B3⟩ := l
      obtain ⟨l_A2, l_B2, l_A3, l_B3⟩ := OKL
      simp only at l_A2 l_B2 l_A3 l_B3
      have l_u := HUL.out
      have HB : Hid _ := hb
      have HMJ : Hid (m = 254 - j) := hm
      clear hb hm
      have HL : Hid (Mem w.heap.size w wr [(b3, .cells (ca 16 (dg B3)) 56), (b2, .cells (ca 16 (dg A3)) 56), (b1, .cells (ca 16 (dg B2)) 56), (b0, .cells (ca 16 (dg A2)) 56), (g6, .cells (ca 16 (dg u)) 56), (w.heap.size + 1 + 1, .cells zs 22), (w.heap.size + 1, .cells (cs8 us) 22), (w.heap.size, .cells (cs8 (scal ks)) 22)]) := HM.out
      clear HM
      rcases t1 with rfl | rfl
      · skip
        obtain ⟨sa, e_sa⟩ : ∃ x, (A2 + B2) % pN = x := ⟨_, rfl⟩
        have l_sa : sa < pN := e_sa ▸ Nat.mod_lt _ (by decide)
        obtain ⟨sb, e_sb⟩ : ∃ x, (A2 + (pN - B2)) % pN = x := ⟨_, rfl⟩
        have l_sb : sb < pN := e_sb ▸ Nat.mod_lt _ (by decide)
        obtain ⟨aa, e_aa⟩ : ∃ x, sa * sa % pN = x := ⟨_, rfl⟩
        have l_aa : aa < pN := e_aa ▸ Nat.mod_lt _ (by decide)
        obtain ⟨bb, e_bb⟩ : ∃ x, sb * sb % pN = x := ⟨_, rfl⟩
        have l_bb : bb < pN := e_bb ▸ Nat.mod_lt _ (by decide)
        obtain ⟨ee, e_ee⟩ : ∃ x, (aa + (pN - bb)) % pN = x := ⟨_, rfl⟩
        have l_ee : ee < pN := e_ee ▸ Nat.mod_lt _ (by decide)
        obtain ⟨dd, e_dd⟩ : ∃ x, (A3 + (pN - B3)) % pN = x := ⟨_, rfl⟩
        have l_dd : dd < pN := e_dd ▸ Nat.mod_lt _ (by decide)
        obtain ⟨da, e_da⟩ : ∃ x, dd * sa % pN = x := ⟨_, rfl⟩
        have l_da : da < pN := e_da ▸ Nat.mod_lt _ (by decide)
        obtain ⟨cc, e_cc⟩ : ∃ x, (A3 + B3) % pN = x := ⟨_, rfl⟩
        have l_cc : cc < pN := e_cc ▸ Nat.mod_lt _ (by decide)
        obtain ⟨cb, e_cb⟩ : ∃ x, cc * sb % pN = x := ⟨_, rfl⟩
        have l_cb : cb < pN := e_cb ▸ Nat.mod_lt _ (by decide)
        obtain ⟨su, e_su⟩ : ∃ x, (da + cb) % pN = x := ⟨_, rfl⟩
        have l_su : su < pN := e_su ▸ Nat.mod_lt _ (by decide)
        obtain ⟨le, e_le⟩ : ∃ x, (da + (pN - cb)) % pN = x := ⟨_, rfl⟩
        have l_le : le < pN := e_le ▸ Nat.mod_lt _ (by decide)
        obtain ⟨p3, e_p3⟩ : ∃ x, su * su % pN = x := ⟨_, rfl⟩
        have l_p3 : p3 < pN := e_p3 ▸ Nat.mod_lt _ (by decide)
        obtain ⟨l2, e_l2⟩ : ∃ x, le * le % pN = x := ⟨_, rfl⟩
        have l_l2 : l2 < pN := e_l2 ▸ Nat.mod_lt _ (by decide)
        obtain ⟨p4, e_p4⟩ : ∃ x, u * l2 % pN = x := ⟨_, rfl⟩
        have l_p4 : p4 < pN := e_p4 ▸ Nat.mod_lt _ (by decide)
        obtain ⟨p1, e_p1⟩ : ∃ x, aa * bb % pN = x := ⟨_, rfl⟩
        have l_p1 : p1 < pN := e_p1 ▸ Nat.mod_lt _ (by decide)
        obtain ⟨ff, e_ff⟩ : ∃ x, 121665 * ee % pN = x := ⟨_, rfl⟩
        have l_ff : ff < pN := e_ff ▸ Nat.mod_lt _ (by decide)
        obtain ⟨gg, e_gg⟩ : ∃ x, (aa + ff) % pN = x := ⟨_, rfl⟩
        have l_gg : gg < pN := e_gg ▸ Nat.mod_lt _ (by decide)
        obtain ⟨p2, e_p2⟩ : ∃ x, ee * gg % pN = x := ⟨_, rfl⟩
        have l_p2 : p2 < pN := e_p2 ▸ Nat.mod_lt _ (by decide)
        have e_q4 : u * le % pN * le % pN = p4 := by rw [← e_p4, ← e_l2]; exact (mN_assoc u le).symm
        have ST : Lad.step u ⟨A2, B2, A3, B3⟩ = ⟨p1, p2, p3, p4⟩ := by simp only [Lad.step, lS, lL, lE, lDA, lCB, lAA, lBB, lA, lB, aN, sN, mN, e_sa, e_sb, e_aa, e_bb, e_ee, e_dd, e_da, e_cc, e_cb, e_su, e_le, e_p3, e_p1, e_ff, e_gg, e_p2, e_q4]
        have HX : Hid (ladTo (scal ks) u (j + 1) = ⟨p1, p2, p3, p4⟩) := (by rw [HN.out]; show Lad.swap 0 (Lad.step u ⟨A2, B2, A3, B3⟩) = _; rw [ST]; rfl : ladTo (scal ks) u (j + 1) = ⟨p1, p2, p3, p4⟩)
        clear ST HN
        go_upto_region 11 with fail
        refine wp_region_list ?_
        refine wpList_load_blk (b := b0) rfl rfl rfl ((HL.out).get 3 rfl) Try.underlying56 rfl (by kernel_rfl) (ca_size _ _) ?_
        simp only [Act.put, List.setIfInBounds_toArray, List.set_cons_succ, List.set_cons_zero]
        refine wpList_load_blk (b := b1) rfl rfl rfl ((HL.out).get 2 rfl) Try.underlying56 rfl (by kernel_rfl) (ca_size _ _) ?_
        simp only [Act.put, List.setIfInBounds_toArray, List.set_cons_succ, List.set_cons_zero]
        refine wpList_call rfl (by simp [Act.eval, go_sem]) (radd_e A2 B2 sa l_A2 l_B2 e_sa _) fun u10 hb => ?_
        have HM11 : Hid (Mem w.heap.size w u10 [(b3, .cells (ca 16 (dg B3)) 56), (b2, .cells (ca 16 (dg A3)) 56), (b1, .cells (ca 16 (dg B2)) 56), (b0, .cells (ca 16 (dg A2)) 56), (g6, .cells (ca 16 (dg u)) 56), (w.heap.size + 1 + 1, .cells zs 22), (w.heap.size + 1, .cells (cs8 us) 22), (w.heap.size, .cells (cs8 (scal ks)) 22)]) := (HL.out).keep hb
        clear hb HL
        simp only [Act.put, List.setIfInBounds_toArray, List.set_cons_succ, List.set_cons_zero]
        refine wpList_alloc (o := .cells #[.int .u64 0, .int .u64 0, .int .u64 0, .int .u64 0, .int .u64 0, .int .u64 0, .int .u64 0, .int .u64 0, .int .u64 0, .int .u64 0, .int .u64 0, .int .u64 0, .int .u64 0, .int .u64 0, .int .u64 0, .int .u64 0] 56) (v := .pointer (some ⟨u10.heap.size, 0, none⟩)) rfl (by simp [execOp, go_sem]) ?_
        simp only [Act.put, List.setIfInBounds_toArray, List.set_cons_succ, List.set_cons_zero]
        have HM14 : Hid (Mem w.heap.size w _ [(u10.heap.size, .cells #[.int .u64 0, .int .u64 0, .int .u64 0, .int .u64 0, .int .u64 0, .int .u64 0, .int .u64 0, .int .u64 0, .int .u64 0, .int .u64 0, .int .u64 0, .int .u64 0, .int .u64 0, .int .u64 0, .int .u64 0, .int .u64 0] 56), (b3, .cells (ca 16 (dg B3)) 56), (b2, .cells (ca 16 (dg A3)) 56), (b1, .cells (ca 16 (dg B2)) 56), (b0, .cells (ca 16 (dg A2)) 56), (g6, .cells (ca 16 (dg u)) 56), (w.heap.size + 1 + 1, .cells zs 22), (w.heap.size + 1, .cells (cs8 us) 22), (w.heap.size, .cells (cs8 (scal ks)) 22)]) := (HM11.out).alloc (.cells #[.int .u64 0, .int .u64 0, .int .u64 0, .int .u64 0, .int .u64 0, .int .u64 0, .int .u64 0, .int .u64 0, .int .u64 0, .int .u64 0, .int .u64 0, .int .u64 0, .int .u64 0, .int .u64 0, .int .u64 0, .int .u64 0] 56)
        clear HM11
        generalize u10.alloc (.cells #[.int .u64 0, .int .u64 0, .int .u64 0, .int .u64 0, .int .u64 0, .int .u64 0, .int .u64 0, .int .u64 0, .int .u64 0, .int .u64 0, .int .u64 0, .int .u64 0, .int .u64 0, .int .u64 0, .int .u64 0, .int .u64 0] 56) = V12 at *
        generalize u10.heap.size = g15 at *
        refine wpList_store_blk (b := g15) rfl rfl rfl rfl ((HM14.out).get 0 rfl) (by kernel_rfl) (rfl) (ca_size _ _) (ca_one _ _) ?_
        simp only [Act.put]
        generalize hV17 : World.setCells V12 (g15) 0 _ = V16
        have HM18 : Hid (Mem w.heap.size w V16 [(g15, .cells (ca 16 (dg sa)) 56), (b3, .cells (ca 16 (dg B3)) 56), (b2, .cells (ca 16 (dg A3)) 56), (b1, .cells (ca 16 (dg B2)) 56), (b0, .cells (ca 16 (dg A2)) 56), (g6, .cells (ca 16 (dg u)) 56), (w.heap.size + 1 + 1, .cells zs 22), (w.heap.size + 1, .cells (cs8 us) 22), (w.heap.size, .cells (cs8 (scal ks)) 22)]) := (by rw [← hV17]; exact (HM14.out).store 0 (ca 16 (dg sa)) rfl (by simp [ca_size]) : Mem w.heap.size w V16 [(g15, .cells (ca 16 (dg sa)) 56), (b3, .cells (ca 16 (dg B3)) 56), (b2, .cells (ca 16 (dg A3)) 56), (b1, .cells (ca 16 (dg B2)) 56), (b0, .cells (ca 16 (dg A2)) 56), (g6, .cells (ca 16 (dg u)) 56), (w.heap.size + 1 + 1, .cells zs 22), (w.heap.size + 1, .cells (cs8 us) 22), (w.heap.size, .cells (cs8 (scal ks)) 22)])
        clear hV17 HM14
        go_upto_region 12 with fail
        refine wp_region_list ?_
        refine wpList_load_blk (b := b0) rfl rfl rfl ((HM18.out).get 4 rfl) Try.underlying56 rfl (by kernel_rfl) (ca_size _ _) ?_
        simp only [Act.put, List.setIfInBounds_toArray, List.set_cons_succ, List.set_cons_zero]
        refine wpList_load_blk (b := b1) rfl rfl rfl ((HM18.out).get 3 rfl) Try.underlying56 rfl (by kernel_rfl) (ca_size _ _) ?_
        simp only [Act.put, List.setIfInBounds_toArray, List.set_cons_succ, List.set_cons_zero]
        refine wpList_call rfl (by simp [Act.eval, go_sem]) (rsub_e A2 B2 sb l_A2 l_B2 e_sb _) fun u19 hb => ?_
        have HM20 : Hid (Mem w.heap.size w u19 [(g15, .cells (ca 16 (dg sa)) 56), (b3, .cells (ca 16 (dg B3)) 56), (b2, .cells (ca 16 (dg A3)) 56), (b1, .cells (ca 16 (dg B2)) 56), (b0, .cells (ca 16 (dg A2)) 56), (g6, .cells (ca 16 (dg u)) 56), (w.heap.size + 1 + 1, .cells zs 22), (w.heap.size + 1, .cells (cs8 us) 22), (w.heap.size, .cells (cs8 (scal ks)) 22)]) := (HM18.out).keep hb
        clear hb HM18
        simp only [Act.put, List.setIfInBounds_toArray, List.set_cons_succ, List.set_cons_zero]
        refine wpList_alloc (o := .cells #[.int .u64 0, .int .u64 0, .int .u64 0, .int .u64 0, .int .u64 0, .int .u64 0, .int .u64 0, .int .u64 0, .int .u64 0, .int .u64 0, .int .u64 0, .int .u64 0, .int .u64 0, .int .u64 0, .int .u64 0, .int .u64 0] 56) (v := .pointer (some ⟨u19.heap.size, 0, none⟩)) rfl (by simp [execOp, go_sem]) ?_
        simp only [Act.put, List.setIfInBounds_toArray, List.set_cons_succ, List.set_cons_zero]
        have HM23 : Hid (Mem w.heap.size w _ [(u19.heap.size, .cells #[.int .u64 0, .int .u64 0, .int .u64 0, .int .u64 0, .int .u64 0, .int .u64 0, .int .u64 0, .int .u64 0, .int .u64 0, .int .u64 0, .int .u64 0, .int .u64 0, .int .u64 0, .int .u64 0, .int .u64 0, .int .u64 0] 56), (g15, .cells (ca 16 (dg sa)) 56), (b3, .cells (ca 16 (dg B3)) 56), (b2, .cells (ca 16 (dg A3)) 56), (b1, .cells (ca 16 (dg B2)) 56), (b0, .cells (ca 16 (dg A2)) 56), (g6, .cells (ca 16 (dg u)) 56), (w.heap.size + 1 + 1, .cells zs 22), (w.heap.size + 1, .cells (cs8 us) 22), (w.heap.size, .cells (cs8 (scal ks)) 22)]) := (HM20.out).alloc (.cells #[.int .u64 0, .int .u64 0, .int .u64 0, .int .u64 0, .int .u64 0, .int .u64 0, .int .u64 0, .int .u64 0, .int .u64 0, .int .u64 0, .int .u64 0, .int .u64 0, .int .u64 0, .int .u64 0, .int .u64 0, .int .u64 0] 56)
        clear HM20
        generalize u19.alloc (.cells #[.int .u64 0, .int .u64 0, .int .u64 0, .int .u64 0, .int .u64 0, .int .u64 0, .int .u64 0, .int .u64 0, .int .u64 0, .int .u64 0, .int .u64 0, .int .u64 0, .int .u64 0, .int .u64 0, .int .u64 0, .int .u64 0] 56) = V21 at *
        generalize u19.heap.size = g24 at *
        refine wpList_store_blk (b := g24) rfl rfl rfl rfl ((HM23.out).get 0 rfl) (by kernel_rfl) (rfl) (ca_size _ _) (ca_one _ _) ?_
        simp only [Act.put]
        generalize hV26 : World.setCells V21 (g24) 0 _ = V25
        have HM27 : Hid (Mem w.heap.size w V25 [(g24, .cells (ca 16 (dg sb)) 56), (g15, .cells (ca 16 (dg sa)) 56), (b3, .cells (ca 16 (dg B3)) 56), (b2, .cells (ca 16 (dg A3)) 56), (b1, .cells (ca 16 (dg B2)) 56), (b0, .cells (ca 16 (dg A2)) 56), (g6, .cells (ca 16 (dg u)) 56), (w.heap.size + 1 + 1, .cells zs 22), (w.heap.size + 1, .cells (cs8 us) 22), (w.heap.size, .cells (cs8 (scal ks)) 22)]) := (by rw [← hV26]; exact (HM23.out).store 0 (ca 16 (dg sb)) rfl (by simp [ca_size]) : Mem w.heap.size w V25 [(g24, .cells (ca 16 (dg sb)) 56), (g15, .cells (ca 16 (dg sa)) 56), (b3, .cells (ca 16 (dg B3)) 56), (b2, .cells (ca 16 (dg A3)) 56), (b1, .cells (ca 16 (dg B2)) 56), (b0, .cells (ca 16 (dg A2)) 56), (g6, .cells (ca 16 (dg u)) 56), (w.heap.size + 1 + 1, .cells zs 22), (w.heap.size + 1, .cells (cs8 us) 22), (w.heap.size, .cells (cs8 (scal ks)) 22)])
        clear hV26 HM23
        go_upto_region 13 with fail
        refine wp_region_list ?_
        refine wpList_load_blk (b := g15) rfl rfl rfl ((HM27.out).get 1 rfl) Try.underlying56 rfl (by kernel_rfl) (ca_size _ _) ?_
        simp only [Act.put, List.setIfInBounds_toArray, List.set_cons_succ, List.set_cons_zero]
        refine wpList_load_blk (b := g15) rfl rfl rfl ((HM27.out).get 1 rfl) Try.underlying56 rfl (by kernel_rfl) (ca_size _ _) ?_
        simp only [Act.put, List.setIfInBounds_toArray, List.set_cons_succ, List.set_cons_zero]
        refine wpList_call rfl (by simp [Act.eval, go_sem]) (rmul_e sa sa aa l_sa l_sa e_aa _) fun u28 hb => ?_
        have HM29 : Hid (Mem w.heap.size w u28 [(g24, .cells (ca 16 (dg sb)) 56), (g15, .cells (ca 16 (dg sa)) 56), (b3, .cells (ca 16 (dg B3)) 56), (b2, .cells (ca 16 (dg A3)) 56), (b1, .cells (ca 16 (dg B2)) 56), (b0, .cells (ca 16 (dg A2)) 56), (g6, .cells (ca 16 (dg u)) 56), (w.heap.size + 1 + 1, .cells zs 22), (w.heap.size + 1, .cells (cs8 us) 22), (w.heap.size, .cells (cs8 (scal ks)) 22)]) := (HM27.out).keep hb
        clear hb HM27
        simp only [Act.put, List.setIfInBounds_toArray, List.set_cons_succ, List.set_cons_zero]
        refine wpList_alloc (o := .cells #[.int .u64 0, .int .u64 0, .int .u64 0, .int .u64 0, .int .u64 0, .int .u64 0, .int .u64 0, .int .u64 0, .int .u64 0, .int .u64 0, .int .u64 0, .int .u64 0, .int .u64 0, .int .u64 0, .int .u64 0, .int .u64 0] 56) (v := .pointer (some ⟨u28.heap.size, 0, none⟩)) rfl (by simp [execOp, go_sem]) ?_
        simp only [Act.put, List.setIfInBounds_toArray, List.set_cons_succ, List.set_cons_zero]
        have HM32 : Hid (Mem w.heap.size w _ [(u28.heap.size, .cells #[.int .u64 0, .int .u64 0, .int .u64 0, .int .u64 0, .int .u64 0, .int .u64 0, .int .u64 0, .int .u64 0, .int .u64 0, .int .u64 0, .int .u64 0, .int .u64 0, .int .u64 0, .int .u64 0, .int .u64 0, .int .u64 0] 56), (g24, .cells (ca 16 (dg sb)) 56), (g15, .cells (ca 16 (dg sa)) 56), (b3, .cells (ca 16 (dg B3)) 56), (b2, .cells (ca 16 (dg A3)) 56), (b1, .cells (ca 16 (dg B2)) 56), (b0, .cells (ca 16 (dg A2)) 56), (g6, .cells (ca 16 (dg u)) 56), (w.heap.size + 1 + 1, .cells zs 22), (w.heap.size + 1, .cells (cs8 us) 22), (w.heap.size, .cells (cs8 (scal ks)) 22)]) := (HM29.out).alloc (.cells #[.int .u64 0, .int .u64 0, .int .u64 0, .int .u64 0, .int .u64 0, .int .u64 0, .int .u64 0, .int .u64 0, .int .u64 0, .int .u64 0, .int .u64 0, .int .u64 0, .int .u64 0, .int .u64 0, .int .u64 0, .int .u64 0] 56)
        clear HM29
        generalize u28.alloc (.cells #[.int .u64 0, .int .u64 0, .int .u64 0, .int .u64 0, .int .u64 0, .int .u64 0, .int .u64 0, .int .u64 0, .int .u64 0, .int .u64 0, .int .u64 0, .int .u64 0, .int .u64 0, .int .u64 0, .int .u64 0, .int .u64 0] 56) = V30 at *
        generalize u28.heap.size = g33 at *
        refine wpList_store_blk (b := g33) rfl rfl rfl rfl ((HM32.out).get 0 rfl) (by kernel_rfl) (rfl) (ca_size _ _) (ca_one _ _) ?_
        simp only [Act.put]
        generalize hV35 : World.setCells V30 (g33) 0 _ = V34
        have HM36 : Hid (Mem w.heap.size w V34 [(g33, .cells (ca 16 (dg aa)) 56), (g24, .cells (ca 16 (dg sb)) 56), (g15, .cells (ca 16 (dg sa)) 56), (b3, .cells (ca 16 (dg B3)) 56), (b2, .cells (ca 16 (dg A3)) 56), (b1, .cells (ca 16 (dg B2)) 56), (b0, .cells (ca 16 (dg A2)) 56), (g6, .cells (ca 16 (dg u)) 56), (w.heap.size + 1 + 1, .cells zs 22), (w.heap.size + 1, .cells (cs8 us) 22), (w.heap.size, .cells (cs8 (scal ks)) 22)]) := (by rw [← hV35]; exact (HM32.out).store 0 (ca 16 (dg aa)) rfl (by simp [ca_size]) : Mem w.heap.size w V34 [(g33, .cells (ca 16 (dg aa)) 56), (g24, .cells (ca 16 (dg sb)) 56), (g15, .cells (ca 16 (dg sa)) 56), (b3, .cells (ca 16 (dg B3)) 56), (b2, .cells (ca 16 (dg A3)) 56), (b1, .cells (ca 16 (dg B2)) 56), (b0, .cells (ca 16 (dg A2)) 56), (g6, .cells (ca 16 (dg u)) 56), (w.heap.size + 1 + 1, .cells zs 22), (w.heap.size + 1, .cells (cs8 us) 22), (w.heap.size, .cells (cs8 (scal ks)) 22)])
        clear hV35 HM32
        go_upto_region 14 with fail
        refine wp_region_list ?_
        refine wpList_load_blk (b := g24) rfl rfl rfl ((HM36.out).get 1 rfl) Try.underlying56 rfl (by kernel_rfl) (ca_size _ _) ?_
        simp only [Act.put, List.setIfInBounds_toArray, List.set_cons_succ, List.set_cons_zero]
        refine wpList_load_blk (b := g24) rfl rfl rfl ((HM36.out).get 1 rfl) Try.underlying56 rfl (by kernel_rfl) (ca_size _ _) ?_
        simp only [Act.put, List.setIfInBounds_toArray, List.set_cons_succ, List.set_cons_zero]
        refine wpList_call rfl (by simp [Act.eval, go_sem]) (rmul_e sb sb bb l_sb l_sb e_bb _) fun u37 hb => ?_
        have HM38 : Hid (Mem w.heap.size w u37 [(g33, .cells (ca 16 (dg aa)) 56), (g24, .cells (ca 16 (dg sb)) 56), (g15, .cells (ca 16 (dg sa)) 56), (b3, .cells (ca 16 (dg B3)) 56), (b2, .cells (ca 16 (dg A3)) 56), (b1, .cells (ca 16 (dg B2)) 56), (b0, .cells (ca 16 (dg A2)) 56), (g6, .cells (ca 16 (dg u)) 56), (w.heap.size + 1 + 1, .cells zs 22), (w.heap.size + 1, .cells (cs8 us) 22), (w.heap.size, .cells (cs8 (scal ks)) 22)]) := (HM36.out).keep hb
        clear hb HM36
        simp only [Act.put, List.setIfInBounds_toArray, List.set_cons_succ, List.set_cons_zero]
        refine wpList_alloc (o := .cells #[.int .u64 0, .int .u64 0, .int .u64 0, .int .u64 0, .int .u64 0, .int .u64 0, .int .u64 0, .int .u64 0, .int .u64 0, .int .u64 0, .int .u64 0, .int .u64 0, .int .u64 0, .int .u64 0, .int .u64 0, .int .u64 0] 56) (v := .pointer (some ⟨u37.heap.size, 0, none⟩)) rfl (by simp [execOp, go_sem]) ?_
        simp only [Act.put, List.setIfInBounds_toArray, List.set_cons_succ, List.set_cons_zero]
        have HM41 : Hid (Mem w.heap.size w _ [(u37.heap.size, .cells #[.int .u64 0, .int .u64 0, .int .u64 0, .int .u64 0, .int .u64 0, .int .u64 0, .int .u64 0, .int .u64 0, .int .u64 0, .int .u64 0, .int .u64 0, .int .u64 0, .int .u64 0, .int .u64 0, .int .u64 0, .int .u64 0] 56), (g33, .cells (ca 16 (dg aa)) 56), (g24, .cells (ca 16 (dg sb)) 56), (g15, .cells (ca 16 (dg sa)) 56), (b3, .cells (ca 16 (dg B3)) 56), (b2, .cells (ca 16 (dg A3)) 56), (b1, .cells (ca 16 (dg B2)) 56), (b0, .cells (ca 16 (dg A2)) 56), (g6, .cells (ca 16 (dg u)) 56), (w.heap.size + 1 + 1, .cells zs 22), (w.heap.size + 1, .cells (cs8 us) 22), (w.heap.size, .cells (cs8 (scal ks)) 22)]) := (HM38.out).alloc (.cells #[.int .u64 0, .int .u64 0, .int .u64 0, .int .u64 0, .int .u64 0, .int .u64 0, .int .u64 0, .int .u64 0, .int .u64 0, .int .u64 0, .int .u64 0, .int .u64 0, .int .u64 0, .int .u64 0, .int .u64 0, .int .u64 0] 56)
        clear HM38
        generalize u37.alloc (.cells #[.int .u64 0, .int .u64 0, .int .u64 0, .int .u64 0, .int .u64 0, .int .u64 0, .int .u64 0, .int .u64 0, .int .u64 0, .int .u64 0, .int .u64 0, .int .u64 0, .int .u64 0, .int .u64 0, .int .u64 0, .int .u64 0] 56) = V39 at *
        generalize u37.heap.size = g42 at *
        refine wpList_store_blk (b := g42) rfl rfl rfl rfl ((HM41.out).get 0 rfl) (by kernel_rfl) (rfl) (ca_size _ _) (ca_one _ _) ?_
        simp only [Act.put]
        generalize hV44 : World.setCells V39 (g42) 0 _ = V43
        have HM45 : Hid (Mem w.heap.size w V43 [(g42, .cells (ca 16 (dg bb)) 56), (g33, .cells (ca 16 (dg aa)) 56), (g24, .cells (ca 16 (dg sb)) 56), (g15, .cells (ca 16 (dg sa)) 56), (b3, .cells (ca 16 (dg B3)) 56), (b2, .cells (ca 16 (dg A3)) 56), (b1, .cells (ca 16 (dg B2)) 56), (b0, .cells (ca 16 (dg A2)) 56), (g6, .cells (ca 16 (dg u)) 56), (w.heap.size + 1 + 1, .cells zs 22), (w.heap.size + 1, .cells (cs8 us) 22), (w.heap.size, .cells (cs8 (scal ks)) 22)]) := (by rw [← hV44]; exact (HM41.out).store 0 (ca 16 (dg bb)) rfl (by simp [ca_size]) : Mem w.heap.size w V43 [(g42, .cells (ca 16 (dg bb)) 56), (g33, .cells (ca 16 (dg aa)) 56), (g24, .cells (ca 16 (dg sb)) 56), (g15, .cells (ca 16 (dg sa)) 56), (b3, .cells (ca 16 (dg B3)) 56), (b2, .cells (ca 16 (dg A3)) 56), (b1, .cells (ca 16 (dg B2)) 56), (b0, .cells (ca 16 (dg A2)) 56), (g6, .cells (ca 16 (dg u)) 56), (w.heap.size + 1 + 1, .cells zs 22), (w.heap.size + 1, .cells (cs8 us) 22), (w.heap.size, .cells (cs8 (scal ks)) 22)])
        clear hV44 HM41
        go_upto_region 15 with fail
        refine wp_region_list ?_
        refine wpList_load_blk (b := g33) rfl rfl rfl ((HM45.out).get 1 rfl) Try.underlying56 rfl (by kernel_rfl) (ca_size _ _) ?_
        simp only [Act.put, List.setIfInBounds_toArray, List.set_cons_succ, List.set_cons_zero]
        refine wpList_load_blk (b := g42) rfl rfl rfl ((HM45.out).get 0 rfl) Try.underlying56 rfl (by kernel_rfl) (ca_size _ _) ?_
        simp only [Act.put, List.setIfInBounds_toArray, List.set_cons_succ, List.set_cons_zero]
        refine wpList_call rfl (by simp [Act.eval, go_sem]) (rsub_e aa bb ee l_aa l_bb e_ee _) fun u46 hb => ?_
        have HM47 : Hid (Mem w.heap.size w u46 [(g42, .cells (ca 16 (dg bb)) 56), (g33, .cells (ca 16 (dg aa)) 56), (g24, .cells (ca 16 (dg sb)) 56), (g15, .cells (ca 16 (dg sa)) 56), (b3, .cells (ca 16 (dg B3)) 56), (b2, .cells (ca 16 (dg A3)) 56), (b1, .cells (ca 16 (dg B2)) 56), (b0, .cells (ca 16 (dg A2)) 56), (g6, .cells (ca 16 (dg u)) 56), (w.heap.size + 1 + 1, .cells zs 22), (w.heap.size + 1, .cells (cs8 us) 22), (w.heap.size, .cells (cs8 (scal ks)) 22)]) := (HM45.out).keep hb
        clear hb HM45
        simp only [Act.put, List.setIfInBounds_toArray, List.set_cons_succ, List.set_cons_zero]
        refine wpList_alloc (o := .cells #[.int .u64 0, .int .u64 0, .int .u64 0, .int .u64 0, .int .u64 0, .int .u64 0, .int .u64 0, .int .u64 0, .int .u64 0, .int .u64 0, .int .u64 0, .int .u64 0, .int .u64 0, .int .u64 0, .int .u64 0, .int .u64 0] 56) (v := .pointer (some ⟨u46.heap.size, 0, none⟩)) rfl (by simp [execOp, go_sem]) ?_
        simp only [Act.put, List.setIfInBounds_toArray, List.set_cons_succ, List.set_cons_zero]
        have HM50 : Hid (Mem w.heap.size w _ [(u46.heap.size, .cells #[.int .u64 0, .int .u64 0, .int .u64 0, .int .u64 0, .int .u64 0, .int .u64 0, .int .u64 0, .int .u64 0, .int .u64 0, .int .u64 0, .int .u64 0, .int .u64 0, .int .u64 0, .int .u64 0, .int .u64 0, .int .u64 0] 56), (g42, .cells (ca 16 (dg bb)) 56), (g33, .cells (ca 16 (dg aa)) 56), (g24, .cells (ca 16 (dg sb)) 56), (g15, .cells (ca 16 (dg sa)) 56), (b3, .cells (ca 16 (dg B3)) 56), (b2, .cells (ca 16 (dg A3)) 56), (b1, .cells (ca 16 (dg B2)) 56), (b0, .cells (ca 16 (dg A2)) 56), (g6, .cells (ca 16 (dg u)) 56), (w.heap.size + 1 + 1, .cells zs 22), (w.heap.size + 1, .cells (cs8 us) 22), (w.heap.size, .cells (cs8 (scal ks)) 22)]) := (HM47.out).alloc (.cells #[.int .u64 0, .int .u64 0, .int .u64 0, .int .u64 0, .int .u64 0, .int .u64 0, .int .u64 0, .int .u64 0, .int .u64 0, .int .u64 0, .int .u64 0, .int .u64 0, .int .u64 0, .int .u64 0, .int .u64 0, .int .u64 0] 56)
        clear HM47
        generalize u46.alloc (.cells #[.int .u64 0, .int .u64 0, .int .u64 0, .int .u64 0, .int .u64 0, .int .u64 0, .int .u64 0, .int .u64 0, .int .u64 0, .int .u64 0, .int .u64 0, .int .u64 0, .int .u64 0, .int .u64 0, .int .u64 0, .int .u64 0] 56) = V48 at *
        generalize u46.heap.size = g51 at *
        refine wpList_store_blk (b := g51) rfl rfl rfl rfl ((HM50.out).get 0 rfl) (by kernel_rfl) (rfl) (ca_size _ _) (ca_one _ _) ?_
        simp only [Act.put]
        generalize hV53 : World.setCells V48 (g51) 0 _ = V52
        have HM54 : Hid (Mem w.heap.size w V52 [(g51, .cells (ca 16 (dg ee)) 56), (g42, .cells (ca 16 (dg bb)) 56), (g33, .cells (ca 16 (dg aa)) 56), (g24, .cells (ca 16 (dg sb)) 56), (g15, .cells (ca 16 (dg sa)) 56), (b3, .cells (ca 16 (dg B3)) 56), (b2, .cells (ca 16 (dg A3)) 56), (b1, .cells (ca 16 (dg B2)) 56), (b0, .cells (ca 16 (dg A2)) 56), (g6, .cells (ca 16 (dg u)) 56), (w.heap.size + 1 + 1, .cells zs 22), (w.heap.size + 1, .cells (cs8 us) 22), (w.heap.size, .cells (cs8 (scal ks)) 22)]) := (by rw [← hV53]; exact (HM50.out).store 0 (ca 16 (dg ee)) rfl (by simp [ca_size]) : Mem w.heap.size w V52 [(g51, .cells (ca 16 (dg ee)) 56), (g42, .cells (ca 16 (dg bb)) 56), (g33, .cells (ca 16 (dg aa)) 56), (g24, .cells (ca 16 (dg sb)) 56), (g15, .cells (ca 16 (dg sa)) 56), (b3, .cells (ca 16 (dg B3)) 56), (b2, .cells (ca 16 (dg A3)) 56), (b1, .cells (ca 16 (dg B2)) 56), (b0, .cells (ca 16 (dg A2)) 56), (g6, .cells (ca 16 (dg u)) 56), (w.heap.size + 1 + 1, .cells zs 22), (w.heap.size + 1, .cells (cs8 us) 22), (w.heap.size, .cells (cs8 (scal ks)) 22)])
        clear hV53 HM50
        go_wp2_with fail
        refine region_list V52.heap.size (C := fun w' => Below V52.heap.size V52 w') [.inl (.agg (ca 16 (dg A3))), .inl (.agg (ca 16 (dg B3))), .inl (.agg (ca 16 (dg dd))), .inl (.agg (ca 16 (dg sa))), .inl (.agg (ca 16 (dg da))), .inr (.cells #[.int .u64 0, .int .u64 0, .int .u64 0, .int .u64 0, .int .u64 0, .int .u64 0, .int .u64 0, .int .u64 0, .int .u64 0, .int .u64 0, .int .u64 0, .int .u64 0, .int .u64 0, .int .u64 0, .int .u64 0, .int .u64 0] 56, fun b => .pointer (some ⟨b, 0, none⟩))] [5] (by kernel_rfl) (by kernel_rfl) ⟨rfl, rfl, rfl, Nat.le_refl _, fun _ _ => rfl⟩
          (fun w1 w2 h1 h2 => h1.trans (h2.mono h1.size)) (fun i h => by
            obtain rfl : i = 5 := by simpa using h
            exact ⟨_, rfl⟩) ?_ ?_
        · refine ⟨?_, ?_, ?_, ?_, ?_, ?_, trivial⟩
          · intro s v hC hk hd
            have h : s.tmps[8]? = some (.pointer (some ⟨b2, 0, none⟩)) := hk 8 (by kernel_rfl)
            exact ok_load rfl rfl h (((HM54.out).keep hC).get 6 rfl) Try.underlying56 rfl (by kernel_rfl) (ca_size _ _)
          · intro s v hC hk hd
            have h : s.tmps[9]? = some (.pointer (some ⟨b3, 0, none⟩)) := hk 9 (by kernel_rfl)
            exact ok_load rfl rfl h (((HM54.out).keep hC).get 5 rfl) Try.underlying56 rfl (by kernel_rfl) (ca_size _ _)
          · intro s v hC hk hd
            have h0 : s.tmps[69]? = some (.agg (ca 16 (dg A3))) := hd 0 (by kernel_rfl)
            have h1 : s.tmps[70]? = some (.agg (ca 16 (dg B3))) := hd 1 (by kernel_rfl)
            exact ok_call rfl (by simp [Act.eval, h0, h1, go_sem]) (rsub_e A3 B3 dd l_A3 l_B3 e_dd v)
          · intro s v hC hk hd
            have h : s.tmps[12]? = some (.pointer (some ⟨g15, 0, none⟩)) := hk 12 (by kernel_rfl)
            exact ok_load rfl rfl h (((HM54.out).keep hC).get 4 rfl) Try.underlying56 rfl (by kernel_rfl) (ca_size _ _)
          · intro s v hC hk hd
            have h0 : s.tmps[71]? = some (.agg (ca 16 (dg dd))) := hd 2 (by kernel_rfl)
            have h1 : s.tmps[72]? = some (.agg (ca 16 (dg sa))) := hd 3 (by kernel_rfl)
            exact ok_call rfl (by simp [Act.eval, h0, h1, go_sem]) (rmul_e dd sa da l_dd l_sa e_da v)
          · intro s v hC hk hd
            exact ok_alloc hC.size rfl (by simp [execOp, go_sem])
        · intro nb wA55 hC hf hne
          have M56 := (HM54.out).keep hC
          obtain ⟨⟨l5, f5⟩, _⟩ := hf
          simp only [Nat.zero_add, Nat.reduceAdd] at l5 f5
          have M57 := (M56).also ((HM54.out).ne_new l5) (Nat.le_trans (HM54.out).size l5) f5
          clear hne hC l5 f5
          simp [valsOf, valOf, putAll, Act.put]
          generalize nb 5 = g58 at *
          have HM : Hid (Mem w.heap.size w wA55 [(g58, .cells #[.int .u64 0, .int .u64 0, .int .u64 0, .int .u64 0, .int .u64 0, .int .u64 0, .int .u64 0, .int .u64 0, .int .u64 0, .int .u64 0, .int .u64 0, .int .u64 0, .int .u64 0, .int .u64 0, .int .u64 0, .int .u64 0] 56), (g51, .cells (ca 16 (dg ee)) 56), (g42, .cells (ca 16 (dg bb)) 56), (g33, .cells (ca 16 (dg aa)) 56), (g24, .cells (ca 16 (dg sb)) 56), (g15, .cells (ca 16 (dg sa)) 56), (b3, .cells (ca 16 (dg B3)) 56), (b2, .cells (ca 16 (dg A3)) 56), (b1, .cells (ca 16 (dg B2)) 56), (b0, .cells (ca 16 (dg A2)) 56), (g6, .cells (ca 16 (dg u)) 56), (w.heap.size + 1 + 1, .cells zs 22), (w.heap.size + 1, .cells (cs8 us) 22), (w.heap.size, .cells (cs8 (scal ks)) 22)]) := M57
          refine wpList_store_blk (b := g58) rfl rfl rfl rfl ((HM.out).get 0 rfl) (by kernel_rfl) (rfl) (ca_size _ _) (ca_one _ _) ?_
          simp only [Act.put]
          generalize hV60 : World.setCells wA55 (g58) 0 _ = V59
          have HM61 : Hid (Mem w.heap.size w V59 [(g58, .cells (ca 16 (dg da)) 56), (g51, .cells (ca 16 (dg ee)) 56), (g42, .cells (ca 16 (dg bb)) 56), (g33, .cells (ca 16 (dg aa)) 56), (g24, .cells (ca 16 (dg sb)) 56), (g15, .cells (ca 16 (dg sa)) 56), (b3, .cells (ca 16 (dg B3)) 56), (b2, .cells (ca 16 (dg A3)) 56), (b1, .cells (ca 16 (dg B2)) 56), (b0, .cells (ca 16 (dg A2)) 56), (g6, .cells (ca 16 (dg u)) 56), (w.heap.size + 1 + 1, .cells zs 22), (w.heap.size + 1, .cells (cs8 us) 22), (w.heap.size, .cells (cs8 (scal ks)) 22)]) := (by rw [← hV60]; exact (HM.out).store 0 (ca 16 (dg da)) rfl (by simp [ca_size]) : Mem w.heap.size w V59 [(g58, .cells (ca 16 (dg da)) 56), (g51, .cells (ca 16 (dg ee)) 56), (g42, .cells (ca 16 (dg bb)) 56), (g33, .cells (ca 16 (dg aa)) 56), (g24, .cells (ca 16 (dg sb)) 56), (g15, .cells (ca 16 (dg sa)) 56), (b3, .cells (ca 16 (dg B3)) 56), (b2, .cells (ca 16 (dg A3)) 56), (b1, .cells (ca 16 (dg B2)) 56), (b0, .cells (ca 16 (dg A2)) 56), (g6, .cells (ca 16 (dg u)) 56), (w.heap.size + 1 + 1, .cells zs 22), (w.heap.size + 1, .cells (cs8 us) 22), (w.heap.size, .cells (cs8 (scal ks)) 22)])
          clear hV60 HM
          go_wp2_with fail
          refine region_list V59.heap.size (C := fun w' => Below V59.heap.size V59 w') [.inl (.agg (ca 16 (dg A3))), .inl (.agg (ca 16 (dg B3))), .inl (.agg (ca 16 (dg cc))), .inl (.agg (ca 16 (dg sb))), .inl (.agg (ca 16 (dg cb))), .inr (.cells #[.int .u64 0, .int .u64 0, .int .u64 0, .int .u64 0, .int .u64 0, .int .u64 0, .int .u64 0, .int .u64 0, .int .u64 0, .int .u64 0, .int .u64 0, .int .u64 0, .int .u64 0, .int .u64 0, .int .u64 0, .int .u64 0] 56, fun b => .pointer (some ⟨b, 0, none⟩))] [5] (by kernel_rfl) (by kernel_rfl) ⟨rfl, rfl, rfl, Nat.le_refl _, fun _ _ => rfl⟩
            (fun w1 w2 h1 h2 => h1.trans (h2.mono h1.size)) (fun i h => by
              obtain rfl : i = 5 := by simpa using h
              exact ⟨_, rfl⟩) ?_ ?_
          · refine ⟨?_, ?_, ?_, ?_, ?_, ?_, trivial⟩
            · intro s v hC hk hd
              have h : s.tmps[8]? = some (.pointer (some ⟨b2, 0, none⟩)) := hk 8 (by kernel_rfl)
              exact ok_load rfl rfl h (((HM61.out).keep hC).get 7 rfl) Try.underlying56 rfl (by kernel_rfl) (ca_size _ _)
            · intro s v hC hk hd
              have h : s.tmps[9]? = some (.pointer (some ⟨b3, 0, none⟩)) := hk 9 (by kernel_rfl)
              exact ok_load rfl rfl h (((HM61.out).keep hC).get 6 rfl) Try.underlying56 rfl (by kernel_rfl) (ca_size _ _)
            · intro s v hC hk hd
              have h0 : s.tmps[74]? = some (.agg (ca 16 (dg A3))) := hd 0 (by kernel_rfl)
              have h1 : s.tmps[75]? = some (.agg (ca 16 (dg B3))) := hd 1 (by kernel_rfl)
              exact ok_call rfl (by simp [Act.eval, h0, h1, go_sem]) (radd_e A3 B3 cc l_A3 l_B3 e_cc v)
            · intro s v hC hk hd
              have h : s.tmps[13]? = some (.pointer (some ⟨g24, 0, none⟩)) := hk 13 (by kernel_rfl)
              exact ok_load rfl rfl h (((HM61.out).keep hC).get 4 rfl) Try.underlying56 rfl (by kernel_rfl) (ca_size _ _)
            · intro s v hC hk hd
              have h0 : s.tmps[76]? = some (.agg (ca 16 (dg cc))) := hd 2 (by kernel_rfl)
              have h1 : s.tmps[77]? = some (.agg (ca 16 (dg sb))) := hd 3 (by kernel_rfl)
              exact ok_call rfl (by simp [Act.eval, h0, h1, go_sem]) (rmul_e cc sb cb l_cc l_sb e_cb v)
            · intro s v hC hk hd
              exact ok_alloc hC.size rfl (by simp [execOp, go_sem])
          · intro nb wA62 hC hf hne
            have M63 := (HM61.out).keep hC
            obtain ⟨⟨l5, f5⟩, _⟩ := hf
            simp only [Nat.zero_add, Nat.reduceAdd] at l5 f5
            have M64 := (M63).also ((HM61.out).ne_new l5) (Nat.le_trans (HM61.out).size l5) f5
            clear hne hC l5 f5
            simp [valsOf, valOf, putAll, Act.put]
            generalize nb 5 = g65 at *
            have HM : Hid (Mem w.heap.size w wA62 [(g65, .cells #[.int .u64 0, .int .u64 0, .int .u64 0, .int .u64 0, .int .u64 0, .int .u64 0, .int .u64 0, .int .u64 0, .int .u64 0, .int .u64 0, .int .u64 0, .int .u64 0, .int .u64 0, .int .u64 0, .int .u64 0, .int .u64 0] 56), (g58, .cells (ca 16 (dg da)) 56), (g51, .cells (ca 16 (dg ee)) 56), (g42, .cells (ca 16 (dg bb)) 56), (g33, .cells (ca 16 (dg aa)) 56), (g24, .cells (ca 16 (dg sb)) 56), (g15, .cells (ca 16 (dg sa)) 56), (b3, .cells (ca 16 (dg B3)) 56), (b2, .cells (ca 16 (dg A3)) 56), (b1, .cells (ca 16 (dg B2)) 56), (b0, .cells (ca 16 (dg A2)) 56), (g6, .cells (ca 16 (dg u)) 56), (w.heap.size + 1 + 1, .cells zs 22), (w.heap.size + 1, .cells (cs8 us) 22), (w.heap.size, .cells (cs8 (scal ks)) 22)]) := M64
            refine wpList_store_blk (b := g65) rfl rfl rfl rfl ((HM.out).get 0 rfl) (by kernel_rfl) (rfl) (ca_size _ _) (ca_one _ _) ?_
            simp only [Act.put]
            generalize hV67 : World.setCells wA62 (g65) 0 _ = V66
            have HM68 : Hid (Mem w.heap.size w V66 [(g65, .cells (ca 16 (dg cb)) 56), (g58, .cells (ca 16 (dg da)) 56), (g51, .cells (ca 16 (dg ee)) 56), (g42, .cells (ca 16 (dg bb)) 56), (g33, .cells (ca 16 (dg aa)) 56), (g24, .cells (ca 16 (dg sb)) 56), (g15, .cells (ca 16 (dg sa)) 56), (b3, .cells (ca 16 (dg B3)) 56), (b2, .cells (ca 16 (dg A3)) 56), (b1, .cells (ca 16 (dg B2)) 56), (b0, .cells (ca 16 (dg A2)) 56), (g6, .cells (ca 16 (dg u)) 56), (w.heap.size + 1 + 1, .cells zs 22), (w.heap.size + 1, .cells (cs8 us) 22), (w.heap.size, .cells (cs8 (scal ks)) 22)]) := (by rw [← hV67]; exact (HM.out).store 0 (ca 16 (dg cb)) rfl (by simp [ca_size]) : Mem w.heap.size w V66 [(g65, .cells (ca 16 (dg cb)) 56), (g58, .cells (ca 16 (dg da)) 56), (g51, .cells (ca 16 (dg ee)) 56), (g42, .cells (ca 16 (dg bb)) 56), (g33, .cells (ca 16 (dg aa)) 56), (g24, .cells (ca 16 (dg sb)) 56), (g15, .cells (ca 16 (dg sa)) 56), (b3, .cells (ca 16 (dg B3)) 56), (b2, .cells (ca 16 (dg A3)) 56), (b1, .cells (ca 16 (dg B2)) 56), (b0, .cells (ca 16 (dg A2)) 56), (g6, .cells (ca 16 (dg u)) 56), (w.heap.size + 1 + 1, .cells zs 22), (w.heap.size + 1, .cells (cs8 us) 22), (w.heap.size, .cells (cs8 (scal ks)) 22)])
            clear hV67 HM
            go_upto_region 18 with fail
            refine wp_region_list ?_
            refine wpList_load_blk (b := g58) rfl rfl rfl ((HM68.out).get 1 rfl) Try.underlying56 rfl (by kernel_rfl) (ca_size _ _) ?_
            simp only [Act.put, List.setIfInBounds_toArray, List.set_cons_succ, List.set_cons_zero]
            refine wpList_load_blk (b := g65) rfl rfl rfl ((HM68.out).get 0 rfl) Try.underlying56 rfl (by kernel_rfl) (ca_size _ _) ?_
            simp only [Act.put, List.setIfInBounds_toArray, List.set_cons_succ, List.set_cons_zero]
            refine wpList_call rfl (by simp [Act.eval, go_sem]) (radd_e da cb su l_da l_cb e_su _) fun u69 hb => ?_
            have HM70 : Hid (Mem w.heap.size w u69 [(g65, .cells (ca 16 (dg cb)) 56), (g58, .cells (ca 16 (dg da)) 56), (g51, .cells (ca 16 (dg ee)) 56), (g42, .cells (ca 16 (dg bb)) 56), (g33, .cells (ca 16 (dg aa)) 56), (g24, .cells (ca 16 (dg sb)) 56), (g15, .cells (ca 16 (dg sa)) 56), (b3, .cells (ca 16 (dg B3)) 56), (b2, .cells (ca 16 (dg A3)) 56), (b1, .cells (ca 16 (dg B2)) 56), (b0, .cells (ca 16 (dg A2)) 56), (g6, .cells (ca 16 (dg u)) 56), (w.heap.size + 1 + 1, .cells zs 22), (w.heap.size + 1, .cells (cs8 us) 22), (w.heap.size, .cells (cs8 (scal ks)) 22)]) := (HM68.out).keep hb
            clear hb HM68
            simp only [Act.put, List.setIfInBounds_toArray, List.set_cons_succ, List.set_cons_zero]
            refine wpList_alloc (o := .cells #[.int .u64 0, .int .u64 0, .int .u64 0, .int .u64 0, .int .u64 0, .int .u64 0, .int .u64 0, .int .u64 0, .int .u64 0, .int .u64 0, .int .u64 0, .int .u64 0, .int .u64 0, .int .u64 0, .int .u64 0, .int .u64 0] 56) (v := .pointer (some ⟨u69.heap.size, 0, none⟩)) rfl (by simp [execOp, go_sem]) ?_
            simp only [Act.put, List.setIfInBounds_toArray, List.set_cons_succ, List.set_cons_zero]
            have HM73 : Hid (Mem w.heap.size w _ [(u69.heap.size, .cells #[.int .u64 0, .int .u64 0, .int .u64 0, .int .u64 0, .int .u64 0, .int .u64 0, .int .u64 0, .int .u64 0, .int .u64 0, .int .u64 0, .int .u64 0, .int .u64 0, .int .u64 0, .int .u64 0, .int .u64 0, .int .u64 0] 56), (g65, .cells (ca 16 (dg cb)) 56), (g58, .cells (ca 16 (dg da)) 56), (g51, .cells (ca 16 (dg ee)) 56), (g42, .cells (ca 16 (dg bb)) 56), (g33, .cells (ca 16 (dg aa)) 56), (g24, .cells (ca 16 (dg sb)) 56), (g15, .cells (ca 16 (dg sa)) 56), (b3, .cells (ca 16 (dg B3)) 56), (b2, .cells (ca 16 (dg A3)) 56), (b1, .cells (ca 16 (dg B2)) 56), (b0, .cells (ca 16 (dg A2)) 56), (g6, .cells (ca 16 (dg u)) 56), (w.heap.size + 1 + 1, .cells zs 22), (w.heap.size + 1, .cells (cs8 us) 22), (w.heap.size, .cells (cs8 (scal ks)) 22)]) := (HM70.out).alloc (.cells #[.int .u64 0, .int .u64 0, .int .u64 0, .int .u64 0, .int .u64 0, .int .u64 0, .int .u64 0, .int .u64 0, .int .u64 0, .int .u64 0, .int .u64 0, .int .u64 0, .int .u64 0, .int .u64 0, .int .u64 0, .int .u64 0] 56)
            clear HM70
            generalize u69.alloc (.cells #[.int .u64 0, .int .u64 0, .int .u64 0, .int .u64 0, .int .u64 0, .int .u64 0, .int .u64 0, .int .u64 0, .int .u64 0, .int .u64 0, .int .u64 0, .int .u64 0, .int .u64 0, .int .u64 0, .int .u64 0, .int .u64 0] 56) = V71 at *
            generalize u69.heap.size = g74 at *
            refine wpList_store_blk (b := g74) rfl rfl rfl rfl ((HM73.out).get 0 rfl) (by kernel_rfl) (rfl) (ca_size _ _) (ca_one _ _) ?_
            simp only [Act.put]
            generalize hV76 : World.setCells V71 (g74) 0 _ = V75
            have HM77 : Hid (Mem w.heap.size w V75 [(g74, .cells (ca 16 (dg su)) 56), (g65, .cells (ca 16 (dg cb)) 56), (g58, .cells (ca 16 (dg da)) 56), (g51, .cells (ca 16 (dg ee)) 56), (g42, .cells (ca 16 (dg bb)) 56), (g33, .cells (ca 16 (dg aa)) 56), (g24, .cells (ca 16 (dg sb)) 56), (g15, .cells (ca 16 (dg sa)) 56), (b3, .cells (ca 16 (dg B3)) 56), (b2, .cells (ca 16 (dg A3)) 56), (b1, .cells (ca 16 (dg B2)) 56), (b0, .cells (ca 16 (dg A2)) 56), (g6, .cells (ca 16 (dg u)) 56), (w.heap.size + 1 + 1, .cells zs 22), (w.heap.size + 1, .cells (cs8 us) 22), (w.heap.size, .cells (cs8 (scal ks)) 22)]) := (by rw [← hV76]; exact (HM73.out).store 0 (ca 16 (dg su)) rfl (by simp [ca_size]) : Mem w.heap.size w V75 [(g74, .cells (ca 16 (dg su)) 56), (g65, .cells (ca 16 (dg cb)) 56), (g58, .cells (ca 16 (dg da)) 56), (g51, .cells (ca 16 (dg ee)) 56), (g42, .cells (ca 16 (dg bb)) 56), (g33, .cells (ca 16 (dg aa)) 56), (g24, .cells (ca 16 (dg sb)) 56), (g15, .cells (ca 16 (dg sa)) 56), (b3, .cells (ca 16 (dg B3)) 56), (b2, .cells (ca 16 (dg A3)) 56), (b1, .cells (ca 16 (dg B2)) 56), (b0, .cells (ca 16 (dg A2)) 56), (g6, .cells (ca 16 (dg u)) 56), (w.heap.size + 1 + 1, .cells zs 22), (w.heap.size + 1, .cells (cs8 us) 22), (w.heap.size, .cells (cs8 (scal ks)) 22)])
            clear hV76 HM73
            go_upto_region 19 with fail
            refine wp_region_list ?_
            refine wpList_load_blk (b := g58) rfl rfl rfl ((HM77.out).get 2 rfl) Try.underlying56 rfl (by kernel_rfl) (ca_size _ _) ?_
            simp only [Act.put, List.setIfInBounds_toArray, List.set_cons_succ, List.set_cons_zero]
            refine wpList_load_blk (b := g65) rfl rfl rfl ((HM77.out).get 1 rfl) Try.underlying56 rfl (by kernel_rfl) (ca_size _ _) ?_
            simp only [Act.put, List.setIfInBounds_toArray, List.set_cons_succ, List.set_cons_zero]
            refine wpList_call rfl (by simp [Act.eval, go_sem]) (rsub_e da cb le l_da l_cb e_le _) fun u78 hb => ?_
            have HM79 : Hid (Mem w.heap.size w u78 [(g74, .cells (ca 16 (dg su)) 56), (g65, .cells (ca 16 (dg cb)) 56), (g58, .cells (ca 16 (dg da)) 56), (g51, .cells (ca 16 (dg ee)) 56), (g42, .cells (ca 16 (dg bb)) 56), (g33, .cells (ca 16 (dg aa)) 56), (g24, .cells (ca 16 (dg sb)) 56), (g15, .cells (ca 16 (dg sa)) 56), (b3, .cells (ca 16 (dg B3)) 56), (b2, .cells (ca 16 (dg A3)) 56), (b1, .cells (ca 16 (dg B2)) 56), (b0, .cells (ca 16 (dg A2)) 56), (g6, .cells (ca 16 (dg u)) 56), (w.heap.size + 1 + 1, .cells zs 22), (w.heap.size + 1, .cells (cs8 us) 22), (w.heap.size, .cells (cs8 (scal ks)) 22)]) := (HM77.out).keep hb
            clear hb HM77
            simp only [Act.put, List.setIfInBounds_toArray, List.set_cons_succ, List.set_cons_zero]
            refine wpList_alloc (o := .cells #[.int .u64 0, .int .u64 0, .int .u64 0, .int .u64 0, .int .u64 0, .int .u64 0, .int .u64 0, .int .u64 0, .int .u64 0, .int .u64 0, .int .u64 0, .int .u64 0, .int .u64 0, .int .u64 0, .int .u64 0, .int .u64 0] 56) (v := .pointer (some ⟨u78.heap.size, 0, none⟩)) rfl (by simp [execOp, go_sem]) ?_
            simp only [Act.put, List.setIfInBounds_toArray, List.set_cons_succ, List.set_cons_zero]
            have HM82 : Hid (Mem w.heap.size w _ [(u78.heap.size, .cells #[.int .u64 0, .int .u64 0, .int .u64 0, .int .u64 0, .int .u64 0, .int .u64 0, .int .u64 0, .int .u64 0, .int .u64 0, .int .u64 0, .int .u64 0, .int .u64 0, .int .u64 0, .int .u64 0, .int .u64 0, .int .u64 0] 56), (g74, .cells (ca 16 (dg su)) 56), (g65, .cells (ca 16 (dg cb)) 56), (g58, .cells (ca 16 (dg da)) 56), (g51, .cells (ca 16 (dg ee)) 56), (g42, .cells (ca 16 (dg bb)) 56), (g33, .cells (ca 16 (dg aa)) 56), (g24, .cells (ca 16 (dg sb)) 56), (g15, .cells (ca 16 (dg sa)) 56), (b3, .cells (ca 16 (dg B3)) 56), (b2, .cells (ca 16 (dg A3)) 56), (b1, .cells (ca 16 (dg B2)) 56), (b0, .cells (ca 16 (dg A2)) 56), (g6, .cells (ca 16 (dg u)) 56), (w.heap.size + 1 + 1, .cells zs 22), (w.heap.size + 1, .cells (cs8 us) 22), (w.heap.size, .cells (cs8 (scal ks)) 22)]) := (HM79.out).alloc (.cells #[.int .u64 0, .int .u64 0, .int .u64 0, .int .u64 0, .int .u64 0, .int .u64 0, .int .u64 0, .int .u64 0, .int .u64 0, .int .u64 0, .int .u64 0, .int .u64 0, .int .u64 0, .int .u64 0, .int .u64 0, .int .u64 0] 56)
            clear HM79
            generalize u78.alloc (.cells #[.int .u64 0, .int .u64 0, .int .u64 0, .int .u64 0, .int .u64 0, .int .u64 0, .int .u64 0, .int .u64 0, .int .u64 0, .int .u64 0, .int .u64 0, .int .u64 0, .int .u64 0, .int .u64 0, .int .u64 0, .int .u64 0] 56) = V80 at *
            generalize u78.heap.size = g83 at *
            refine wpList_store_blk (b := g83) rfl rfl rfl rfl ((HM82.out).get 0 rfl) (by kernel_rfl) (rfl) (ca_size _ _) (ca_one _ _) ?_
            simp only [Act.put]
            generalize hV85 : World.setCells V80 (g83) 0 _ = V84
            have HM86 : Hid (Mem w.heap.size w V84 [(g83, .cells (ca 16 (dg le)) 56), (g74, .cells (ca 16 (dg su)) 56), (g65, .cells (ca 16 (dg cb)) 56), (g58, .cells (ca 16 (dg da)) 56), (g51, .cells (ca 16 (dg ee)) 56), (g42, .cells (ca 16 (dg bb)) 56), (g33, .cells (ca 16 (dg aa)) 56), (g24, .cells (ca 16 (dg sb)) 56), (g15, .cells (ca 16 (dg sa)) 56), (b3, .cells (ca 16 (dg B3)) 56), (b2, .cells (ca 16 (dg A3)) 56), (b1, .cells (ca 16 (dg B2)) 56), (b0, .cells (ca 16 (dg A2)) 56), (g6, .cells (ca 16 (dg u)) 56), (w.heap.size + 1 + 1, .cells zs 22), (w.heap.size + 1, .cells (cs8 us) 22), (w.heap.size, .cells (cs8 (scal ks)) 22)]) := (by rw [← hV85]; exact (HM82.out).store 0 (ca 16 (dg le)) rfl (by simp [ca_size]) : Mem w.heap.size w V84 [(g83, .cells (ca 16 (dg le)) 56), (g74, .cells (ca 16 (dg su)) 56), (g65, .cells (ca 16 (dg cb)) 56), (g58, .cells (ca 16 (dg da)) 56), (g51, .cells (ca 16 (dg ee)) 56), (g42, .cells (ca 16 (dg bb)) 56), (g33, .cells (ca 16 (dg aa)) 56), (g24, .cells (ca 16 (dg sb)) 56), (g15, .cells (ca 16 (dg sa)) 56), (b3, .cells (ca 16 (dg B3)) 56), (b2, .cells (ca 16 (dg A3)) 56), (b1, .cells (ca 16 (dg B2)) 56), (b0, .cells (ca 16 (dg A2)) 56), (g6, .cells (ca 16 (dg u)) 56), (w.heap.size + 1 + 1, .cells zs 22), (w.heap.size + 1, .cells (cs8 us) 22), (w.heap.size, .cells (cs8 (scal ks)) 22)])
            clear hV85 HM82
            go_upto_region 20 with fail
            refine wp_region_list ?_
            refine wpList_load_blk (b := g74) rfl rfl rfl ((HM86.out).get 1 rfl) Try.underlying56 rfl (by kernel_rfl) (ca_size _ _) ?_
            simp only [Act.put, List.setIfInBounds_toArray, List.set_cons_succ, List.set_cons_zero]
            refine wpList_load_blk (b := g74) rfl rfl rfl ((HM86.out).get 1 rfl) Try.underlying56 rfl (by kernel_rfl) (ca_size _ _) ?_
            simp only [Act.put, List.setIfInBounds_toArray, List.set_cons_succ, List.set_cons_zero]
            refine wpList_call rfl (by simp [Act.eval, go_sem]) (rmul_e su su p3 l_su l_su e_p3 _) fun u87 hb => ?_
            have HM88 : Hid (Mem w.heap.size w u87 [(g83, .cells (ca 16 (dg le)) 56), (g74, .cells (ca 16 (dg su)) 56), (g65, .cells (ca 16 (dg cb)) 56), (g58, .cells (ca 16 (dg da)) 56), (g51, .cells (ca 16 (dg ee)) 56), (g42, .cells (ca 16 (dg bb)) 56), (g33, .cells (ca 16 (dg aa)) 56), (g24, .cells (ca 16 (dg sb)) 56), (g15, .cells (ca 16 (dg sa)) 56), (b3, .cells (ca 16 (dg B3)) 56), (b2, .cells (ca 16 (dg A3)) 56), (b1, .cells (ca 16 (dg B2)) 56), (b0, .cells (ca 16 (dg A2)) 56), (g6, .cells (ca 16 (dg u)) 56), (w.heap.size + 1 + 1, .cells zs 22), (w.heap.size + 1, .cells (cs8 us) 22), (w.heap.size, .cells (cs8 (scal ks)) 22)]) := (HM86.out).keep hb
            clear hb HM86
            simp only [Act.put, List.setIfInBounds_toArray, List.set_cons_succ, List.set_cons_zero]
            refine wpList_store_blk (b := b2) rfl rfl rfl rfl ((HM88.out).get 10 rfl) (by kernel_rfl) (ca_size _ _) (ca_size _ _) (ca_one _ _) ?_
            simp only [Act.put]
            generalize hV90 : World.setCells u87 (b2) 0 _ = V89
            have HM91 : Hid (Mem w.heap.size w V89 [(g83, .cells (ca 16 (dg le)) 56), (g74, .cells (ca 16 (dg su)) 56), (g65, .cells (ca 16 (dg cb)) 56), (g58, .cells (ca 16 (dg da)) 56), (g51, .cells (ca 16 (dg ee)) 56), (g42, .cells (ca 16 (dg bb)) 56), (g33, .cells (ca 16 (dg aa)) 56), (g24, .cells (ca 16 (dg sb)) 56), (g15, .cells (ca 16 (dg sa)) 56), (b3, .cells (ca 16 (dg B3)) 56), (b2, .cells (ca 16 (dg p3)) 56), (b1, .cells (ca 16 (dg B2)) 56), (b0, .cells (ca 16 (dg A2)) 56), (g6, .cells (ca 16 (dg u)) 56), (w.heap.size + 1 + 1, .cells zs 22), (w.heap.size + 1, .cells (cs8 us) 22), (w.heap.size, .cells (cs8 (scal ks)) 22)]) := (by rw [← hV90]; exact (HM88.out).store 10 (ca 16 (dg p3)) rfl (by simp [ca_size]) : Mem w.heap.size w V89 [(g83, .cells (ca 16 (dg le)) 56), (g74, .cells (ca 16 (dg su)) 56), (g65, .cells (ca 16 (dg cb)) 56), (g58, .cells (ca 16 (dg da)) 56), (g51, .cells (ca 16 (dg ee)) 56), (g42, .cells (ca 16 (dg bb)) 56), (g33, .cells (ca 16 (dg aa)) 56), (g24, .cells (ca 16 (dg sb)) 56), (g15, .cells (ca 16 (dg sa)) 56), (b3, .cells (ca 16 (dg B3)) 56), (b2, .cells (ca 16 (dg p3)) 56), (b1, .cells (ca 16 (dg B2)) 56), (b0, .cells (ca 16 (dg A2)) 56), (g6, .cells (ca 16 (dg u)) 56), (w.heap.size + 1 + 1, .cells zs 22), (w.heap.size + 1, .cells (cs8 us) 22), (w.heap.size, .cells (cs8 (scal ks)) 22)])
            clear hV90 HM88
            go_wp2_with fail
            refine region_list V89.heap.size (C := fun w' => Below V89.heap.size V89 w') [.inl (.agg (ca 16 (dg u))), .inl (.agg (ca 16 (dg le))), .inl (.agg (ca 16 (dg le))), .inl (.agg (ca 16 (dg l2))), .inl (.agg (ca 16 (dg p4)))] [] (by kernel_rfl) (by kernel_rfl) ⟨rfl, rfl, rfl, Nat.le_refl _, fun _ _ => rfl⟩
              (fun w1 w2 h1 h2 => h1.trans (h2.mono h1.size)) (fun i h => by simp at h) ?_ ?_
            · refine ⟨?_, ?_, ?_, ?_, ?_, trivial⟩
              · intro s v hC hk hd
                have h : s.tmps[5]? = some (.pointer (some ⟨g6, 0, none⟩)) := hk 5 (by kernel_rfl)
                exact ok_load rfl rfl h (((HM91.out).keep hC).get 13 rfl) Try.underlying56 rfl (by kernel_rfl) (ca_size _ _)
              · intro s v hC hk hd
                have h : s.tmps[20]? = some (.pointer (some ⟨g83, 0, none⟩)) := hk 20 (by kernel_rfl)
                exact ok_load rfl rfl h (((HM91.out).keep hC).get 0 rfl) Try.underlying56 rfl (by kernel_rfl) (ca_size _ _)
              · intro s v hC hk hd
                have h : s.tmps[20]? = some (.pointer (some ⟨g83, 0, none⟩)) := hk 20 (by kernel_rfl)
                exact ok_load rfl rfl h (((HM91.out).keep hC).get 0 rfl) Try.underlying56 rfl (by kernel_rfl) (ca_size _ _)
              · intro s v hC hk hd
                have h0 : s.tmps[89]? = some (.agg (ca 16 (dg le))) := hd 1 (by kernel_rfl)
                have h1 : s.tmps[90]? = some (.agg (ca 16 (dg le))) := hd 2 (by kernel_rfl)
                exact ok_call rfl (by simp [Act.eval, h0, h1, go_sem]) (rmul_e le le l2 l_le l_le e_l2 v)
              · intro s v hC hk hd
                have h0 : s.tmps[88]? = some (.agg (ca 16 (dg u))) := hd 0 (by kernel_rfl)
                have h1 : s.tmps[91]? = some (.agg (ca 16 (dg l2))) := hd 3 (by kernel_rfl)
                exact ok_call rfl (by simp [Act.eval, h0, h1, go_sem]) (rmul_e u l2 p4 l_u l_l2 e_p4 v)
            · intro nb wA92 hC hf hne
              have M93 := (HM91.out).keep hC
              clear hf hne hC
              simp [valsOf, valOf, putAll, Act.put]
              have HM : Hid (Mem w.heap.size w wA92 [(g83, .cells (ca 16 (dg le)) 56), (g74, .cells (ca 16 (dg su)) 56), (g65, .cells (ca 16 (dg cb)) 56), (g58, .cells (ca 16 (dg da)) 56), (g51, .cells (ca 16 (dg ee)) 56), (g42, .cells (ca 16 (dg bb)) 56), (g33, .cells (ca 16 (dg aa)) 56), (g24, .cells (ca 16 (dg sb)) 56), (g15, .cells (ca 16 (dg sa)) 56), (b3, .cells (ca 16 (dg B3)) 56), (b2, .cells (ca 16 (dg p3)) 56), (b1, .cells (ca 16 (dg B2)) 56), (b0, .cells (ca 16 (dg A2)) 56), (g6, .cells (ca 16 (dg u)) 56), (w.heap.size + 1 + 1, .cells zs 22), (w.heap.size + 1, .cells (cs8 us) 22), (w.heap.size, .cells (cs8 (scal ks)) 22)]) := M93
              refine wpList_store_blk (b := b3) rfl rfl rfl rfl ((HM.out).get 9 rfl) (by kernel_rfl) (ca_size _ _) (ca_size _ _) (ca_one _ _) ?_
              simp only [Act.put]
              generalize hV95 : World.setCells wA92 (b3) 0 _ = V94
              have HM96 : Hid (Mem w.heap.size w V94 [(g83, .cells (ca 16 (dg le)) 56), (g74, .cells (ca 16 (dg su)) 56), (g65, .cells (ca 16 (dg cb)) 56), (g58, .cells (ca 16 (dg da)) 56), (g51, .cells (ca 16 (dg ee)) 56), (g42, .cells (ca 16 (dg bb)) 56), (g33, .cells (ca 16 (dg aa)) 56), (g24, .cells (ca 16 (dg sb)) 56), (g15, .cells (ca 16 (dg sa)) 56), (b3, .cells (ca 16 (dg p4)) 56), (b2, .cells (ca 16 (dg p3)) 56), (b1, .cells (ca 16 (dg B2)) 56), (b0, .cells (ca 16 (dg A2)) 56), (g6, .cells (ca 16 (dg u)) 56), (w.heap.size + 1 + 1, .cells zs 22), (w.heap.size + 1, .cells (cs8 us) 22), (w.heap.size, .cells (cs8 (scal ks)) 22)]) := (by rw [← hV95]; exact (HM.out).store 9 (ca 16 (dg p4)) rfl (by simp [ca_size]) : Mem w.heap.size w V94 [(g83, .cells (ca 16 (dg le)) 56), (g74, .cells (ca 16 (dg su)) 56), (g65, .cells (ca 16 (dg cb)) 56), (g58, .cells (ca 16 (dg da)) 56), (g51, .cells (ca 16 (dg ee)) 56), (g42, .cells (ca 16 (dg bb)) 56), (g33, .cells (ca 16 (dg aa)) 56), (g24, .cells (ca 16 (dg sb)) 56), (g15, .cells (ca 16 (dg sa)) 56), (b3, .cells (ca 16 (dg p4)) 56), (b2, .cells (ca 16 (dg p3)) 56), (b1, .cells (ca 16 (dg B2)) 56), (b0, .cells (ca 16 (dg A2)) 56), (g6, .cells (ca 16 (dg u)) 56), (w.heap.size + 1 + 1, .cells zs 22), (w.heap.size + 1, .cells (cs8 us) 22), (w.heap.size, .cells (cs8 (scal ks)) 22)])
              clear hV95 HM
              go_upto_region 22 with fail
              refine wp_region_list ?_
              refine wpList_load_blk (b := g33) rfl rfl rfl ((HM96.out).get 6 rfl) Try.underlying56 rfl (by kernel_rfl) (ca_size _ _) ?_
              simp only [Act.put, List.setIfInBounds_toArray, List.set_cons_succ, List.set_cons_zero]
              refine wpList_load_blk (b := g42) rfl rfl rfl ((HM96.out).get 5 rfl) Try.underlying56 rfl (by kernel_rfl) (ca_size _ _) ?_
              simp only [Act.put, List.setIfInBounds_toArray, List.set_cons_succ, List.set_cons_zero]
              refine wpList_call rfl (by simp [Act.eval, go_sem]) (rmul_e aa bb p1 l_aa l_bb e_p1 _) fun u97 hb => ?_
              have HM98 : Hid (Mem w.heap.size w u97 [(g83, .cells (ca 16 (dg le)) 56), (g74, .cells (ca 16 (dg su)) 56), (g65, .cells (ca 16 (dg cb)) 56), (g58, .cells (ca 16 (dg da)) 56), (g51, .cells (ca 16 (dg ee)) 56), (g42, .cells (ca 16 (dg bb)) 56), (g33, .cells (ca 16 (dg aa)) 56), (g24, .cells (ca 16 (dg sb)) 56), (g15, .cells (ca 16 (dg sa)) 56), (b3, .cells (ca 16 (dg p4)) 56), (b2, .cells (ca 16 (dg p3)) 56), (b1, .cells (ca 16 (dg B2)) 56), (b0, .cells (ca 16 (dg A2)) 56), (g6, .cells (ca 16 (dg u)) 56), (w.heap.size + 1 + 1, .cells zs 22), (w.heap.size + 1, .cells (cs8 us) 22), (w.heap.size, .cells (cs8 (scal ks)) 22)]) := (HM96.out).keep hb
              clear hb HM96
              simp only [Act.put, List.setIfInBounds_toArray, List.set_cons_succ, List.set_cons_zero]
              refine wpList_store_blk (b := b0) rfl rfl rfl rfl ((HM98.out).get 12 rfl) (by kernel_rfl) (ca_size _ _) (ca_size _ _) (ca_one _ _) ?_
              simp only [Act.put]
              generalize hV100 : World.setCells u97 (b0) 0 _ = V99
              have HM101 : Hid (Mem w.heap.size w V99 [(g83, .cells (ca 16 (dg le)) 56), (g74, .cells (ca 16 (dg su)) 56), (g65, .cells (ca 16 (dg cb)) 56), (g58, .cells (ca 16 (dg da)) 56), (g51, .cells (ca 16 (dg ee)) 56), (g42, .cells (ca 16 (dg bb)) 56), (g33, .cells (ca 16 (dg aa)) 56), (g24, .cells (ca 16 (dg sb)) 56), (g15, .cells (ca 16 (dg sa)) 56), (b3, .cells (ca 16 (dg p4)) 56), (b2, .cells (ca 16 (dg p3)) 56), (b1, .cells (ca 16 (dg B2)) 56), (b0, .cells (ca 16 (dg p1)) 56), (g6, .cells (ca 16 (dg u)) 56), (w.heap.size + 1 + 1, .cells zs 22), (w.heap.size + 1, .cells (cs8 us) 22), (w.heap.size, .cells (cs8 (scal ks)) 22)]) := (by rw [← hV100]; exact (HM98.out).store 12 (ca 16 (dg p1)) rfl (by simp [ca_size]) : Mem w.heap.size w V99 [(g83, .cells (ca 16 (dg le)) 56), (g74, .cells (ca 16 (dg su)) 56), (g65, .cells (ca 16 (dg cb)) 56), (g58, .cells (ca 16 (dg da)) 56), (g51, .cells (ca 16 (dg ee)) 56), (g42, .cells (ca 16 (dg bb)) 56), (g33, .cells (ca 16 (dg aa)) 56), (g24, .cells (ca 16 (dg sb)) 56), (g15, .cells (ca 16 (dg sa)) 56), (b3, .cells (ca 16 (dg p4)) 56), (b2, .cells (ca 16 (dg p3)) 56), (b1, .cells (ca 16 (dg B2)) 56), (b0, .cells (ca 16 (dg p1)) 56), (g6, .cells (ca 16 (dg u)) 56), (w.heap.size + 1 + 1, .cells zs 22), (w.heap.size + 1, .cells (cs8 us) 22), (w.heap.size, .cells (cs8 (scal ks)) 22)])
              clear hV100 HM98
              go_wp2_with fail
              refine region_list V99.heap.size (C := fun w' => Below V99.heap.size V99 w') [.inl (.agg (ca 16 (dg ee))), .inl (.agg (ca 16 (dg aa))), .inl (.agg (ca 16 (dg 121665))), .inl (.agg (ca 16 (dg ee))), .inl (.agg (ca 16 (dg ff))), .inl (.agg (ca 16 (dg gg))), .inl (.agg (ca 16 (dg p2)))] [] (by kernel_rfl) (by kernel_rfl) ⟨rfl, rfl, rfl, Nat.le_refl _, fun _ _ => rfl⟩
                (fun w1 w2 h1 h2 => h1.trans (h2.mono h1.size)) (fun i h => by simp at h) ?_ ?_
              · refine ⟨?_, ?_, ?_, ?_, ?_, ?_, ?_, trivial⟩
                · intro s v hC hk hd
                  have h : s.tmps[16]? = some (.pointer (some ⟨g51, 0, none⟩)) := hk 16 (by kernel_rfl)
                  exact ok_load rfl rfl h (((HM101.out).keep hC).get 4 rfl) Try.underlying56 rfl (by kernel_rfl) (ca_size _ _)
                · intro s v hC hk hd
                  have h : s.tmps[14]? = some (.pointer (some ⟨g33, 0, none⟩)) := hk 14 (by kernel_rfl)
                  exact ok_load rfl rfl h (((HM101.out).keep hC).get 6 rfl) Try.underlying56 rfl (by kernel_rfl) (ca_size _ _)
                · intro s v hC hk hd
                  exact ok_call rfl (by simp [Act.eval, go_sem]) (small_any 121665 (by decide) v)
                · intro s v hC hk hd
                  have h : s.tmps[16]? = some (.pointer (some ⟨g51, 0, none⟩)) := hk 16 (by kernel_rfl)
                  exact ok_load rfl rfl h (((HM101.out).keep hC).get 4 rfl) Try.underlying56 rfl (by kernel_rfl) (ca_size _ _)
                · intro s v hC hk hd
                  have h0 : s.tmps[98]? = some (.agg (ca 16 (dg 121665))) := hd 2 (by kernel_rfl)
                  have h1 : s.tmps[99]? = some (.agg (ca 16 (dg ee))) := hd 3 (by kernel_rfl)
                  exact ok_call rfl (by simp [Act.eval, h0, h1, go_sem]) (rmul_e 121665 ee ff (by decide) l_ee e_ff v)
                · intro s v hC hk hd
                  have h0 : s.tmps[97]? = some (.agg (ca 16 (dg aa))) := hd 1 (by kernel_rfl)
                  have h1 : s.tmps[100]? = some (.agg (ca 16 (dg ff))) := hd 4 (by kernel_rfl)
                  exact ok_call rfl (by simp [Act.eval, h0, h1, go_sem]) (radd_e aa ff gg l_aa l_ff e_gg v)
                · intro s v hC hk hd
                  have h0 : s.tmps[96]? = some (.agg (ca 16 (dg ee))) := hd 0 (by kernel_rfl)
                  have h1 : s.tmps[101]? = some (.agg (ca 16 (dg gg))) := hd 5 (by kernel_rfl)
                  exact ok_call rfl (by simp [Act.eval, h0, h1, go_sem]) (rmul_e ee gg p2 l_ee l_gg e_p2 v)
              · intro nb wA102 hC hf hne
                have M103 := (HM101.out).keep hC
                clear hf hne hC
                simp [valsOf, valOf, putAll, Act.put]
                have HM : Hid (Mem w.heap.size w wA102 [(g83, .cells (ca 16 (dg le)) 56), (g74, .cells (ca 16 (dg su)) 56), (g65, .cells (ca 16 (dg cb)) 56), (g58, .cells (ca 16 (dg da)) 56), (g51, .cells (ca 16 (dg ee)) 56), (g42, .cells (ca 16 (dg bb)) 56), (g33, .cells (ca 16 (dg aa)) 56), (g24, .cells (ca 16 (dg sb)) 56), (g15, .cells (ca 16 (dg sa)) 56), (b3, .cells (ca 16 (dg p4)) 56), (b2, .cells (ca 16 (dg p3)) 56), (b1, .cells (ca 16 (dg B2)) 56), (b0, .cells (ca 16 (dg p1)) 56), (g6, .cells (ca 16 (dg u)) 56), (w.heap.size + 1 + 1, .cells zs 22), (w.heap.size + 1, .cells (cs8 us) 22), (w.heap.size, .cells (cs8 (scal ks)) 22)]) := M103
                refine wpList_store_blk (b := b1) rfl rfl rfl rfl ((HM.out).get 11 rfl) (by kernel_rfl) (ca_size _ _) (ca_size _ _) (ca_one _ _) ?_
                simp only [Act.put]
                generalize hV105 : World.setCells wA102 (b1) 0 _ = V104
                have HM106 : Hid (Mem w.heap.size w V104 [(g83, .cells (ca 16 (dg le)) 56), (g74, .cells (ca 16 (dg su)) 56), (g65, .cells (ca 16 (dg cb)) 56), (g58, .cells (ca 16 (dg da)) 56), (g51, .cells (ca 16 (dg ee)) 56), (g42, .cells (ca 16 (dg bb)) 56), (g33, .cells (ca 16 (dg aa)) 56), (g24, .cells (ca 16 (dg sb)) 56), (g15, .cells (ca 16 (dg sa)) 56), (b3, .cells (ca 16 (dg p4)) 56), (b2, .cells (ca 16 (dg p3)) 56), (b1, .cells (ca 16 (dg p2)) 56), (b0, .cells (ca 16 (dg p1)) 56), (g6, .cells (ca 16 (dg u)) 56), (w.heap.size + 1 + 1, .cells zs 22), (w.heap.size + 1, .cells (cs8 us) 22), (w.heap.size, .cells (cs8 (scal ks)) 22)]) := (by rw [← hV105]; exact (HM.out).store 11 (ca 16 (dg p2)) rfl (by simp [ca_size]) : Mem w.heap.size w V104 [(g83, .cells (ca 16 (dg le)) 56), (g74, .cells (ca 16 (dg su)) 56), (g65, .cells (ca 16 (dg cb)) 56), (g58, .cells (ca 16 (dg da)) 56), (g51, .cells (ca 16 (dg ee)) 56), (g42, .cells (ca 16 (dg bb)) 56), (g33, .cells (ca 16 (dg aa)) 56), (g24, .cells (ca 16 (dg sb)) 56), (g15, .cells (ca 16 (dg sa)) 56), (b3, .cells (ca 16 (dg p4)) 56), (b2, .cells (ca 16 (dg p3)) 56), (b1, .cells (ca 16 (dg p2)) 56), (b0, .cells (ca 16 (dg p1)) 56), (g6, .cells (ca 16 (dg u)) 56), (w.heap.size + 1 + 1, .cells zs 22), (w.heap.size + 1, .cells (cs8 us) 22), (w.heap.size, .cells (cs8 (scal ks)) 22)])
                clear hV105 HM
                go_wp2_with fail
                go_roundw
                case rel =>
                  have hm := HMJ.out
                  exact ⟨j + 1, by omega, int_eq (by omega), by rw [HX.out]; exact (HM106.out).tail.tail.tail.tail.tail.tail.tail.tail.tail⟩
                case measure => simp [intOf]
      · skip
        obtain ⟨sa, e_sa⟩ : ∃ x, (A3 + B3) % pN = x := ⟨_, rfl⟩
        have l_sa : sa < pN := e_sa ▸ Nat.mod_lt _ (by decide)
        obtain ⟨sb, e_sb⟩ : ∃ x, (A3 + (pN - B3)) % pN = x := ⟨_, rfl⟩
        have l_sb : sb < pN := e_sb ▸ Nat.mod_lt _ (by decide)
        obtain ⟨aa, e_aa⟩ : ∃ x, sa * sa % pN = x := ⟨_, rfl⟩
        have l_aa : aa < pN := e_aa ▸ Nat.mod_lt _ (by decide)
        obtain ⟨bb, e_bb⟩ : ∃ x, sb * sb % pN = x := ⟨_, rfl⟩
        have l_bb : bb < pN := e_bb ▸ Nat.mod_lt _ (by decide)
        obtain ⟨ee, e_ee⟩ : ∃ x, (aa + (pN - bb)) % pN = x := ⟨_, rfl⟩
        have l_ee : ee < pN := e_ee ▸ Nat.mod_lt _ (by decide)
        obtain ⟨dd, e_dd⟩ : ∃ x, (A2 + (pN - B2)) % pN = x := ⟨_, rfl⟩
        have l_dd : dd < pN := e_dd ▸ Nat.mod_lt _ (by decide)
        obtain ⟨da, e_da⟩ : ∃ x, dd * sa % pN = x := ⟨_, rfl⟩
        have l_da : da < pN := e_da ▸ Nat.mod_lt _ (by decide)
        obtain ⟨cc, e_cc⟩ : ∃ x, (A2 + B2) % pN = x := ⟨_, rfl⟩
        have l_cc : cc < pN := e_cc ▸ Nat.mod_lt _ (by decide)
        obtain ⟨cb, e_cb⟩ : ∃ x, cc * sb % pN = x := ⟨_, rfl⟩
        have l_cb : cb < pN := e_cb ▸ Nat.mod_lt _ (by decide)
        obtain ⟨su, e_su⟩ : ∃ x, (da + cb) % pN = x := ⟨_, rfl⟩
        have l_su : su < pN := e_su ▸ Nat.mod_lt _ (by decide)
        obtain ⟨le, e_le⟩ : ∃ x, (da + (pN - cb)) % pN = x := ⟨_, rfl⟩
        have l_le : le < pN := e_le ▸ Nat.mod_lt _ (by decide)
        obtain ⟨p3, e_p3⟩ : ∃ x, su * su % pN = x := ⟨_, rfl⟩
        have l_p3 : p3 < pN := e_p3 ▸ Nat.mod_lt _ (by decide)
        obtain ⟨l2, e_l2⟩ : ∃ x, le * le % pN = x := ⟨_, rfl⟩
        have l_l2 : l2 < pN := e_l2 ▸ Nat.mod_lt _ (by decide)
        obtain ⟨p4, e_p4⟩ : ∃ x, u * l2 % pN = x := ⟨_, rfl⟩
        have l_p4 : p4 < pN := e_p4 ▸ Nat.mod_lt _ (by decide)
        obtain ⟨p1, e_p1⟩ : ∃ x, aa * bb % pN = x := ⟨_, rfl⟩
        have l_p1 : p1 < pN := e_p1 ▸ Nat.mod_lt _ (by decide)
        obtain ⟨ff, e_ff⟩ : ∃ x, 121665 * ee % pN = x := ⟨_, rfl⟩
        have l_ff : ff < pN := e_ff ▸ Nat.mod_lt _ (by decide)
        obtain ⟨gg, e_gg⟩ : ∃ x, (aa + ff) % pN = x := ⟨_, rfl⟩
        have l_gg : gg < pN := e_gg ▸ Nat.mod_lt _ (by decide)
        obtain ⟨p2, e_p2⟩ : ∃ x, ee * gg % pN = x := ⟨_, rfl⟩
        have l_p2 : p2 < pN := e_p2 ▸ Nat.mod_lt _ (by decide)
        have e_q4 : u * le % pN * le % pN = p4 := by rw [← e_p4, ← e_l2]; exact (mN_assoc u le).symm
        have ST : Lad.step u ⟨A3, B3, A2, B2⟩ = ⟨p1, p2, p3, p4⟩ := by simp only [Lad.step, lS, lL, lE, lDA, lCB, lAA, lBB, lA, lB, aN, sN, mN, e_sa, e_sb, e_aa, e_bb, e_ee, e_dd, e_da, e_cc, e_cb, e_su, e_le, e_p3, e_p1, e_ff, e_gg, e_p2, e_q4]
        have HX : Hid (ladTo (scal ks) u (j + 1) = ⟨p3, p4, p1, p2⟩) := (by rw [HN.out]; show Lad.swap 1 (Lad.step u ⟨A3, B3, A2, B2⟩) = _; rw [ST]; rfl : ladTo (scal ks) u (j + 1) = ⟨p3, p4, p1, p2⟩)
        clear ST HN
        go_wp2_with fail
        obtain ⟨s107w0, s107h0⟩ : ∃ x : World, x = { wr with drawn := wr.drawn + 1 } := ⟨_, rfl⟩
        have s107m0 : Mem w.heap.size w s107w0 [(b3, .cells (ca 16 (dg B3)) 56), (b2, .cells (ca 16 (dg A3)) 56), (b1, .cells (ca 16 (dg B2)) 56), (b0, .cells (ca 16 (dg A2)) 56), (g6, .cells (ca 16 (dg u)) 56), (w.heap.size + 1 + 1, .cells zs 22), (w.heap.size + 1, .cells (cs8 us) 22), (w.heap.size, .cells (cs8 (scal ks)) 22)] := by rw [s107h0]; exact (HL.out).keep ⟨rfl, rfl, rfl, Nat.le_refl _, fun _ _ => rfl⟩
        obtain ⟨s107w1, s107h1⟩ : ∃ x : World, x = s107w0.setCells (b0) 0 ((ca 16 (dg A3))).toList := ⟨_, rfl⟩
        have s107m1 : Mem w.heap.size w s107w1 [(b3, .cells (ca 16 (dg B3)) 56), (b2, .cells (ca 16 (dg A3)) 56), (b1, .cells (ca 16 (dg B2)) 56), (b0, .cells (ca 16 (dg A3)) 56), (g6, .cells (ca 16 (dg u)) 56), (w.heap.size + 1 + 1, .cells zs 22), (w.heap.size + 1, .cells (cs8 us) 22), (w.heap.size, .cells (cs8 (scal ks)) 22)] := by rw [s107h1]; exact s107m0.store 3 (ca 16 (dg A3)) rfl (by rw [ca_size, ca_size])
        obtain ⟨s107w2, s107h2⟩ : ∃ x : World, x = s107w1.setCells (b1) 0 ((ca 16 (dg B3))).toList := ⟨_, rfl⟩
        have s107m2 : Mem w.heap.size w s107w2 [(b3, .cells (ca 16 (dg B3)) 56), (b2, .cells (ca 16 (dg A3)) 56), (b1, .cells (ca 16 (dg B3)) 56), (b0, .cells (ca 16 (dg A3)) 56), (g6, .cells (ca 16 (dg u)) 56), (w.heap.size + 1 + 1, .cells zs 22), (w.heap.size + 1, .cells (cs8 us) 22), (w.heap.size, .cells (cs8 (scal ks)) 22)] := by rw [s107h2]; exact s107m1.store 2 (ca 16 (dg B3)) rfl (by rw [ca_size, ca_size])
        obtain ⟨s107w3, s107h3⟩ : ∃ x : World, x = s107w2.setCells (b2) 0 ((ca 16 (dg A2))).toList := ⟨_, rfl⟩
        have s107m3 : Mem w.heap.size w s107w3 [(b3, .cells (ca 16 (dg B3)) 56), (b2, .cells (ca 16 (dg A2)) 56), (b1, .cells (ca 16 (dg B3)) 56), (b0, .cells (ca 16 (dg A3)) 56), (g6, .cells (ca 16 (dg u)) 56), (w.heap.size + 1 + 1, .cells zs 22), (w.heap.size + 1, .cells (cs8 us) 22), (w.heap.size, .cells (cs8 (scal ks)) 22)] := by rw [s107h3]; exact s107m2.store 1 (ca 16 (dg A2)) rfl (by rw [ca_size, ca_size])
        obtain ⟨s107w4, s107h4⟩ : ∃ x : World, x = s107w3.setCells (b3) 0 ((ca 16 (dg B2))).toList := ⟨_, rfl⟩
        have s107m4 : Mem w.heap.size w s107w4 [(b3, .cells (ca 16 (dg B2)) 56), (b2, .cells (ca 16 (dg A2)) 56), (b1, .cells (ca 16 (dg B3)) 56), (b0, .cells (ca 16 (dg A3)) 56), (g6, .cells (ca 16 (dg u)) 56), (w.heap.size + 1 + 1, .cells zs 22), (w.heap.size + 1, .cells (cs8 us) 22), (w.heap.size, .cells (cs8 (scal ks)) 22)] := by rw [s107h4]; exact s107m3.store 0 (ca 16 (dg B2)) rfl (by rw [ca_size, ca_size])
        refine region_swap 50 (ca 16 (dg A3)) (ca 16 (dg B3)) (ca 16 (dg A2)) (ca 16 (dg B2)) s107w0 s107w1 s107w2 s107w3 s107w4 (by kernel_rfl) (by kernel_rfl) (by simp) s107h0 ⟨rfl, rfl⟩ ⟨rfl, rfl⟩ ⟨rfl, rfl⟩ ⟨rfl, rfl⟩ ⟨rfl, rfl⟩ ⟨rfl, rfl⟩ ⟨rfl, rfl⟩ ⟨rfl, rfl⟩ ⟨of_decide_eq_true (by kernel_rfl), of_decide_eq_true (by kernel_rfl), of_decide_eq_true (by kernel_rfl)⟩ ⟨of_decide_eq_true (by kernel_rfl), of_decide_eq_true (by kernel_rfl)⟩ ⟨of_decide_eq_true (by kernel_rfl), of_decide_eq_true (by kernel_rfl)⟩ ⟨of_decide_eq_true (by kernel_rfl), of_decide_eq_true (by kernel_rfl)⟩
          (fun a hk => run_load_op (t := 8) rfl ((hk 8 (by omega)).trans rfl) (s107m0.get 1 rfl) Try.underlying56 rfl (by kernel_rfl) (ca_size _ _))
          (fun a hk => run_load_op (t := 9) rfl ((hk 9 (by omega)).trans rfl) (s107m0.get 0 rfl) Try.underlying56 rfl (by kernel_rfl) (ca_size _ _))
          (fun a hk => run_load_op (t := 6) rfl ((hk 6 (by omega)).trans rfl) (s107m0.get 3 rfl) Try.underlying56 rfl (by kernel_rfl) (ca_size _ _))
          (fun a hk => run_load_op (t := 7) rfl ((hk 7 (by omega)).trans rfl) (s107m0.get 2 rfl) Try.underlying56 rfl (by kernel_rfl) (ca_size _ _))
          (fun a hk => run_load_op (t := 9) rfl ((hk 9 (by omega)).trans rfl) (s107m1.get 0 rfl) Try.underlying56 rfl (by kernel_rfl) (ca_size _ _))
          (fun a K hk hv hK => wp_store_blk (t := 6) (s := 50) rfl ((hk 6 (by omega)).trans rfl) hv (s107m0.get 3 rfl) (by kernel_rfl) (ca_size _ _) (ca_size _ _) (ca_one _ _) s107h1 hK)
          (fun a K hk hv hK => wp_store_blk (t := 7) (s := 51) rfl ((hk 7 (by omega)).trans rfl) hv (s107m1.get 2 rfl) (by kernel_rfl) (ca_size _ _) (ca_size _ _) (ca_one _ _) s107h2 hK)
          (fun a K hk hv hK => wp_store_blk (t := 8) (s := 52) rfl ((hk 8 (by omega)).trans rfl) hv (s107m2.get 1 rfl) (by kernel_rfl) (ca_size _ _) (ca_size _ _) (ca_one _ _) s107h3 hK)
          (fun a K hk hv hK => wp_store_blk (t := 9) (s := 53) rfl ((hk 9 (by omega)).trans rfl) hv (s107m3.get 0 rfl) (by kernel_rfl) (ca_size _ _) (ca_size _ _) (ca_one _ _) s107h4 hK)
          ?_
        have HQs107 : Hid _ := s107m4
        clear s107m0 s107m1 s107m2 s107m3 s107m4 s107h0 s107h1 s107h2 s107h3 s107h4
        simp only [Act.put, List.setIfInBounds_toArray, List.set_cons_succ, List.set_cons_zero]
        go_upto_region 11 with fail
        refine wp_region_list ?_
        refine wpList_load_blk (b := b0) rfl rfl rfl ((HQs107.out).get 3 rfl) Try.underlying56 rfl (by kernel_rfl) (ca_size _ _) ?_
        simp only [Act.put, List.setIfInBounds_toArray, List.set_cons_succ, List.set_cons_zero]
        refine wpList_load_blk (b := b1) rfl rfl rfl ((HQs107.out).get 2 rfl) Try.underlying56 rfl (by kernel_rfl) (ca_size _ _) ?_
        simp only [Act.put, List.setIfInBounds_toArray, List.set_cons_succ, List.set_cons_zero]
        refine wpList_call rfl (by simp [Act.eval, go_sem]) (radd_e A3 B3 sa l_A3 l_B3 e_sa _) fun u108 hb => ?_
        have HM109 : Hid (Mem w.heap.size w u108 [(b3, .cells (ca 16 (dg B2)) 56), (b2, .cells (ca 16 (dg A2)) 56), (b1, .cells (ca 16 (dg B3)) 56), (b0, .cells (ca 16 (dg A3)) 56), (g6, .cells (ca 16 (dg u)) 56), (w.heap.size + 1 + 1, .cells zs 22), (w.heap.size + 1, .cells (cs8 us) 22), (w.heap.size, .cells (cs8 (scal ks)) 22)]) := (HQs107.out).keep hb
        clear hb HQs107
        simp only [Act.put, List.setIfInBounds_toArray, List.set_cons_succ, List.set_cons_zero]
        refine wpList_alloc (o := .cells #[.int .u64 0, .int .u64 0, .int .u64 0, .int .u64 0, .int .u64 0, .int .u64 0, .int .u64 0, .int .u64 0, .int .u64 0, .int .u64 0, .int .u64 0, .int .u64 0, .int .u64 0, .int .u64 0, .int .u64 0, .int .u64 0] 56) (v := .pointer (some ⟨u108.heap.size, 0, none⟩)) rfl (by simp [execOp, go_sem]) ?_
        simp only [Act.put, List.setIfInBounds_toArray, List.set_cons_succ, List.set_cons_zero]
        have HM112 : Hid (Mem w.heap.size w _ [(u108.heap.size, .cells #[.int .u64 0, .int .u64 0, .int .u64 0, .int .u64 0, .int .u64 0, .int .u64 0, .int .u64 0, .int .u64 0, .int .u64 0, .int .u64 0, .int .u64 0, .int .u64 0, .int .u64 0, .int .u64 0, .int .u64 0, .int .u64 0] 56), (b3, .cells (ca 16 (dg B2)) 56), (b2, .cells (ca 16 (dg A2)) 56), (b1, .cells (ca 16 (dg B3)) 56), (b0, .cells (ca 16 (dg A3)) 56), (g6, .cells (ca 16 (dg u)) 56), (w.heap.size + 1 + 1, .cells zs 22), (w.heap.size + 1, .cells (cs8 us) 22), (w.heap.size, .cells (cs8 (scal ks)) 22)]) := (HM109.out).alloc (.cells #[.int .u64 0, .int .u64 0, .int .u64 0, .int .u64 0, .int .u64 0, .int .u64 0, .int .u64 0, .int .u64 0, .int .u64 0, .int .u64 0, .int .u64 0, .int .u64 0, .int .u64 0, .int .u64 0, .int .u64 0, .int .u64 0] 56)
        clear HM109
        generalize u108.alloc (.cells #[.int .u64 0, .int .u64 0, .int .u64 0, .int .u64 0, .int .u64 0, .int .u64 0, .int .u64 0, .int .u64 0, .int .u64 0, .int .u64 0, .int .u64 0, .int .u64 0, .int .u64 0, .int .u64 0, .int .u64 0, .int .u64 0] 56) = V110 at *
        generalize u108.heap.size = g113 at *
        refine wpList_store_blk (b := g113) rfl rfl rfl rfl ((HM112.out).get 0 rfl) (by kernel_rfl) (rfl) (ca_size _ _) (ca_one _ _) ?_
        simp only [Act.put]
        generalize hV115 : World.setCells V110 (g113) 0 _ = V114
        have HM116 : Hid (Mem w.heap.size w V114 [(g113, .cells (ca 16 (dg sa)) 56), (b3, .cells (ca 16 (dg B2)) 56), (b2, .cells (ca 16 (dg A2)) 56), (b1, .cells (ca 16 (dg B3)) 56), (b0, .cells (ca 16 (dg A3)) 56), (g6, .cells (ca 16 (dg u)) 56), (w.heap.size + 1 + 1, .cells zs 22), (w.heap.size + 1, .cells (cs8 us) 22), (w.heap.size, .cells (cs8 (scal ks)) 22)]) := (by rw [← hV115]; exact (HM112.out).store 0 (ca 16 (dg sa)) rfl (by simp [ca_size]) : Mem w.heap.size w V114 [(g113, .cells (ca 16 (dg sa)) 56), (b3, .cells (ca 16 (dg B2)) 56), (b2, .cells (ca 16 (dg A2)) 56), (b1, .cells (ca 16 (dg B3)) 56), (b0, .cells (ca 16 (dg A3)) 56), (g6, .cells (ca 16 (dg u)) 56), (w.heap.size + 1 + 1, .cells zs 22), (w.heap.size + 1, .cells (cs8 us) 22), (w.heap.size, .cells (cs8 (scal ks)) 22)])
        clear hV115 HM112
        go_upto_region 12 with fail
        refine wp_region_list ?_
        refine wpList_load_blk (b := b0) rfl rfl rfl ((HM116.out).get 4 rfl) Try.underlying56 rfl (by kernel_rfl) (ca_size _ _) ?_
        simp only [Act.put, List.setIfInBounds_toArray, List.set_cons_succ, List.set_cons_zero]
        refine wpList_load_blk (b := b1) rfl rfl rfl ((HM116.out).get 3 rfl) Try.underlying56 rfl (by kernel_rfl) (ca_size _ _) ?_
        simp only [Act.put, List.setIfInBounds_toArray, List.set_cons_succ, List.set_cons_zero]
        refine wpList_call rfl (by simp [Act.eval, go_sem]) (rsub_e A3 B3 sb l_A3 l_B3 e_sb _) fun u117 hb => ?_
        have HM118 : Hid (Mem w.heap.size w u117 [(g113, .cells (ca 16 (dg sa)) 56), (b3, .cells (ca 16 (dg B2)) 56), (b2, .cells (ca 16 (dg A2)) 56), (b1, .cells (ca 16 (dg B3)) 56), (b0, .cells (ca 16 (dg A3)) 56), (g6, .cells (ca 16 (dg u)) 56), (w.heap.size + 1 + 1, .cells zs 22), (w.heap.size + 1, .cells (cs8 us) 22), (w.heap.size, .cells (cs8 (scal ks)) 22)]) := (HM116.out).keep hb
        clear hb HM116
        simp only [Act.put, List.setIfInBounds_toArray, List.set_cons_succ, List.set_cons_zero]
        refine wpList_alloc (o := .cells #[.int .u64 0, .int .u64 0, .int .u64 0, .int .u64 0, .int .u64 0, .int .u64 0, .int .u64 0, .int .u64 0, .int .u64 0, .int .u64 0, .int .u64 0, .int .u64 0, .int .u64 0, .int .u64 0, .int .u64 0, .int .u64 0] 56) (v := .pointer (some ⟨u117.heap.size, 0, none⟩)) rfl (by simp [execOp, go_sem]) ?_
        simp only [Act.put, List.setIfInBounds_toArray, List.set_cons_succ, List.set_cons_zero]
        have HM121 : Hid (Mem w.heap.size w _ [(u117.heap.size, .cells #[.int .u64 0, .int .u64 0, .int .u64 0, .int .u64 0, .int .u64 0, .int .u64 0, .int .u64 0, .int .u64 0, .int .u64 0, .int .u64 0, .int .u64 0, .int .u64 0, .int .u64 0, .int .u64 0, .int .u64 0, .int .u64 0] 56), (g113, .cells (ca 16 (dg sa)) 56), (b3, .cells (ca 16 (dg B2)) 56), (b2, .cells (ca 16 (dg A2)) 56), (b1, .cells (ca 16 (dg B3)) 56), (b0, .cells (ca 16 (dg A3)) 56), (g6, .cells (ca 16 (dg u)) 56), (w.heap.size + 1 + 1, .cells zs 22), (w.heap.size + 1, .cells (cs8 us) 22), (w.heap.size, .cells (cs8 (scal ks)) 22)]) := (HM118.out).alloc (.cells #[.int .u64 0, .int .u64 0, .int .u64 0, .int .u64 0, .int .u64 0, .int .u64 0, .int .u64 0, .int .u64 0, .int .u64 0, .int .u64 0, .int .u64 0, .int .u64 0, .int .u64 0, .int .u64 0, .int .u64 0, .int .u64 0] 56)
        clear HM118
        generalize u117.alloc (.cells #[.int .u64 0, .int .u64 0, .int .u64 0, .int .u64 0, .int .u64 0, .int .u64 0, .int .u64 0, .int .u64 0, .int .u64 0, .int .u64 0, .int .u64 0, .int .u64 0, .int .u64 0, .int .u64 0, .int .u64 0, .int .u64 0] 56) = V119 at *
        generalize u117.heap.size = g122 at *
        refine wpList_store_blk (b := g122) rfl rfl rfl rfl ((HM121.out).get 0 rfl) (by kernel_rfl) (rfl) (ca_size _ _) (ca_one _ _) ?_
        simp only [Act.put]
        generalize hV124 : World.setCells V119 (g122) 0 _ = V123
        have HM125 : Hid (Mem w.heap.size w V123 [(g122, .cells (ca 16 (dg sb)) 56), (g113, .cells (ca 16 (dg sa)) 56), (b3, .cells (ca 16 (dg B2)) 56), (b2, .cells (ca 16 (dg A2)) 56), (b1, .cells (ca 16 (dg B3)) 56), (b0, .cells (ca 16 (dg A3)) 56), (g6, .cells (ca 16 (dg u)) 56), (w.heap.size + 1 + 1, .cells zs 22), (w.heap.size + 1, .cells (cs8 us) 22), (w.heap.size, .cells (cs8 (scal ks)) 22)]) := (by rw [← hV124]; exact (HM121.out).store 0 (ca 16 (dg sb)) rfl (by simp [ca_size]) : Mem w.heap.size w V123 [(g122, .cells (ca 16 (dg sb)) 56), (g113, .cells (ca 16 (dg sa)) 56), (b3, .cells (ca 16 (dg B2)) 56), (b2, .cells (ca 16 (dg A2)) 56), (b1, .cells (ca 16 (dg B3)) 56), (b0, .cells (ca 16 (dg A3)) 56), (g6, .cells (ca 16 (dg u)) 56), (w.heap.size + 1 + 1, .cells zs 22), (w.heap.size + 1, .cells (cs8 us) 22), (w.heap.size, .cells (cs8 (scal ks)) 22)])
        clear hV124 HM121
        go_upto_region 13 with fail
        refine wp_region_list ?_
        refine wpList_load_blk (b := g113) rfl rfl rfl ((HM125.out).get 1 rfl) Try.underlying56 rfl (by kernel_rfl) (ca_size _ _) ?_
        simp only [Act.put, List.setIfInBounds_toArray, List.set_cons_succ, List.set_cons_zero]
        refine wpList_load_blk (b := g113) rfl rfl rfl ((HM125.out).get 1 rfl) Try.underlying56 rfl (by kernel_rfl) (ca_size _ _) ?_
        simp only [Act.put, List.setIfInBounds_toArray, List.set_cons_succ, List.set_cons_zero]
        refine wpList_call rfl (by simp [Act.eval, go_sem]) (rmul_e sa sa aa l_sa l_sa e_aa _) fun u126 hb => ?_
        have HM127 : Hid (Mem w.heap.size w u126 [(g122, .cells (ca 16 (dg sb)) 56), (g113, .cells (ca 16 (dg sa)) 56), (b3, .cells (ca 16 (dg B2)) 56), (b2, .cells (ca 16 (dg A2)) 56), (b1, .cells (ca 16 (dg B3)) 56), (b0, .cells (ca 16 (dg A3)) 56), (g6, .cells (ca 16 (dg u)) 56), (w.heap.size + 1 + 1, .cells zs 22), (w.heap.size + 1, .cells (cs8 us) 22), (w.heap.size, .cells (cs8 (scal ks)) 22)]) := (HM125.out).keep hb
        clear hb HM125
        simp only [Act.put, List.setIfInBounds_toArray, List.set_cons_succ, List.set_cons_zero]
        refine wpList_alloc (o := .cells #[.int .u64 0, .int .u64 0, .int .u64 0, .int .u64 0, .int .u64 0, .int .u64 0, .int .u64 0, .int .u64 0, .int .u64 0, .int .u64 0, .int .u64 0, .int .u64 0, .int .u64 0, .int .u64 0, .int .u64 0, .int .u64 0] 56) (v := .pointer (some ⟨u126.heap.size, 0, none⟩)) rfl (by simp [execOp, go_sem]) ?_
        simp only [Act.put, List.setIfInBounds_toArray, List.set_cons_succ, List.set_cons_zero]
        have HM130 : Hid (Mem w.heap.size w _ [(u126.heap.size, .cells #[.int .u64 0, .int .u64 0, .int .u64 0, .int .u64 0, .int .u64 0, .int .u64 0, .int .u64 0, .int .u64 0, .int .u64 0, .int .u64 0, .int .u64 0, .int .u64 0, .int .u64 0, .int .u64 0, .int .u64 0, .int .u64 0] 56), (g122, .cells (ca 16 (dg sb)) 56), (g113, .cells (ca 16 (dg sa)) 56), (b3, .cells (ca 16 (dg B2)) 56), (b2, .cells (ca 16 (dg A2)) 56), (b1, .cells (ca 16 (dg B3)) 56), (b0, .cells (ca 16 (dg A3)) 56), (g6, .cells (ca 16 (dg u)) 56), (w.heap.size + 1 + 1, .cells zs 22), (w.heap.size + 1, .cells (cs8 us) 22), (w.heap.size, .cells (cs8 (scal ks)) 22)]) := (HM127.out).alloc (.cells #[.int .u64 0, .int .u64 0, .int .u64 0, .int .u64 0, .int .u64 0, .int .u64 0, .int .u64 0, .int .u64 0, .int .u64 0, .int .u64 0, .int .u64 0, .int .u64 0, .int .u64 0, .int .u64 0, .int .u64 0, .int .u64 0] 56)
        clear HM127
        generalize u126.alloc (.cells #[.int .u64 0, .int .u64 0, .int .u64 0, .int .u64 0, .int .u64 0, .int .u64 0, .int .u64 0, .int .u64 0, .int .u64 0, .int .u64 0, .int .u64 0, .int .u64 0, .int .u64 0, .int .u64 0, .int .u64 0, .int .u64 0] 56) = V128 at *
        generalize u126.heap.size = g131 at *
        refine wpList_store_blk (b := g131) rfl rfl rfl rfl ((HM130.out).get 0 rfl) (by kernel_rfl) (rfl) (ca_size _ _) (ca_one _ _) ?_
        simp only [Act.put]
        generalize hV133 : World.setCells V128 (g131) 0 _ = V132
        have HM134 : Hid (Mem w.heap.size w V132 [(g131, .cells (ca 16 (dg aa)) 56), (g122, .cells (ca 16 (dg sb)) 56), (g113, .cells (ca 16 (dg sa)) 56), (b3, .cells (ca 16 (dg B2)) 56), (b2, .cells (ca 16 (dg A2)) 56), (b1, .cells (ca 16 (dg B3)) 56), (b0, .cells (ca 16 (dg A3)) 56), (g6, .cells (ca 16 (dg u)) 56), (w.heap.size + 1 + 1, .cells zs 22), (w.heap.size + 1, .cells (cs8 us) 22), (w.heap.size, .cells (cs8 (scal ks)) 22)]) := (by rw [← hV133]; exact (HM130.out).store 0 (ca 16 (dg aa)) rfl (by simp [ca_size]) : Mem w.heap.size w V132 [(g131, .cells (ca 16 (dg aa)) 56), (g122, .cells (ca 16 (dg sb)) 56), (g113, .cells (ca 16 (dg sa)) 56), (b3, .cells (ca 16 (dg B2)) 56), (b2, .cells (ca 16 (dg A2)) 56), (b1, .cells (ca 16 (dg B3)) 56), (b0, .cells (ca 16 (dg A3)) 56), (g6, .cells (ca 16 (dg u)) 56), (w.heap.size + 1 + 1, .cells zs 22), (w.heap.size + 1, .cells (cs8 us) 22), (w.heap.size, .cells (cs8 (scal ks)) 22)])
        clear hV133 HM130
        go_upto_region 14 with fail
        refine wp_region_list ?_
        refine wpList_load_blk (b := g122) rfl rfl rfl ((HM134.out).get 1 rfl) Try.underlying56 rfl (by kernel_rfl) (ca_size _ _) ?_
        simp only [Act.put, List.setIfInBounds_toArray, List.set_cons_succ, List.set_cons_zero]
        refine wpList_load_blk (b := g122) rfl rfl rfl ((HM134.out).get 1 rfl) Try.underlying56 rfl (by kernel_rfl) (ca_size _ _) ?_
        simp only [Act.put, List.setIfInBounds_toArray, List.set_cons_succ, List.set_cons_zero]
        refine wpList_call rfl (by simp [Act.eval, go_sem]) (rmul_e sb sb bb l_sb l_sb e_bb _) fun u135 hb => ?_
        have HM136 : Hid (Mem w.heap.size w u135 [(g131, .cells (ca 16 (dg aa)) 56), (g122, .cells (ca 16 (dg sb)) 56), (g113, .cells (ca 16 (dg sa)) 56), (b3, .cells (ca 16 (dg B2)) 56), (b2, .cells (ca 16 (dg A2)) 56), (b1, .cells (ca 16 (dg B3)) 56), (b0, .cells (ca 16 (dg A3)) 56), (g6, .cells (ca 16 (dg u)) 56), (w.heap.size + 1 + 1, .cells zs 22), (w.heap.size + 1, .cells (cs8 us) 22), (w.heap.size, .cells (cs8 (scal ks)) 22)]) := (HM134.out).keep hb
        clear hb HM134
        simp only [Act.put, List.setIfInBounds_toArray, List.set_cons_succ, List.set_cons_zero]
        refine wpList_alloc (o := .cells #[.int .u64 0, .int .u64 0, .int .u64 0, .int .u64 0, .int .u64 0, .int .u64 0, .int .u64 0, .int .u64 0, .int .u64 0, .int .u64 0, .int .u64 0, .int .u64 0, .int .u64 0, .int .u64 0, .int .u64 0, .int .u64 0] 56) (v := .pointer (some ⟨u135.heap.size, 0, none⟩)) rfl (by simp [execOp, go_sem]) ?_
        simp only [Act.put, List.setIfInBounds_toArray, List.set_cons_succ, List.set_cons_zero]
        have HM139 : Hid (Mem w.heap.size w _ [(u135.heap.size, .cells #[.int .u64 0, .int .u64 0, .int .u64 0, .int .u64 0, .int .u64 0, .int .u64 0, .int .u64 0, .int .u64 0, .int .u64 0, .int .u64 0, .int .u64 0, .int .u64 0, .int .u64 0, .int .u64 0, .int .u64 0, .int .u64 0] 56), (g131, .cells (ca 16 (dg aa)) 56), (g122, .cells (ca 16 (dg sb)) 56), (g113, .cells (ca 16 (dg sa)) 56), (b3, .cells (ca 16 (dg B2)) 56), (b2, .cells (ca 16 (dg A2)) 56), (b1, .cells (ca 16 (dg B3)) 56), (b0, .cells (ca 16 (dg A3)) 56), (g6, .cells (ca 16 (dg u)) 56), (w.heap.size + 1 + 1, .cells zs 22), (w.heap.size + 1, .cells (cs8 us) 22), (w.heap.size, .cells (cs8 (scal ks)) 22)]) := (HM136.out).alloc (.cells #[.int .u64 0, .int .u64 0, .int .u64 0, .int .u64 0, .int .u64 0, .int .u64 0, .int .u64 0, .int .u64 0, .int .u64 0, .int .u64 0, .int .u64 0, .int .u64 0, .int .u64 0, .int .u64 0, .int .u64 0, .int .u64 0] 56)
        clear HM136
        generalize u135.alloc (.cells #[.int .u64 0, .int .u64 0, .int .u64 0, .int .u64 0, .int .u64 0, .int .u64 0, .int .u64 0, .int .u64 0, .int .u64 0, .int .u64 0, .int .u64 0, .int .u64 0, .int .u64 0, .int .u64 0, .int .u64 0, .int .u64 0] 56) = V137 at *
        generalize u135.heap.size = g140 at *
        refine wpList_store_blk (b := g140) rfl rfl rfl rfl ((HM139.out).get 0 rfl) (by kernel_rfl) (rfl) (ca_size _ _) (ca_one _ _) ?_
        simp only [Act.put]
        generalize hV142 : World.setCells V137 (g140) 0 _ = V141
        have HM143 : Hid (Mem w.heap.size w V141 [(g140, .cells (ca 16 (dg bb)) 56), (g131, .cells (ca 16 (dg aa)) 56), (g122, .cells (ca 16 (dg sb)) 56), (g113, .cells (ca 16 (dg sa)) 56), (b3, .cells (ca 16 (dg B2)) 56), (b2, .cells (ca 16 (dg A2)) 56), (b1, .cells (ca 16 (dg B3)) 56), (b0, .cells (ca 16 (dg A3)) 56), (g6, .cells (ca 16 (dg u)) 56), (w.heap.size + 1 + 1, .cells zs 22), (w.heap.size + 1, .cells (cs8 us) 22), (w.heap.size, .cells (cs8 (scal ks)) 22)]) := (by rw [← hV142]; exact (HM139.out).store 0 (ca 16 (dg bb)) rfl (by simp [ca_size]) : Mem w.heap.size w V141 [(g140, .cells (ca 16 (dg bb)) 56), (g131, .cells (ca 16 (dg aa)) 56), (g122, .cells (ca 16 (dg sb)) 56), (g113, .cells (ca 16 (dg sa)) 56), (b3, .cells (ca 16 (dg B2)) 56), (b2, .cells (ca 16 (dg A2)) 56), (b1, .cells (ca 16 (dg B3)) 56), (b0, .cells (ca 16 (dg A3)) 56), (g6, .cells (ca 16 (dg u)) 56), (w.heap.size + 1 + 1, .cells zs 22), (w.heap.size + 1, .cells (cs8 us) 22), (w.heap.size, .cells (cs8 (scal ks)) 22)])
        clear hV142 HM139
        go_upto_region 15 with fail
        refine wp_region_list ?_
        refine wpList_load_blk (b := g131) rfl rfl rfl ((HM143.out).get 1 rfl) Try.underlying56 rfl (by kernel_rfl) (ca_size _ _) ?_
        simp only [Act.put, List.setIfInBounds_toArray, List.set_cons_succ, List.set_cons_zero]
        refine wpList_load_blk (b := g140) rfl rfl rfl ((HM143.out).get 0 rfl) Try.underlying56 rfl (by kernel_rfl) (ca_size _ _) ?_
        simp only [Act.put, List.setIfInBounds_toArray, List.set_cons_succ, List.set_cons_zero]
        refine wpList_call rfl (by simp [Act.eval, go_sem]) (rsub_e aa bb ee l_aa l_bb e_ee _) fun u144 hb => ?_
        have HM145 : Hid (Mem w.heap.size w u144 [(g140, .cells (ca 16 (dg bb)) 56), (g131, .cells (ca 16 (dg aa)) 56), (g122, .cells (ca 16 (dg sb)) 56), (g113, .cells (ca 16 (dg sa)) 56), (b3, .cells (ca 16 (dg B2)) 56), (b2, .cells (ca 16 (dg A2)) 56), (b1, .cells (ca 16 (dg B3)) 56), (b0, .cells (ca 16 (dg A3)) 56), (g6, .cells (ca 16 (dg u)) 56), (w.heap.size + 1 + 1, .cells zs 22), (w.heap.size + 1, .cells (cs8 us) 22), (w.heap.size, .cells (cs8 (scal ks)) 22)]) := (HM143.out).keep hb
        clear hb HM143
        simp only [Act.put, List.setIfInBounds_toArray, List.set_cons_succ, List.set_cons_zero]
        refine wpList_alloc (o := .cells #[.int .u64 0, .int .u64 0, .int .u64 0, .int .u64 0, .int .u64 0, .int .u64 0, .int .u64 0, .int .u64 0, .int .u64 0, .int .u64 0, .int .u64 0, .int .u64 0, .int .u64 0, .int .u64 0, .int .u64 0, .int .u64 0] 56) (v := .pointer (some ⟨u144.heap.size, 0, none⟩)) rfl (by simp [execOp, go_sem]) ?_
        simp only [Act.put, List.setIfInBounds_toArray, List.set_cons_succ, List.set_cons_zero]
        have HM148 : Hid (Mem w.heap.size w _ [(u144.heap.size, .cells #[.int .u64 0, .int .u64 0, .int .u64 0, .int .u64 0, .int .u64 0, .int .u64 0, .int .u64 0, .int .u64 0, .int .u64 0, .int .u64 0, .int .u64 0, .int .u64 0, .int .u64 0, .int .u64 0, .int .u64 0, .int .u64 0] 56), (g140, .cells (ca 16 (dg bb)) 56), (g131, .cells (ca 16 (dg aa)) 56), (g122, .cells (ca 16 (dg sb)) 56), (g113, .cells (ca 16 (dg sa)) 56), (b3, .cells (ca 16 (dg B2)) 56), (b2, .cells (ca 16 (dg A2)) 56), (b1, .cells (ca 16 (dg B3)) 56), (b0, .cells (ca 16 (dg A3)) 56), (g6, .cells (ca 16 (dg u)) 56), (w.heap.size + 1 + 1, .cells zs 22), (w.heap.size + 1, .cells (cs8 us) 22), (w.heap.size, .cells (cs8 (scal ks)) 22)]) := (HM145.out).alloc (.cells #[.int .u64 0, .int .u64 0, .int .u64 0, .int .u64 0, .int .u64 0, .int .u64 0, .int .u64 0, .int .u64 0, .int .u64 0, .int .u64 0, .int .u64 0, .int .u64 0, .int .u64 0, .int .u64 0, .int .u64 0, .int .u64 0] 56)
        clear HM145
        generalize u144.alloc (.cells #[.int .u64 0, .int .u64 0, .int .u64 0, .int .u64 0, .int .u64 0, .int .u64 0, .int .u64 0, .int .u64 0, .int .u64 0, .int .u64 0, .int .u64 0, .int .u64 0, .int .u64 0, .int .u64 0, .int .u64 0, .int .u64 0] 56) = V146 at *
        generalize u144.heap.size = g149 at *
        refine wpList_store_blk (b := g149) rfl rfl rfl rfl ((HM148.out).get 0 rfl) (by kernel_rfl) (rfl) (ca_size _ _) (ca_one _ _) ?_
        simp only [Act.put]
        generalize hV151 : World.setCells V146 (g149) 0 _ = V150
        have HM152 : Hid (Mem w.heap.size w V150 [(g149, .cells (ca 16 (dg ee)) 56), (g140, .cells (ca 16 (dg bb)) 56), (g131, .cells (ca 16 (dg aa)) 56), (g122, .cells (ca 16 (dg sb)) 56), (g113, .cells (ca 16 (dg sa)) 56), (b3, .cells (ca 16 (dg B2)) 56), (b2, .cells (ca 16 (dg A2)) 56), (b1, .cells (ca 16 (dg B3)) 56), (b0, .cells (ca 16 (dg A3)) 56), (g6, .cells (ca 16 (dg u)) 56), (w.heap.size + 1 + 1, .cells zs 22), (w.heap.size + 1, .cells (cs8 us) 22), (w.heap.size, .cells (cs8 (scal ks)) 22)]) := (by rw [← hV151]; exact (HM148.out).store 0 (ca 16 (dg ee)) rfl (by simp [ca_size]) : Mem w.heap.size w V150 [(g149, .cells (ca 16 (dg ee)) 56), (g140, .cells (ca 16 (dg bb)) 56), (g131, .cells (ca 16 (dg aa)) 56), (g122, .cells (ca 16 (dg sb)) 56), (g113, .cells (ca 16 (dg sa)) 56), (b3, .cells (ca 16 (dg B2)) 56), (b2, .cells (ca 16 (dg A2)) 56), (b1, .cells (ca 16 (dg B3)) 56), (b0, .cells (ca 16 (dg A3)) 56), (g6, .cells (ca 16 (dg u)) 56), (w.heap.size + 1 + 1, .cells zs 22), (w.heap.size + 1, .cells (cs8 us) 22), (w.heap.size, .cells (cs8 (scal ks)) 22)])
        clear hV151 HM148
        go_wp2_with fail
        refine region_list V150.heap.size (C := fun w' => Below V150.heap.size V150 w') [.inl (.agg (ca 16 (dg A2))), .inl (.agg (ca 16 (dg B2))), .inl (.agg (ca 16 (dg dd))), .inl (.agg (ca 16 (dg sa))), .inl (.agg (ca 16 (dg da))), .inr (.cells #[.int .u64 0, .int .u64 0, .int .u64 0, .int .u64 0, .int .u64 0, .int .u64 0, .int .u64 0, .int .u64 0, .int .u64 0, .int .u64 0, .int .u64 0, .int .u64 0, .int .u64 0, .int .u64 0, .int .u64 0, .int .u64 0] 56, fun b => .pointer (some ⟨b, 0, none⟩))] [5] (by kernel_rfl) (by kernel_rfl) ⟨rfl, rfl, rfl, Nat.le_refl _, fun _ _ => rfl⟩
          (fun w1 w2 h1 h2 => h1.trans (h2.mono h1.size)) (fun i h => by
            obtain rfl : i = 5 := by simpa using h
            exact ⟨_, rfl⟩) ?_ ?_
        · refine ⟨?_, ?_, ?_, ?_, ?_, ?_, trivial⟩
          · intro s v hC hk hd
            have h : s.tmps[8]? = some (.pointer (some ⟨b2, 0, none⟩)) := hk 8 (by kernel_rfl)
            exact ok_load rfl rfl h (((HM152.out).keep hC).get 6 rfl) Try.underlying56 rfl (by kernel_rfl) (ca_size _ _)
          · intro s v hC hk hd
            have h : s.tmps[9]? = some (.pointer (some ⟨b3, 0, none⟩)) := hk 9 (by kernel_rfl)
            exact ok_load rfl rfl h (((HM152.out).keep hC).get 5 rfl) Try.underlying56 rfl (by kernel_rfl) (ca_size _ _)
          · intro s v hC hk hd
            have h0 : s.tmps[69]? = some (.agg (ca 16 (dg A2))) := hd 0 (by kernel_rfl)
            have h1 : s.tmps[70]? = some (.agg (ca 16 (dg B2))) := hd 1 (by kernel_rfl)
            exact ok_call rfl (by simp [Act.eval, h0, h1, go_sem]) (rsub_e A2 B2 dd l_A2 l_B2 e_dd v)
          · intro s v hC hk hd
            have h : s.tmps[12]? = some (.pointer (some ⟨g113, 0, none⟩)) := hk 12 (by kernel_rfl)
            exact ok_load rfl rfl h (((HM152.out).keep hC).get 4 rfl) Try.underlying56 rfl (by kernel_rfl) (ca_size _ _)
          · intro s v hC hk hd
            have h0 : s.tmps[71]? = some (.agg (ca 16 (dg dd))) := hd 2 (by kernel_rfl)
            have h1 : s.tmps[72]? = some (.agg (ca 16 (dg sa))) := hd 3 (by kernel_rfl)
            exact ok_call rfl (by simp [Act.eval, h0, h1, go_sem]) (rmul_e dd sa da l_dd l_sa e_da v)
          · intro s v hC hk hd
            exact ok_alloc hC.size rfl (by simp [execOp, go_sem])
        · intro nb wA153 hC hf hne
          have M154 := (HM152.out).keep hC
          obtain ⟨⟨l5, f5⟩, _⟩ := hf
          simp only [Nat.zero_add, Nat.reduceAdd] at l5 f5
          have M155 := (M154).also ((HM152.out).ne_new l5) (Nat.le_trans (HM152.out).size l5) f5
          clear hne hC l5 f5
          simp [valsOf, valOf, putAll, Act.put]
          generalize nb 5 = g156 at *
          have HM : Hid (Mem w.heap.size w wA153 [(g156, .cells #[.int .u64 0, .int .u64 0, .int .u64 0, .int .u64 0, .int .u64 0, .int .u64 0, .int .u64 0, .int .u64 0, .int .u64 0, .int .u64 0, .int .u64 0, .int .u64 0, .int .u64 0, .int .u64 0, .int .u64 0, .int .u64 0] 56), (g149, .cells (ca 16 (dg ee)) 56), (g140, .cells (ca 16 (dg bb)) 56), (g131, .cells (ca 16 (dg aa)) 56), (g122, .cells (ca 16 (dg sb)) 56), (g113, .cells (ca 16 (dg sa)) 56), (b3, .cells (ca 16 (dg B2)) 56), (b2, .cells (ca 16 (dg A2)) 56), (b1, .cells (ca 16 (dg B3)) 56), (b0, .cells (ca 16 (dg A3)) 56), (g6, .cells (ca 16 (dg u)) 56), (w.heap.size + 1 + 1, .cells zs 22), (w.heap.size + 1, .cells (cs8 us) 22), (w.heap.size, .cells (cs8 (scal ks)) 22)]) := M155
          refine wpList_store_blk (b := g156) rfl rfl rfl rfl ((HM.out).get 0 rfl) (by kernel_rfl) (rfl) (ca_size _ _) (ca_one _ _) ?_
          simp only [Act.put]
          generalize hV158 : World.setCells wA153 (g156) 0 _ = V157
          have HM159 : Hid (Mem w.heap.size w V157 [(g156, .cells (ca 16 (dg da)) 56), (g149, .cells (ca 16 (dg ee)) 56), (g140, .cells (ca 16 (dg bb)) 56), (g131, .cells (ca 16 (dg aa)) 56), (g122, .cells (ca 16 (dg sb)) 56), (g113, .cells (ca 16 (dg sa)) 56), (b3, .cells (ca 16 (dg B2)) 56), (b2, .cells (ca 16 (dg A2)) 56), (b1, .cells (ca 16 (dg B3)) 56), (b0, .cells (ca 16 (dg A3)) 56), (g6, .cells (ca 16 (dg u)) 56), (w.heap.size + 1 + 1, .cells zs 22), (w.heap.size + 1, .cells (cs8 us) 22), (w.heap.size, .cells (cs8 (scal ks)) 22)]) := (by rw [← hV158]; exact (HM.out).store 0 (ca 16 (dg da)) rfl (by simp [ca_size]) : Mem w.heap.size w V157 [(g156, .cells (ca 16 (dg da)) 56), (g149, .cells (ca 16 (dg ee)) 56), (g140, .cells (ca 16 (dg bb)) 56), (g131, .cells (ca 16 (dg aa)) 56), (g122, .cells (ca 16 (dg sb)) 56), (g113, .cells (ca 16 (dg sa)) 56), (b3, .cells (ca 16 (dg B2)) 56), (b2, .cells (ca 16 (dg A2)) 56), (b1, .cells (ca 16 (dg B3)) 56), (b0, .cells (ca 16 (dg A3)) 56), (g6, .cells (ca 16 (dg u)) 56), (w.heap.size + 1 + 1, .cells zs 22), (w.heap.size + 1, .cells (cs8 us) 22), (w.heap.size, .cells (cs8 (scal ks)) 22)])
          clear hV158 HM
          go_wp2_with fail
          refine region_list V157.heap.size (C := fun w' => Below V157.heap.size V157 w') [.inl (.agg (ca 16 (dg A2))), .inl (.agg (ca 16 (dg B2))), .inl (.agg (ca 16 (dg cc))), .inl (.agg (ca 16 (dg sb))), .inl (.agg (ca 16 (dg cb))), .inr (.cells #[.int .u64 0, .int .u64 0, .int .u64 0, .int .u64 0, .int .u64 0, .int .u64 0, .int .u64 0, .int .u64 0, .int .u64 0, .int .u64 0, .int .u64 0, .int .u64 0, .int .u64 0, .int .u64 0, .int .u64 0, .int .u64 0] 56, fun b => .pointer (some ⟨b, 0, none⟩))] [5] (by kernel_rfl) (by kernel_rfl) ⟨rfl, rfl, rfl, Nat.le_refl _, fun _ _ => rfl⟩
            (fun w1 w2 h1 h2 => h1.trans (h2.mono h1.size)) (fun i h => by
              obtain rfl : i = 5 := by simpa using h
              exact ⟨_, rfl⟩) ?_ ?_
          · refine ⟨?_, ?_, ?_, ?_, ?_, ?_, trivial⟩
            · intro s v hC hk hd
              have h : s.tmps[8]? = some (.pointer (some ⟨b2, 0, none⟩)) := hk 8 (by kernel_rfl)
              exact ok_load rfl rfl h (((HM159.out).keep hC).get 7 rfl) Try.underlying56 rfl (by kernel_rfl) (ca_size _ _)
            · intro s v hC hk hd
              have h : s.tmps[9]? = some (.pointer (some ⟨b3, 0, none⟩)) := hk 9 (by kernel_rfl)
              exact ok_load rfl rfl h (((HM159.out).keep hC).get 6 rfl) Try.underlying56 rfl (by kernel_rfl) (ca_size _ _)
            · intro s v hC hk hd
              have h0 : s.tmps[74]? = some (.agg (ca 16 (dg A2))) := hd 0 (by kernel_rfl)
              have h1 : s.tmps[75]? = some (.agg (ca 16 (dg B2))) := hd 1 (by kernel_rfl)
              exact ok_call rfl (by simp [Act.eval, h0, h1, go_sem]) (radd_e A2 B2 cc l_A2 l_B2 e_cc v)
            · intro s v hC hk hd
              have h : s.tmps[13]? = some (.pointer (some ⟨g122, 0, none⟩)) := hk 13 (by kernel_rfl)
              exact ok_load rfl rfl h (((HM159.out).keep hC).get 4 rfl) Try.underlying56 rfl (by kernel_rfl) (ca_size _ _)
            · intro s v hC hk hd
              have h0 : s.tmps[76]? = some (.agg (ca 16 (dg cc))) := hd 2 (by kernel_rfl)
              have h1 : s.tmps[77]? = some (.agg (ca 16 (dg sb))) := hd 3 (by kernel_rfl)
              exact ok_call rfl (by simp [Act.eval, h0, h1, go_sem]) (rmul_e cc sb cb l_cc l_sb e_cb v)
            · intro s v hC hk hd
              exact ok_alloc hC.size rfl (by simp [execOp, go_sem])
          · intro nb wA160 hC hf hne
            have M161 := (HM159.out).keep hC
            obtain ⟨⟨l5, f5⟩, _⟩ := hf
            simp only [Nat.zero_add, Nat.reduceAdd] at l5 f5
            have M162 := (M161).also ((HM159.out).ne_new l5) (Nat.le_trans (HM159.out).size l5) f5
            clear hne hC l5 f5
            simp [valsOf, valOf, putAll, Act.put]
            generalize nb 5 = g163 at *
            have HM : Hid (Mem w.heap.size w wA160 [(g163, .cells #[.int .u64 0, .int .u64 0, .int .u64 0, .int .u64 0, .int .u64 0, .int .u64 0, .int .u64 0, .int .u64 0, .int .u64 0, .int .u64 0, .int .u64 0, .int .u64 0, .int .u64 0, .int .u64 0, .int .u64 0, .int .u64 0] 56), (g156, .cells (ca 16 (dg da)) 56), (g149, .cells (ca 16 (dg ee)) 56), (g140, .cells (ca 16 (dg bb)) 56), (g131, .cells (ca 16 (dg aa)) 56), (g122, .cells (ca 16 (dg sb)) 56), (g113, .cells (ca 16 (dg sa)) 56), (b3, .cells (ca 16 (dg B2)) 56), (b2, .cells (ca 16 (dg A2)) 56), (b1, .cells (ca 16 (dg B3)) 56), (b0, .cells (ca 16 (dg A3)) 56), (g6, .cells (ca 16 (dg u)) 56), (w.heap.size + 1 + 1, .cells zs 22), (w.heap.size + 1, .cells (cs8 us) 22), (w.heap.size, .cells (cs8 (scal ks)) 22)]) := M162
            refine wpList_store_blk (b := g163) rfl rfl rfl rfl ((HM.out).get 0 rfl) (by kernel_rfl) (rfl) (ca_size _ _) (ca_one _ _) ?_
            simp only [Act.put]
            generalize hV165 : World.setCells wA160 (g163) 0 _ = V164
            have HM166 : Hid (Mem w.heap.size w V164 [(g163, .cells (ca 16 (dg cb)) 56), (g156, .cells (ca 16 (dg da)) 56), (g149, .cells (ca 16 (dg ee)) 56), (g140, .cells (ca 16 (dg bb)) 56), (g131, .cells (ca 16 (dg aa)) 56), (g122, .cells (ca 16 (dg sb)) 56), (g113, .cells (ca 16 (dg sa)) 56), (b3, .cells (ca 16 (dg B2)) 56), (b2, .cells (ca 16 (dg A2)) 56), (b1, .cells (ca 16 (dg B3)) 56), (b0, .cells (ca 16 (dg A3)) 56), (g6, .cells (ca 16 (dg u)) 56), (w.heap.size + 1 + 1, .cells zs 22), (w.heap.size + 1, .cells (cs8 us) 22), (w.heap.size, .cells (cs8 (scal ks)) 22)]) := (by rw [← hV165]; exact (HM.out).store 0 (ca 16 (dg cb)) rfl (by simp [ca_size]) : Mem w.heap.size w V164 [(g163, .cells (ca 16 (dg cb)) 56), (g156, .cells (ca 16 (dg da)) 56), (g149, .cells (ca 16 (dg ee)) 56), (g140, .cells (ca 16 (dg bb)) 56), (g131, .cells (ca 16 (dg aa)) 56), (g122, .cells (ca 16 (dg sb)) 56), (g113, .cells (ca 16 (dg sa)) 56), (b3, .cells (ca 16 (dg B2)) 56), (b2, .cells (ca 16 (dg A2)) 56), (b1, .cells (ca 16 (dg B3)) 56), (b0, .cells (ca 16 (dg A3)) 56), (g6, .cells (ca 16 (dg u)) 56), (w.heap.size + 1 + 1, .cells zs 22), (w.heap.size + 1, .cells (cs8 us) 22), (w.heap.size, .cells (cs8 (scal ks)) 22)])
            clear hV165 HM
            go_upto_region 18 with fail
            refine wp_region_list ?_
            refine wpList_load_blk (b := g156) rfl rfl rfl ((HM166.out).get 1 rfl) Try.underlying56 rfl (by kernel_rfl) (ca_size _ _) ?_
            simp only [Act.put, List.setIfInBounds_toArray, List.set_cons_succ, List.set_cons_zero]
            refine wpList_load_blk (b := g163) rfl rfl rfl ((HM166.out).get 0 rfl) Try.underlying56 rfl (by kernel_rfl) (ca_size _ _) ?_
            simp only [Act.put, List.setIfInBounds_toArray, List.set_cons_succ, List.set_cons_zero]
            refine wpList_call rfl (by simp [Act.eval, go_sem]) (radd_e da cb su l_da l_cb e_su _) fun u167 hb => ?_
            have HM168 : Hid (Mem w.heap.size w u167 [(g163, .cells (ca 16 (dg cb)) 56), (g156, .cells (ca 16 (dg da)) 56), (g149, .cells (ca 16 (dg ee)) 56), (g140, .cells (ca 16 (dg bb)) 56), (g131, .cells (ca 16 (dg aa)) 56), (g122, .cells (ca 16 (dg sb)) 56), (g113, .cells (ca 16 (dg sa)) 56), (b3, .cells (ca 16 (dg B2)) 56), (b2, .cells (ca 16 (dg A2)) 56), (b1, .cells (ca 16 (dg B3)) 56), (b0, .cells (ca 16 (dg A3)) 56), (g6, .cells (ca 16 (dg u)) 56), (w.heap.size + 1 + 1, .cells zs 22), (w.heap.size + 1, .cells (cs8 us) 22), (w.heap.size, .cells (cs8 (scal ks)) 22)]) := (HM166.out).keep hb
            clear hb HM166
            simp only [Act.put, List.setIfInBounds_toArray, List.set_cons_succ, List.set_cons_zero]
            refine wpList_alloc (o := .cells #[.int .u64 0, .int .u64 0, .int .u64 0, .int .u64 0, .int .u64 0, .int .u64 0, .int .u64 0, .int .u64 0, .int .u64 0, .int .u64 0, .int .u64 0, .int .u64 0, .int .u64 0, .int .u64 0, .int .u64 0, .int .u64 0] 56) (v := .pointer (some ⟨u167.heap.size, 0, none⟩)) rfl (by simp [execOp, go_sem]) ?_
            simp only [Act.put, List.setIfInBounds_toArray, List.set_cons_succ, List.set_cons_zero]
            have HM171 : Hid (Mem w.heap.size w _ [(u167.heap.size, .cells #[.int .u64 0, .int .u64 0, .int .u64 0, .int .u64 0, .int .u64 0, .int .u64 0, .int .u64 0, .int .u64 0, .int .u64 0, .int .u64 0, .int .u64 0, .int .u64 0, .int .u64 0, .int .u64 0, .int .u64 0, .int .u64 0] 56), (g163, .cells (ca 16 (dg cb)) 56), (g156, .cells (ca 16 (dg da)) 56), (g149, .cells (ca 16 (dg ee)) 56), (g140, .cells (ca 16 (dg bb)) 56), (g131, .cells (ca 16 (dg aa)) 56), (g122, .cells (ca 16 (dg sb)) 56), (g113, .cells (ca 16 (dg sa)) 56), (b3, .cells (ca 16 (dg B2)) 56), (b2, .cells (ca 16 (dg A2)) 56), (b1, .cells (ca 16 (dg B3)) 56), (b0, .cells (ca 16 (dg A3)) 56), (g6, .cells (ca 16 (dg u)) 56), (w.heap.size + 1 + 1, .cells zs 22), (w.heap.size + 1, .cells (cs8 us) 22), (w.heap.size, .cells (cs8 (scal ks)) 22)]) := (HM168.out).alloc (.cells #[.int .u64 0, .int .u64 0, .int .u64 0, .int .u64 0, .int .u64 0, .int .u64 0, .int .u64 0, .int .u64 0, .int .u64 0, .int .u64 0, .int .u64 0, .int .u64 0, .int .u64 0, .int .u64 0, .int .u64 0, .int .u64 0] 56)
            clear HM168
            generalize u167.alloc (.cells #[.int .u64 0, .int .u64 0, .int .u64 0, .int .u64 0, .int .u64 0, .int .u64 0, .int .u64 0, .int .u64 0, .int .u64 0, .int .u64 0, .int .u64 0, .int .u64 0, .int .u64 0, .int .u64 0, .int .u64 0, .int .u64 0] 56) = V169 at *
            generalize u167.heap.size = g172 at *
            refine wpList_store_blk (b := g172) rfl rfl rfl rfl ((HM171.out).get 0 rfl) (by kernel_rfl) (rfl) (ca_size _ _) (ca_one _ _) ?_
            simp only [Act.put]
            generalize hV174 : World.setCells V169 (g172) 0 _ = V173
            have HM175 : Hid (Mem w.heap.size w V173 [(g172, .cells (ca 16 (dg su)) 56), (g163, .cells (ca 16 (dg cb)) 56), (g156, .cells (ca 16 (dg da)) 56), (g149, .cells (ca 16 (dg ee)) 56), (g140, .cells (ca 16 (dg bb)) 56), (g131, .cells (ca 16 (dg aa)) 56), (g122, .cells (ca 16 (dg sb)) 56), (g113, .cells (ca 16 (dg sa)) 56), (b3, .cells (ca 16 (dg B2)) 56), (b2, .cells (ca 16 (dg A2)) 56), (b1, .cells (ca 16 (dg B3)) 56), (b0, .cells (ca 16 (dg A3)) 56), (g6, .cells (ca 16 (dg u)) 56), (w.heap.size + 1 + 1, .cells zs 22), (w.heap.size + 1, .cells (cs8 us) 22), (w.heap.size, .cells (cs8 (scal ks)) 22)]) := (by rw [← hV174]; exact (HM171.out).store 0 (ca 16 (dg su)) rfl (by simp [ca_size]) : Mem w.heap.size w V173 [(g172, .cells (ca 16 (dg su)) 56), (g163, .cells (ca 16 (dg cb)) 56), (g156, .cells (ca 16 (dg da)) 56), (g149, .cells (ca 16 (dg ee)) 56), (g140, .cells (ca 16 (dg bb)) 56), (g131, .cells (ca 16 (dg aa)) 56), (g122, .cells (ca 16 (dg sb)) 56), (g113, .cells (ca 16 (dg sa)) 56), (b3, .cells (ca 16 (dg B2)) 56), (b2, .cells (ca 16 (dg A2)) 56), (b1, .cells (ca 16 (dg B3)) 56), (b0, .cells (ca 16 (dg A3)) 56), (g6, .cells (ca 16 (dg u)) 56), (w.heap.size + 1 + 1, .cells zs 22), (w.heap.size + 1, .cells (cs8 us) 22), (w.heap.size, .cells (cs8 (scal ks)) 22)])
            clear hV174 HM171
            go_upto_region 19 with fail
            refine wp_region_list ?_
            refine wpList_load_blk (b := g156) rfl rfl rfl ((HM175.out).get 2 rfl) Try.underlying56 rfl (by kernel_rfl) (ca_size _ _) ?_
            simp only [Act.put, List.setIfInBounds_toArray, List.set_cons_succ, List.set_cons_zero]
            refine wpList_load_blk (b := g163) rfl rfl rfl ((HM175.out).get 1 rfl) Try.underlying56 rfl (by kernel_rfl) (ca_size _ _) ?_
            simp only [Act.put, List.setIfInBounds_toArray, List.set_cons_succ, List.set_cons_zero]
            refine wpList_call rfl (by simp [Act.eval, go_sem]) (rsub_e da cb le l_da l_cb e_le _) fun u176 hb => ?_
            have HM177 : Hid (Mem w.heap.size w u176 [(g172, .cells (ca 16 (dg su)) 56), (g163, .cells (ca 16 (dg cb)) 56), (g156, .cells (ca 16 (dg da)) 56), (g149, .cells (ca 16 (dg ee)) 56), (g140, .cells (ca 16 (dg bb)) 56), (g131, .cells (ca 16 (dg aa)) 56), (g122, .cells (ca 16 (dg sb)) 56), (g113, .cells (ca 16 (dg sa)) 56), (b3, .cells (ca 16 (dg B2)) 56), (b2, .cells (ca 16 (dg A2)) 56), (b1, .cells (ca 16 (dg B3)) 56), (b0, .cells (ca 16 (dg A3)) 56), (g6, .cells (ca 16 (dg u)) 56), (w.heap.size + 1 + 1, .cells zs 22), (w.heap.size + 1, .cells (cs8 us) 22), (w.heap.size, .cells (cs8 (scal ks)) 22)]) := (HM175.out).keep hb
            clear hb HM175
            simp only [Act.put, List.setIfInBounds_toArray, List.set_cons_succ, List.set_cons_zero]
            refine wpList_alloc (o := .cells #[.int .u64 0, .int .u64 0, .int .u64 0, .int .u64 0, .int .u64 0, .int .u64 0, .int .u64 0, .int .u64 0, .int .u64 0, .int .u64 0, .int .u64 0, .int .u64 0, .int .u64 0, .int .u64 0, .int .u64 0, .int .u64 0] 56) (v := .pointer (some ⟨u176.heap.size, 0, none⟩)) rfl (by simp [execOp, go_sem]) ?_
            simp only [Act.put, List.setIfInBounds_toArray, List.set_cons_succ, List.set_cons_zero]
            have HM180 : Hid (Mem w.heap.size w _ [(u176.heap.size, .cells #[.int .u64 0, .int .u64 0, .int .u64 0, .int .u64 0, .int .u64 0, .int .u64 0, .int .u64 0, .int .u64 0, .int .u64 0, .int .u64 0, .int .u64 0, .int .u64 0, .int .u64 0, .int .u64 0, .int .u64 0, .int .u64 0] 56), (g172, .cells (ca 16 (dg su)) 56), (g163, .cells (ca 16 (dg cb)) 56), (g156, .cells (ca 16 (dg da)) 56), (g149, .cells (ca 16 (dg ee)) 56), (g140, .cells (ca 16 (dg bb)) 56), (g131, .cells (ca 16 (dg aa)) 56), (g122, .cells (ca 16 (dg sb)) 56), (g113, .cells (ca 16 (dg sa)) 56), (b3, .cells (ca 16 (dg B2)) 56), (b2, .cells (ca 16 (dg A2)) 56), (b1, .cells (ca 16 (dg B3)) 56), (b0, .cells (ca 16 (dg A3)) 56), (g6, .cells (ca 16 (dg u)) 56), (w.heap.size + 1 + 1, .cells zs 22), (w.heap.size + 1, .cells (cs8 us) 22), (w.heap.size, .cells (cs8 (scal ks)) 22)]) := (HM177.out).alloc (.cells #[.int .u64 0, .int .u64 0, .int .u64 0, .int .u64 0, .int .u64 0, .int .u64 0, .int .u64 0, .int .u64 0, .int .u64 0, .int .u64 0, .int .u64 0, .int .u64 0, .int .u64 0, .int .u64 0, .int .u64 0, .int .u64 0] 56)
            clear HM177
            generalize u176.alloc (.cells #[.int .u64 0, .int .u64 0, .int .u64 0, .int .u64 0, .int .u64 0, .int .u64 0, .int .u64 0, .int .u64 0, .int .u64 0, .int .u64 0, .int .u64 0, .int .u64 0, .int .u64 0, .int .u64 0, .int .u64 0, .int .u64 0] 56) = V178 at *
            generalize u176.heap.size = g181 at *
            refine wpList_store_blk (b := g181) rfl rfl rfl rfl ((HM180.out).get 0 rfl) (by kernel_rfl) (rfl) (ca_size _ _) (ca_one _ _) ?_
            simp only [Act.put]
            generalize hV183 : World.setCells V178 (g181) 0 _ = V182
            have HM184 : Hid (Mem w.heap.size w V182 [(g181, .cells (ca 16 (dg le)) 56), (g172, .cells (ca 16 (dg su)) 56), (g163, .cells (ca 16 (dg cb)) 56), (g156, .cells (ca 16 (dg da)) 56), (g149, .cells (ca 16 (dg ee)) 56), (g140, .cells (ca 16 (dg bb)) 56), (g131, .cells (ca 16 (dg aa)) 56), (g122, .cells (ca 16 (dg sb)) 56), (g113, .cells (ca 16 (dg sa)) 56), (b3, .cells (ca 16 (dg B2)) 56), (b2, .cells (ca 16 (dg A2)) 56), (b1, .cells (ca 16 (dg B3)) 56), (b0, .cells (ca 16 (dg A3)) 56), (g6, .cells (ca 16 (dg u)) 56), (w.heap.size + 1 + 1, .cells zs 22), (w.heap.size + 1, .cells (cs8 us) 22), (w.heap.size, .cells (cs8 (scal ks)) 22)]) := (by rw [← hV183]; exact (HM180.out).store 0 (ca 16 (dg le)) rfl (by simp [ca_size]) : Mem w.heap.size w V182 [(g181, .cells (ca 16 (dg le)) 56), (g172, .cells (ca 16 (dg su)) 56), (g163, .cells (ca 16 (dg cb)) 56), (g156, .cells (ca 16 (dg da)) 56), (g149, .cells (ca 16 (dg ee)) 56), (g140, .cells (ca 16 (dg bb)) 56), (g131, .cells (ca 16 (dg aa)) 56), (g122, .cells (ca 16 (dg sb)) 56), (g113, .cells (ca 16 (dg sa)) 56), (b3, .cells (ca 16 (dg B2)) 56), (b2, .cells (ca 16 (dg A2)) 56), (b1, .cells (ca 16 (dg B3)) 56), (b0, .cells (ca 16 (dg A3)) 56), (g6, .cells (ca 16 (dg u)) 56), (w.heap.size + 1 + 1, .cells zs 22), (w.heap.size + 1, .cells (cs8 us) 22), (w.heap.size, .cells (cs8 (scal ks)) 22)])
            clear hV183 HM180
            go_upto_region 20 with fail
            refine wp_region_list ?_
            refine wpList_load_blk (b := g172) rfl rfl rfl ((HM184.out).get 1 rfl) Try.underlying56 rfl (by kernel_rfl) (ca_size _ _) ?_
            simp only [Act.put, List.setIfInBounds_toArray, List.set_cons_succ, List.set_cons_zero]
            refine wpList_load_blk (b := g172) rfl rfl rfl ((HM184.out).get 1 rfl) Try.underlying56 rfl (by kernel_rfl) (ca_size _ _) ?_
            simp only [Act.put, List.setIfInBounds_toArray, List.set_cons_succ, List.set_cons_zero]
            refine wpList_call rfl (by simp [Act.eval, go_sem]) (rmul_e su su p3 l_su l_su e_p3 _) fun u185 hb => ?_
            have HM186 : Hid (Mem w.heap.size w u185 [(g181, .cells (ca 16 (dg le)) 56), (g172, .cells (ca 16 (dg su)) 56), (g163, .cells (ca 16 (dg cb)) 56), (g156, .cells (ca 16 (dg da)) 56), (g149, .cells (ca 16 (dg ee)) 56), (g140, .cells (ca 16 (dg bb)) 56), (g131, .cells (ca 16 (dg aa)) 56), (g122, .cells (ca 16 (dg sb)) 56), (g113, .cells (ca 16 (dg sa)) 56), (b3, .cells (ca 16 (dg B2)) 56), (b2, .cells (ca 16 (dg A2)) 56), (b1, .cells (ca 16 (dg B3)) 56), (b0, .cells (ca 16 (dg A3)) 56), (g6, .cells (ca 16 (dg u)) 56), (w.heap.size + 1 + 1, .cells zs 22), (w.heap.size + 1, .cells (cs8 us) 22), (w.heap.size, .cells (cs8 (scal ks)) 22)]) := (HM184.out).keep hb
            clear hb HM184
            simp only [Act.put, List.setIfInBounds_toArray, List.set_cons_succ, List.set_cons_zero]
            refine wpList_store_blk (b := b2) rfl rfl rfl rfl ((HM186.out).get 10 rfl) (by kernel_rfl) (ca_size _ _) (ca_size _ _) (ca_one _ _) ?_
            simp only [Act.put]
            generalize hV188 : World.setCells u185 (b2) 0 _ = V187
            have HM189 : Hid (Mem w.heap.size w V187 [(g181, .cells (ca 16 (dg le)) 56), (g172, .cells (ca 16 (dg su)) 56), (g163, .cells (ca 16 (dg cb)) 56), (g156, .cells (ca 16 (dg da)) 56), (g149, .cells (ca 16 (dg ee)) 56), (g140, .cells (ca 16 (dg bb)) 56), (g131, .cells (ca 16 (dg aa)) 56), (g122, .cells (ca 16 (dg sb)) 56), (g113, .cells (ca 16 (dg sa)) 56), (b3, .cells (ca 16 (dg B2)) 56), (b2, .cells (ca 16 (dg p3)) 56), (b1, .cells (ca 16 (dg B3)) 56), (b0, .cells (ca 16 (dg A3)) 56), (g6, .cells (ca 16 (dg u)) 56), (w.heap.size + 1 + 1, .cells zs 22), (w.heap.size + 1, .cells (cs8 us) 22), (w.heap.size, .cells (cs8 (scal ks)) 22)]) := (by rw [← hV188]; exact (HM186.out).store 10 (ca 16 (dg p3)) rfl (by simp [ca_size]) : Mem w.heap.size w V187 [(g181, .cells (ca 16 (dg le)) 56), (g172, .cells (ca 16 (dg su)) 56), (g163, .cells (ca 16 (dg cb)) 56), (g156, .cells (ca 16 (dg da)) 56), (g149, .cells (ca 16 (dg ee)) 56), (g140, .cells (ca 16 (dg bb)) 56), (g131, .cells (ca 16 (dg aa)) 56), (g122, .cells (ca 16 (dg sb)) 56), (g113, .cells (ca 16 (dg sa)) 56), (b3, .cells (ca 16 (dg B2)) 56), (b2, .cells (ca 16 (dg p3)) 56), (b1, .cells (ca 16 (dg B3)) 56), (b0, .cells (ca 16 (dg A3)) 56), (g6, .cells (ca 16 (dg u)) 56), (w.heap.size + 1 + 1, .cells zs 22), (w.heap.size + 1, .cells (cs8 us) 22), (w.heap.size, .cells (cs8 (scal ks)) 22)])
            clear hV188 HM186
            go_wp2_with fail
            refine region_list V187.heap.size (C := fun w' => Below V187.heap.size V187 w') [.inl (.agg (ca 16 (dg u))), .inl (.agg (ca 16 (dg le))), .inl (.agg (ca 16 (dg le))), .inl (.agg (ca 16 (dg l2))), .inl (.agg (ca 16 (dg p4)))] [] (by kernel_rfl) (by kernel_rfl) ⟨rfl, rfl, rfl, Nat.le_refl _, fun _ _ => rfl⟩
              (fun w1 w2 h1 h2 => h1.trans (h2.mono h1.size)) (fun i h => by simp at h) ?_ ?_
            · refine ⟨?_, ?_, ?_, ?_, ?_, trivial⟩
              · intro s v hC hk hd
                have h : s.tmps[5]? = some (.pointer (some ⟨g6, 0, none⟩)) := hk 5 (by kernel_rfl)
                exact ok_load rfl rfl h (((HM189.out).keep hC).get 13 rfl) Try.underlying56 rfl (by kernel_rfl) (ca_size _ _)
              · intro s v hC hk hd
                have h : s.tmps[20]? = some (.pointer (some ⟨g181, 0, none⟩)) := hk 20 (by kernel_rfl)
                exact ok_load rfl rfl h (((HM189.out).keep hC).get 0 rfl) Try.underlying56 rfl (by kernel_rfl) (ca_size _ _)
              · intro s v hC hk hd
                have h : s.tmps[20]? = some (.pointer (some ⟨g181, 0, none⟩)) := hk 20 (by kernel_rfl)
                exact ok_load rfl rfl h (((HM189.out).keep hC).get 0 rfl) Try.underlying56 rfl (by kernel_rfl) (ca_size _ _)
              · intro s v hC hk hd
                have h0 : s.tmps[89]? = some (.agg (ca 16 (dg le))) := hd 1 (by kernel_rfl)
                have h1 : s.tmps[90]? = some (.agg (ca 16 (dg le))) := hd 2 (by kernel_rfl)
                exact ok_call rfl (by simp [Act.eval, h0, h1, go_sem]) (rmul_e le le l2 l_le l_le e_l2 v)
              · intro s v hC hk hd
                have h0 : s.tmps[88]? = some (.agg (ca 16 (dg u))) := hd 0 (by kernel_rfl)
                have h1 : s.tmps[91]? = some (.agg (ca 16 (dg l2))) := hd 3 (by kernel_rfl)
                exact ok_call rfl (by simp [Act.eval, h0, h1, go_sem]) (rmul_e u l2 p4 l_u l_l2 e_p4 v)
            · intro nb wA190 hC hf hne
              have M191 := (HM189.out).keep hC
              clear hf hne hC
              simp [valsOf, valOf, putAll, Act.put]
              have HM : Hid (Mem w.heap.size w wA190 [(g181, .cells (ca 16 (dg le)) 56), (g172, .cells (ca 16 (dg su)) 56), (g163, .cells (ca 16 (dg cb)) 56), (g156, .cells (ca 16 (dg da)) 56), (g149, .cells (ca 16 (dg ee)) 56), (g140, .cells (ca 16 (dg bb)) 56), (g131, .cells (ca 16 (dg aa)) 56), (g122, .cells (ca 16 (dg sb)) 56), (g113, .cells (ca 16 (dg sa)) 56), (b3, .cells (ca 16 (dg B2)) 56), (b2, .cells (ca 16 (dg p3)) 56), (b1, .cells (ca 16 (dg B3)) 56), (b0, .cells (ca 16 (dg A3)) 56), (g6, .cells (ca 16 (dg u)) 56), (w.heap.size + 1 + 1, .cells zs 22), (w.heap.size + 1, .cells (cs8 us) 22), (w.heap.size, .cells (cs8 (scal ks)) 22)]) := M191
              refine wpList_store_blk (b := b3) rfl rfl rfl rfl ((HM.out).get 9 rfl) (by kernel_rfl) (ca_size _ _) (ca_size _ _) (ca_one _ _) ?_
              simp only [Act.put]
              generalize hV193 : World.setCells wA190 (b3) 0 _ = V192
              have HM194 : Hid (Mem w.heap.size w V192 [(g181, .cells (ca 16 (dg le)) 56), (g172, .cells (ca 16 (dg su)) 56), (g163, .cells (ca 16 (dg cb)) 56), (g156, .cells (ca 16 (dg da)) 56), (g149, .cells (ca 16 (dg ee)) 56), (g140, .cells (ca 16 (dg bb)) 56), (g131, .cells (ca 16 (dg aa)) 56), (g122, .cells (ca 16 (dg sb)) 56), (g113, .cells (ca 16 (dg sa)) 56), (b3, .cells (ca 16 (dg p4)) 56), (b2, .cells (ca 16 (dg p3)) 56), (b1, .cells (ca 16 (dg B3)) 56), (b0, .cells (ca 16 (dg A3)) 56), (g6, .cells (ca 16 (dg u)) 56), (w.heap.size + 1 + 1, .cells zs 22), (w.heap.size + 1, .cells (cs8 us) 22), (w.heap.size, .cells (cs8 (scal ks)) 22)]) := (by rw [← hV193]; exact (HM.out).store 9 (ca 16 (dg p4)) rfl (by simp [ca_size]) : Mem w.heap.size w V192 [(g181, .cells (ca 16 (dg le)) 56), (g172, .cells (ca 16 (dg su)) 56), (g163, .cells (ca 16 (dg cb)) 56), (g156, .cells (ca 16 (dg da)) 56), (g149, .cells (ca 16 (dg ee)) 56), (g140, .cells (ca 16 (dg bb)) 56), (g131, .cells (ca 16 (dg aa)) 56), (g122, .cells (ca 16 (dg sb)) 56), (g113, .cells (ca 16 (dg sa)) 56), (b3, .cells (ca 16 (dg p4)) 56), (b2, .cells (ca 16 (dg p3)) 56), (b1, .cells (ca 16 (dg B3)) 56), (b0, .cells (ca 16 (dg A3)) 56), (g6, .cells (ca 16 (dg u)) 56), (w.heap.size + 1 + 1, .cells zs 22), (w.heap.size + 1, .cells (cs8 us) 22), (w.heap.size, .cells (cs8 (scal ks)) 22)])
              clear hV193 HM
              go_upto_region 22 with fail
              refine wp_region_list ?_
              refine wpList_load_blk (b := g131) rfl rfl rfl ((HM194.out).get 6 rfl) Try.underlying56 rfl (by kernel_rfl) (ca_size _ _) ?_
              simp only [Act.put, List.setIfInBounds_toArray, List.set_cons_succ, List.set_cons_zero]
              refine wpList_load_blk (b := g140) rfl rfl rfl ((HM194.out).get 5 rfl) Try.underlying56 rfl (by kernel_rfl) (ca_size _ _) ?_
              simp only [Act.put, List.setIfInBounds_toArray, List.set_cons_succ, List.set_cons_zero]
              refine wpList_call rfl (by simp [Act.eval, go_sem]) (rmul_e aa bb p1 l_aa l_bb e_p1 _) fun u195 hb => ?_
              have HM196 : Hid (Mem w.heap.size w u195 [(g181, .cells (ca 16 (dg le)) 56), (g172, .cells (ca 16 (dg su)) 56), (g163, .cells (ca 16 (dg cb)) 56), (g156, .cells (ca 16 (dg da)) 56), (g149, .cells (ca 16 (dg ee)) 56), (g140, .cells (ca 16 (dg bb)) 56), (g131, .cells (ca 16 (dg aa)) 56), (g122, .cells (ca 16 (dg sb)) 56), (g113, .cells (ca 16 (dg sa)) 56), (b3, .cells (ca 16 (dg p4)) 56), (b2, .cells (ca 16 (dg p3)) 56), (b1, .cells (ca 16 (dg B3)) 56), (b0, .cells (ca 16 (dg A3)) 56), (g6, .cells (ca 16 (dg u)) 56), (w.heap.size + 1 + 1, .cells zs 22), (w.heap.size + 1, .cells (cs8 us) 22), (w.heap.size, .cells (cs8 (scal ks)) 22)]) := (HM194.out).keep hb
              clear hb HM194
              simp only [Act.put, List.setIfInBounds_toArray, List.set_cons_succ, List.set_cons_zero]
              refine wpList_store_blk (b := b0) rfl rfl rfl rfl ((HM196.out).get 12 rfl) (by kernel_rfl) (ca_size _ _) (ca_size _ _) (ca_one _ _) ?_
              simp only [Act.put]
              generalize hV198 : World.setCells u195 (b0) 0 _ = V197
              have HM199 : Hid (Mem w.heap.size w V197 [(g181, .cells (ca 16 (dg le)) 56), (g172, .cells (ca 16 (dg su)) 56), (g163, .cells (ca 16 (dg cb)) 56), (g156, .cells (ca 16 (dg da)) 56), (g149, .cells (ca 16 (dg ee)) 56), (g140, .cells (ca 16 (dg bb)) 56), (g131, .cells (ca 16 (dg aa)) 56), (g122, .cells (ca 16 (dg sb)) 56), (g113, .cells (ca 16 (dg sa)) 56), (b3, .cells (ca 16 (dg p4)) 56), (b2, .cells (ca 16 (dg p3)) 56), (b1, .cells (ca 16 (dg B3)) 56), (b0, .cells (ca 16 (dg p1)) 56), (g6, .cells (ca 16 (dg u)) 56), (w.heap.size + 1 + 1, .cells zs 22), (w.heap.size + 1, .cells (cs8 us) 22), (w.heap.size, .cells (cs8 (scal ks)) 22)]) := (by rw [← hV198]; exact (HM196.out).store 12 (ca 16 (dg p1)) rfl (by simp [ca_size]) : Mem w.heap.size w V197 [(g181, .cells (ca 16 (dg le)) 56), (g172, .cells (ca 16 (dg su)) 56), (g163, .cells (ca 16 (dg cb)) 56), (g156, .cells (ca 16 (dg da)) 56), (g149, .cells (ca 16 (dg ee)) 56), (g140, .cells (ca 16 (dg bb)) 56), (g131, .cells (ca 16 (dg aa)) 56), (g122, .cells (ca 16 (dg sb)) 56), (g113, .cells (ca 16 (dg sa)) 56), (b3, .cells (ca 16 (dg p4)) 56), (b2, .cells (ca 16 (dg p3)) 56), (b1, .cells (ca 16 (dg B3)) 56), (b0, .cells (ca 16 (dg p1)) 56), (g6, .cells (ca 16 (dg u)) 56), (w.heap.size + 1 + 1, .cells zs 22), (w.heap.size + 1, .cells (cs8 us) 22), (w.heap.size, .cells (cs8 (scal ks)) 22)])
              clear hV198 HM196
              go_wp2_with fail
              refine region_list V197.heap.size (C := fun w' => Below V197.heap.size V197 w') [.inl (.agg (ca 16 (dg ee))), .inl (.agg (ca 16 (dg aa))), .inl (.agg (ca 16 (dg 121665))), .inl (.agg (ca 16 (dg ee))), .inl (.agg (ca 16 (dg ff))), .inl (.agg (ca 16 (dg gg))), .inl (.agg (ca 16 (dg p2)))] [] (by kernel_rfl) (by kernel_rfl) ⟨rfl, rfl, rfl, Nat.le_refl _, fun _ _ => rfl⟩
                (fun w1 w2 h1 h2 => h1.trans (h2.mono h1.size)) (fun i h => by simp at h) ?_ ?_
              · refine ⟨?_, ?_, ?_, ?_, ?_, ?_, ?_, trivial⟩
                · intro s v hC hk hd
                  have h : s.tmps[16]? = some (.pointer (some ⟨g149, 0, none⟩)) := hk 16 (by kernel_rfl)
                  exact ok_load rfl rfl h (((HM199.out).keep hC).get 4 rfl) Try.underlying56 rfl (by kernel_rfl) (ca_size _ _)
                · intro s v hC hk hd
                  have h : s.tmps[14]? = some (.pointer (some ⟨g131, 0, none⟩)) := hk 14 (by kernel_rfl)
                  exact ok_load rfl rfl h (((HM199.out).keep hC).get 6 rfl) Try.underlying56 rfl (by kernel_rfl) (ca_size _ _)
                · intro s v hC hk hd
                  exact ok_call rfl (by simp [Act.eval, go_sem]) (small_any 121665 (by decide) v)
                · intro s v hC hk hd
                  have h : s.tmps[16]? = some (.pointer (some ⟨g149, 0, none⟩)) := hk 16 (by kernel_rfl)
                  exact ok_load rfl rfl h (((HM199.out).keep hC).get 4 rfl) Try.underlying56 rfl (by kernel_rfl) (ca_size _ _)
                · intro s v hC hk hd
                  have h0 : s.tmps[98]? = some (.agg (ca 16 (dg 121665))) := hd 2 (by kernel_rfl)
                  have h1 : s.tmps[99]? = some (.agg (ca 16 (dg ee))) := hd 3 (by kernel_rfl)
                  exact ok_call rfl (by simp [Act.eval, h0, h1, go_sem]) (rmul_e 121665 ee ff (by decide) l_ee e_ff v)
                · intro s v hC hk hd
                  have h0 : s.tmps[97]? = some (.agg (ca 16 (dg aa))) := hd 1 (by kernel_rfl)
                  have h1 : s.tmps[100]? = some (.agg (ca 16 (dg ff))) := hd 4 (by kernel_rfl)
                  exact ok_call rfl (by simp [Act.eval, h0, h1, go_sem]) (radd_e aa ff gg l_aa l_ff e_gg v)
                · intro s v hC hk hd
                  have h0 : s.tmps[96]? = some (.agg (ca 16 (dg ee))) := hd 0 (by kernel_rfl)
                  have h1 : s.tmps[101]? = some (.agg (ca 16 (dg gg))) := hd 5 (by kernel_rfl)
                  exact ok_call rfl (by simp [Act.eval, h0, h1, go_sem]) (rmul_e ee gg p2 l_ee l_gg e_p2 v)
              · intro nb wA200 hC hf hne
                have M201 := (HM199.out).keep hC
                clear hf hne hC
                simp [valsOf, valOf, putAll, Act.put]
                have HM : Hid (Mem w.heap.size w wA200 [(g181, .cells (ca 16 (dg le)) 56), (g172, .cells (ca 16 (dg su)) 56), (g163, .cells (ca 16 (dg cb)) 56), (g156, .cells (ca 16 (dg da)) 56), (g149, .cells (ca 16 (dg ee)) 56), (g140, .cells (ca 16 (dg bb)) 56), (g131, .cells (ca 16 (dg aa)) 56), (g122, .cells (ca 16 (dg sb)) 56), (g113, .cells (ca 16 (dg sa)) 56), (b3, .cells (ca 16 (dg p4)) 56), (b2, .cells (ca 16 (dg p3)) 56), (b1, .cells (ca 16 (dg B3)) 56), (b0, .cells (ca 16 (dg p1)) 56), (g6, .cells (ca 16 (dg u)) 56), (w.heap.size + 1 + 1, .cells zs 22), (w.heap.size + 1, .cells (cs8 us) 22), (w.heap.size, .cells (cs8 (scal ks)) 22)]) := M201
                refine wpList_store_blk (b := b1) rfl rfl rfl rfl ((HM.out).get 11 rfl) (by kernel_rfl) (ca_size _ _) (ca_size _ _) (ca_one _ _) ?_
                simp only [Act.put]
                generalize hV203 : World.setCells wA200 (b1) 0 _ = V202
                have HM204 : Hid (Mem w.heap.size w V202 [(g181, .cells (ca 16 (dg le)) 56), (g172, .cells (ca 16 (dg su)) 56), (g163, .cells (ca 16 (dg cb)) 56), (g156, .cells (ca 16 (dg da)) 56), (g149, .cells (ca 16 (dg ee)) 56), (g140, .cells (ca 16 (dg bb)) 56), (g131, .cells (ca 16 (dg aa)) 56), (g122, .cells (ca 16 (dg sb)) 56), (g113, .cells (ca 16 (dg sa)) 56), (b3, .cells (ca 16 (dg p4)) 56), (b2, .cells (ca 16 (dg p3)) 56), (b1, .cells (ca 16 (dg p2)) 56), (b0, .cells (ca 16 (dg p1)) 56), (g6, .cells (ca 16 (dg u)) 56), (w.heap.size + 1 + 1, .cells zs 22), (w.heap.size + 1, .cells (cs8 us) 22), (w.heap.size, .cells (cs8 (scal ks)) 22)]) := (by rw [← hV203]; exact (HM.out).store 11 (ca 16 (dg p2)) rfl (by simp [ca_size]) : Mem w.heap.size w V202 [(g181, .cells (ca 16 (dg le)) 56), (g172, .cells (ca 16 (dg su)) 56), (g163, .cells (ca 16 (dg cb)) 56), (g156, .cells (ca 16 (dg da)) 56), (g149, .cells (ca 16 (dg ee)) 56), (g140, .cells (ca 16 (dg bb)) 56), (g131, .cells (ca 16 (dg aa)) 56), (g122, .cells (ca 16 (dg sb)) 56), (g113, .cells (ca 16 (dg sa)) 56), (b3, .cells (ca 16 (dg p4)) 56), (b2, .cells (ca 16 (dg p3)) 56), (b1, .cells (ca 16 (dg p2)) 56), (b0, .cells (ca 16 (dg p1)) 56), (g6, .cells (ca 16 (dg u)) 56), (w.heap.size + 1 + 1, .cells zs 22), (w.heap.size + 1, .cells (cs8 us) 22), (w.heap.size, .cells (cs8 (scal ks)) 22)])
                clear hV203 HM
                go_wp2_with fail
                obtain ⟨s205w0, s205h0⟩ : ∃ x : World, x = { V202 with drawn := V202.drawn + 1 } := ⟨_, rfl⟩
                have s205m0 : Mem w.heap.size w s205w0 [(g181, .cells (ca 16 (dg le)) 56), (g172, .cells (ca 16 (dg su)) 56), (g163, .cells (ca 16 (dg cb)) 56), (g156, .cells (ca 16 (dg da)) 56), (g149, .cells (ca 16 (dg ee)) 56), (g140, .cells (ca 16 (dg bb)) 56), (g131, .cells (ca 16 (dg aa)) 56), (g122, .cells (ca 16 (dg sb)) 56), (g113, .cells (ca 16 (dg sa)) 56), (b3, .cells (ca 16 (dg p4)) 56), (b2, .cells (ca 16 (dg p3)) 56), (b1, .cells (ca 16 (dg p2)) 56), (b0, .cells (ca 16 (dg p1)) 56), (g6, .cells (ca 16 (dg u)) 56), (w.heap.size + 1 + 1, .cells zs 22), (w.heap.size + 1, .cells (cs8 us) 22), (w.heap.size, .cells (cs8 (scal ks)) 22)] := by rw [s205h0]; exact (HM204.out).keep ⟨rfl, rfl, rfl, Nat.le_refl _, fun _ _ => rfl⟩
                obtain ⟨s205w1, s205h1⟩ : ∃ x : World, x = s205w0.setCells (b0) 0 ((ca 16 (dg p3))).toList := ⟨_, rfl⟩
                have s205m1 : Mem w.heap.size w s205w1 [(g181, .cells (ca 16 (dg le)) 56), (g172, .cells (ca 16 (dg su)) 56), (g163, .cells (ca 16 (dg cb)) 56), (g156, .cells (ca 16 (dg da)) 56), (g149, .cells (ca 16 (dg ee)) 56), (g140, .cells (ca 16 (dg bb)) 56), (g131, .cells (ca 16 (dg aa)) 56), (g122, .cells (ca 16 (dg sb)) 56), (g113, .cells (ca 16 (dg sa)) 56), (b3, .cells (ca 16 (dg p4)) 56), (b2, .cells (ca 16 (dg p3)) 56), (b1, .cells (ca 16 (dg p2)) 56), (b0, .cells (ca 16 (dg p3)) 56), (g6, .cells (ca 16 (dg u)) 56), (w.heap.size + 1 + 1, .cells zs 22), (w.heap.size + 1, .cells (cs8 us) 22), (w.heap.size, .cells (cs8 (scal ks)) 22)] := by rw [s205h1]; exact s205m0.store 12 (ca 16 (dg p3)) rfl (by rw [ca_size, ca_size])
                obtain ⟨s205w2, s205h2⟩ : ∃ x : World, x = s205w1.setCells (b1) 0 ((ca 16 (dg p4))).toList := ⟨_, rfl⟩
                have s205m2 : Mem w.heap.size w s205w2 [(g181, .cells (ca 16 (dg le)) 56), (g172, .cells (ca 16 (dg su)) 56), (g163, .cells (ca 16 (dg cb)) 56), (g156, .cells (ca 16 (dg da)) 56), (g149, .cells (ca 16 (dg ee)) 56), (g140, .cells (ca 16 (dg bb)) 56), (g131, .cells (ca 16 (dg aa)) 56), (g122, .cells (ca 16 (dg sb)) 56), (g113, .cells (ca 16 (dg sa)) 56), (b3, .cells (ca 16 (dg p4)) 56), (b2, .cells (ca 16 (dg p3)) 56), (b1, .cells (ca 16 (dg p4)) 56), (b0, .cells (ca 16 (dg p3)) 56), (g6, .cells (ca 16 (dg u)) 56), (w.heap.size + 1 + 1, .cells zs 22), (w.heap.size + 1, .cells (cs8 us) 22), (w.heap.size, .cells (cs8 (scal ks)) 22)] := by rw [s205h2]; exact s205m1.store 11 (ca 16 (dg p4)) rfl (by rw [ca_size, ca_size])
                obtain ⟨s205w3, s205h3⟩ : ∃ x : World, x = s205w2.setCells (b2) 0 ((ca 16 (dg p1))).toList := ⟨_, rfl⟩
                have s205m3 : Mem w.heap.size w s205w3 [(g181, .cells (ca 16 (dg le)) 56), (g172, .cells (ca 16 (dg su)) 56), (g163, .cells (ca 16 (dg cb)) 56), (g156, .cells (ca 16 (dg da)) 56), (g149, .cells (ca 16 (dg ee)) 56), (g140, .cells (ca 16 (dg bb)) 56), (g131, .cells (ca 16 (dg aa)) 56), (g122, .cells (ca 16 (dg sb)) 56), (g113, .cells (ca 16 (dg sa)) 56), (b3, .cells (ca 16 (dg p4)) 56), (b2, .cells (ca 16 (dg p1)) 56), (b1, .cells (ca 16 (dg p4)) 56), (b0, .cells (ca 16 (dg p3)) 56), (g6, .cells (ca 16 (dg u)) 56), (w.heap.size + 1 + 1, .cells zs 22), (w.heap.size + 1, .cells (cs8 us) 22), (w.heap.size, .cells (cs8 (scal ks)) 22)] := by rw [s205h3]; exact s205m2.store 10 (ca 16 (dg p1)) rfl (by rw [ca_size, ca_size])
                obtain ⟨s205w4, s205h4⟩ : ∃ x : World, x = s205w3.setCells (b3) 0 ((ca 16 (dg p2))).toList := ⟨_, rfl⟩
                have s205m4 : Mem w.heap.size w s205w4 [(g181, .cells (ca 16 (dg le)) 56), (g172, .cells (ca 16 (dg su)) 56), (g163, .cells (ca 16 (dg cb)) 56), (g156, .cells (ca 16 (dg da)) 56), (g149, .cells (ca 16 (dg ee)) 56), (g140, .cells (ca 16 (dg bb)) 56), (g131, .cells (ca 16 (dg aa)) 56), (g122, .cells (ca 16 (dg sb)) 56), (g113, .cells (ca 16 (dg sa)) 56), (b3, .cells (ca 16 (dg p2)) 56), (b2, .cells (ca 16 (dg p1)) 56), (b1, .cells (ca 16 (dg p4)) 56), (b0, .cells (ca 16 (dg p3)) 56), (g6, .cells (ca 16 (dg u)) 56), (w.heap.size + 1 + 1, .cells zs 22), (w.heap.size + 1, .cells (cs8 us) 22), (w.heap.size, .cells (cs8 (scal ks)) 22)] := by rw [s205h4]; exact s205m3.store 9 (ca 16 (dg p2)) rfl (by rw [ca_size, ca_size])
                refine region_swap 105 (ca 16 (dg p3)) (ca 16 (dg p4)) (ca 16 (dg p1)) (ca 16 (dg p2)) s205w0 s205w1 s205w2 s205w3 s205w4 (by kernel_rfl) (by kernel_rfl) (by simp) s205h0 ⟨rfl, rfl⟩ ⟨rfl, rfl⟩ ⟨rfl, rfl⟩ ⟨rfl, rfl⟩ ⟨rfl, rfl⟩ ⟨rfl, rfl⟩ ⟨rfl, rfl⟩ ⟨rfl, rfl⟩ ⟨of_decide_eq_true (by kernel_rfl), of_decide_eq_true (by kernel_rfl), of_decide_eq_true (by kernel_rfl)⟩ ⟨of_decide_eq_true (by kernel_rfl), of_decide_eq_true (by kernel_rfl)⟩ ⟨of_decide_eq_true (by kernel_rfl), of_decide_eq_true (by kernel_rfl)⟩ ⟨of_decide_eq_true (by kernel_rfl), of_decide_eq_true (by kernel_rfl)⟩
                  (fun a hk => run_load_op (t := 8) rfl ((hk 8 (by omega)).trans rfl) (s205m0.get 10 rfl) Try.underlying56 rfl (by kernel_rfl) (ca_size _ _))
                  (fun a hk => run_load_op (t := 9) rfl ((hk 9 (by omega)).trans rfl) (s205m0.get 9 rfl) Try.underlying56 rfl (by kernel_rfl) (ca_size _ _))
                  (fun a hk => run_load_op (t := 6) rfl ((hk 6 (by omega)).trans rfl) (s205m0.get 12 rfl) Try.underlying56 rfl (by kernel_rfl) (ca_size _ _))
                  (fun a hk => run_load_op (t := 7) rfl ((hk 7 (by omega)).trans rfl) (s205m0.get 11 rfl) Try.underlying56 rfl (by kernel_rfl) (ca_size _ _))
                  (fun a hk => run_load_op (t := 9) rfl ((hk 9 (by omega)).trans rfl) (s205m1.get 9 rfl) Try.underlying56 rfl (by kernel_rfl) (ca_size _ _))
                  (fun a K hk hv hK => wp_store_blk (t := 6) (s := 105) rfl ((hk 6 (by omega)).trans rfl) hv (s205m0.get 12 rfl) (by kernel_rfl) (ca_size _ _) (ca_size _ _) (ca_one _ _) s205h1 hK)
                  (fun a K hk hv hK => wp_store_blk (t := 7) (s := 106) rfl ((hk 7 (by omega)).trans rfl) hv (s205m1.get 11 rfl) (by kernel_rfl) (ca_size _ _) (ca_size _ _) (ca_one _ _) s205h2 hK)
                  (fun a K hk hv hK => wp_store_blk (t := 8) (s := 107) rfl ((hk 8 (by omega)).trans rfl) hv (s205m2.get 10 rfl) (by kernel_rfl) (ca_size _ _) (ca_size _ _) (ca_one _ _) s205h3 hK)
                  (fun a K hk hv hK => wp_store_blk (t := 9) (s := 108) rfl ((hk 9 (by omega)).trans rfl) hv (s205m3.get 9 rfl) (by kernel_rfl) (ca_size _ _) (ca_size _ _) (ca_one _ _) s205h4 hK)
                  ?_
                have HQs205 : Hid _ := s205m4
                clear s205m0 s205m1 s205m2 s205m3 s205m4 s205h0 s205h1 s205h2 s205h3 s205h4
                simp only [Act.put, List.setIfInBounds_toArray, List.set_cons_succ, List.set_cons_zero]
                go_wp2_with fail
                go_roundw
                case rel =>
                  have hm := HMJ.out
                  exact ⟨j + 1, by omega, int_eq (by omega), by rw [HX.out]; exact (HQs205.out).tail.tail.tail.tail.tail.tail.tail.tail.tail⟩
                case measure => simp [intOf]
    · have ej : j = 255 := by omega
      subst ej
      have e1 : (254 - ((255 : Nat) : Int)) = -1 := by omega
      rw [e1]
      have OKL := ladTo_ok (scal ks) u HUL.out 255
      have hr := HR.out
      generalize ladTo (scal ks) u 255 = l at *
      obtain ⟨A2, B2, A3, B3⟩ := l
      obtain ⟨l_A2, l_B2, _, _⟩ := OKL
      simp only at l_A2 l_B2 hr
      have KI := fun w => rinv_any B2 l_B2 w
      have l_iz := inv_lt B2
      generalize invTo B2 255 = iz at *
      have e_r : A2 * iz % pN = r := hr
      clear hr hlt hj e1
      have HL : Hid (Mem w.heap.size w wr [(b3, .cells (ca 16 (dg B3)) 56), (b2, .cells (ca 16 (dg A3)) 56), (b1, .cells (ca 16 (dg B2)) 56), (b0, .cells (ca 16 (dg A2)) 56), (g6, .cells (ca 16 (dg u)) 56), (w.heap.size + 1 + 1, .cells zs 22), (w.heap.size + 1, .cells (cs8 us) 22), (w.heap.size, .cells (cs8 (scal ks)) 22)]) := HM.out
      clear HM
      go_wp2_with fail
      refine region_list wr.heap.size (C := fun w' => Below wr.heap.size wr w') [.inl (.agg (ca 16 (dg A2))), .inl (.agg (ca 16 (dg B2))), .inl (.agg (ca 16 (dg iz))), .inl (.agg (ca 16 (dg r))), .inl (.agg (cs8 (keyL r)))] [] (by kernel_rfl) (by kernel_rfl) ⟨rfl, rfl, rfl, Nat.le_refl _, fun _ _ => rfl⟩
        (fun w1 w2 h1 h2 => h1.trans (h2.mono h1.size)) (fun i h => by simp at h) ?_ ?_
      · refine ⟨?_, ?_, ?_, ?_, ?_, trivial⟩
        · intro s v hC hk hd
          have h : s.tmps[6]? = some (.pointer (some ⟨b0, 0, none⟩)) := hk 6 (by kernel_rfl)
          exact ok_load rfl rfl h (((HL.out).keep hC).get 3 rfl) Try.underlying56 rfl (by kernel_rfl) (ca_size _ _)
        · intro s v hC hk hd
          have h : s.tmps[7]? = some (.pointer (some ⟨b1, 0, none⟩)) := hk 7 (by kernel_rfl)
          exact ok_load rfl rfl h (((HL.out).keep hC).get 2 rfl) Try.underlying56 rfl (by kernel_rfl) (ca_size _ _)
        · intro s v hC hk hd
          have h0 : s.tmps[110]? = some (.agg (ca 16 (dg B2))) := hd 1 (by kernel_rfl)
          exact ok_call rfl (by simp [Act.eval, h0, go_sem]) (KI v)
        · intro s v hC hk hd
          have h0 : s.tmps[109]? = some (.agg (ca 16 (dg A2))) := hd 0 (by kernel_rfl)
          have h1 : s.tmps[111]? = some (.agg (ca 16 (dg iz))) := hd 2 (by kernel_rfl)
          exact ok_call rfl (by simp [Act.eval, h0, h1, go_sem]) (rmul_e A2 iz r l_A2 l_iz e_r v)
        · intro s v hC hk hd
          have h0 : s.tmps[112]? = some (.agg (ca 16 (dg r))) := hd 3 (by kernel_rfl)
          exact ok_call rfl (by simp [Act.eval, h0, go_sem]) (rkey_any r v)
      · intro nb wA206 hC hf hne
        have M207 := (HL.out).keep hC
        clear hf hne hC
        simp [valsOf, valOf, putAll, Act.put]
        have HM : Hid (Mem w.heap.size w wA206 [(b3, .cells (ca 16 (dg B3)) 56), (b2, .cells (ca 16 (dg A3)) 56), (b1, .cells (ca 16 (dg B2)) 56), (b0, .cells (ca 16 (dg A2)) 56), (g6, .cells (ca 16 (dg u)) 56), (w.heap.size + 1 + 1, .cells zs 22), (w.heap.size + 1, .cells (cs8 us) 22), (w.heap.size, .cells (cs8 (scal ks)) 22)]) := M207
        refine wpList_store_blk (b := w.heap.size + 1 + 1) rfl rfl rfl rfl ((HM.out).get 5 rfl) (by kernel_rfl) (SZ.out) ((keyC_size r)) (cs8_one _) ?_
        simp only [Act.put]
        generalize hV209 : World.setCells wA206 (w.heap.size + 1 + 1) 0 _ = V208
        have HM210 : Hid (Mem w.heap.size w V208 [(b3, .cells (ca 16 (dg B3)) 56), (b2, .cells (ca 16 (dg A3)) 56), (b1, .cells (ca 16 (dg B2)) 56), (b0, .cells (ca 16 (dg A2)) 56), (g6, .cells (ca 16 (dg u)) 56), (w.heap.size + 1 + 1, .cells (cs8 (keyL r)) 22), (w.heap.size + 1, .cells (cs8 us) 22), (w.heap.size, .cells (cs8 (scal ks)) 22)]) := (by rw [← hV209]; exact (HM.out).store 5 (cs8 (keyL r)) rfl ((SZ.out).trans ((keyC_size r)).symm) : Mem w.heap.size w V208 [(b3, .cells (ca 16 (dg B3)) 56), (b2, .cells (ca 16 (dg A3)) 56), (b1, .cells (ca 16 (dg B2)) 56), (b0, .cells (ca 16 (dg A2)) 56), (g6, .cells (ca 16 (dg u)) 56), (w.heap.size + 1 + 1, .cells (cs8 (keyL r)) 22), (w.heap.size + 1, .cells (cs8 us) 22), (w.heap.size, .cells (cs8 (scal ks)) 22)])
        clear hV209 HM
        go_wp2_with fail
        exact bodyPost_ret (v := .agg (cs8 (keyL r))) (results_blk (b := w.heap.size + 1 + 1) Try.results14 rfl ((HM210.out).get 5 rfl) Try.underlying22 rfl (by kernel_rfl) (keyC_size r)) rfl ⟨rfl, (HM210.out).below⟩

theorem rcurve_any (ks us : List Nat) (hk : Bytes ks) (hu : Bytes us) (w : World) : Calls Try.prog 14 #[.agg (cs8 ks), .agg (cs8 us)] w fun e w' => e = .returned (.agg (cs8 (keyL (curveN ks us)))) ∧ Below w.heap.size w w' :=
  rcurve_raw ks us hk hu (numOf us % pN) _ (Nat.mod_lt _ (by decide)) (rof_any us hu) rfl w
end Go.Proofs.Ytfciodbgjljjhaa
