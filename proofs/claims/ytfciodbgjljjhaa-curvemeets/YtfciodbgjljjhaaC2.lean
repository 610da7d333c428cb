/- The walk of package curve's scalar: the bits of a scalar that are set anyhow. -/
import Derived.Test.YtfciodbgjljjhaaMem
namespace Go.Proofs.Ytfciodbgjljjhaa
open Go.RowKit

theorem one_set {c : Array Value} {i : Nat} {v : Value} (h : c.all (·.oneCell') = true) (hv : v.oneCell' = true) : (c.setIfInBounds i v).all (·.oneCell') = true := by
  rw [Array.all_eq_true] at h ⊢
  intro j hj
  rw [Array.size_setIfInBounds] at hj
  rw [Array.getElem_setIfInBounds hj]
  split
  · exact hv
  · exact h j hj

set_option maxRecDepth 100000 in
set_option maxHeartbeats 4000000 in
theorem scalar_raw (c : Array Value) (sc : c.size = 32) (oc : c.all (·.oneCell') = true) (v0 v31 a0 a31 b31 : Int) (h0 : c[0]? = some (.int .u8 v0)) (h31 : c[31]? = some (.int .u8 v31))
    (e0 : bits .andNot .u8 v0 7 = a0) (e1 : bits .andNot .u8 v31 128 = a31) (e2 : bits .or .u8 a31 64 = b31) (w : World) :
    Calls Try.prog 15 #[.agg c] w fun e w' => e = .returned (.agg (((c.setIfInBounds 0 (.int .u8 a0)).setIfInBounds 31 (.int .u8 a31)).setIfInBounds 31 (.int .u8 b31))) ∧ Below w.heap.size w w' := by
  have SC : Hid _ := sc
  have OC : Hid _ := oc
  have H0 : Hid _ := h0
  have H31 : Hid _ := h31
  clear sc oc h0 h31
  go_enter Try.func15, Try.ntmps15
  go_upto_region 1 with fail
  generalize hW : World.alloc (World.alloc w _) _ = W
  obtain ⟨zs, HM⟩ : ∃ zs : Array Value, Hid (zs.size = 32 ∧ Mem w.heap.size w W [(w.heap.size + 1, .cells zs 23), (w.heap.size, .cells c 23)]) := ⟨_, (by rw [← hW]; exact ⟨rfl, ((Mem.start w).allocAt _ rfl).allocAt _ (by simp)⟩)⟩
  clear hW
  have q0 := (cell_of (HM.out.2.get 1 rfl) 0).trans H0.out
  have f0 := frozen_of (HM.out.2.get 1 rfl) 0
  go_upto_region 2 with fail
  generalize hV : W.setCell _ _ = V
  have HV : Hid (zs.size = 32 ∧ Mem w.heap.size w V [(w.heap.size + 1, .cells zs 23), (w.heap.size, .cells (c.setIfInBounds 0 (.int .u8 a0)) 23)]) := (by rw [← hV, ← e0]; exact ⟨HM.out.1, HM.out.2.put 1 0 _ rfl⟩ : zs.size = 32 ∧ Mem w.heap.size w V [(w.heap.size + 1, .cells zs 23), (w.heap.size, .cells (c.setIfInBounds 0 (.int .u8 a0)) 23)])
  clear hV HM q0 f0
  have q1 := (cell_of (HV.out.2.get 1 rfl) 31).trans ((Array.getElem?_setIfInBounds_ne (by decide)).trans H31.out)
  have f1 := frozen_of (HV.out.2.get 1 rfl) 31
  go_upto_region 3 with fail
  generalize hU : V.setCell _ _ = U
  have HU : Hid (zs.size = 32 ∧ Mem w.heap.size w U [(w.heap.size + 1, .cells zs 23), (w.heap.size, .cells ((c.setIfInBounds 0 (.int .u8 a0)).setIfInBounds 31 (.int .u8 a31)) 23)]) := (by rw [← hU, ← e1]; exact ⟨HV.out.1, HV.out.2.put 1 31 _ rfl⟩ : zs.size = 32 ∧ Mem w.heap.size w U [(w.heap.size + 1, .cells zs 23), (w.heap.size, .cells ((c.setIfInBounds 0 (.int .u8 a0)).setIfInBounds 31 (.int .u8 a31)) 23)])
  clear hU HV q1 f1
  have q2 := (cell_of (HU.out.2.get 1 rfl) 31).trans (Array.getElem?_setIfInBounds_self_of_lt (by rw [Array.size_setIfInBounds, SC.out]; decide))
  have f2 := frozen_of (HU.out.2.get 1 rfl) 31
  go_upto_region 4 with fail
  generalize hT : U.setCell _ _ = T
  have HT : Hid (zs.size = 32 ∧ Mem w.heap.size w T [(w.heap.size + 1, .cells zs 23), (w.heap.size, .cells (((c.setIfInBounds 0 (.int .u8 a0)).setIfInBounds 31 (.int .u8 a31)).setIfInBounds 31 (.int .u8 b31)) 23)]) := (by rw [← hT, ← e2]; exact ⟨HU.out.1, HU.out.2.put 1 31 _ rfl⟩ : zs.size = 32 ∧ Mem w.heap.size w T [(w.heap.size + 1, .cells zs 23), (w.heap.size, .cells (((c.setIfInBounds 0 (.int .u8 a0)).setIfInBounds 31 (.int .u8 a31)).setIfInBounds 31 (.int .u8 b31)) 23)])
  clear hT HU q2 f2
  have SZ : Hid ((((c.setIfInBounds 0 (.int .u8 a0)).setIfInBounds 31 (.int .u8 a31)).setIfInBounds 31 (.int .u8 b31)).size = 32) := (by simp [SC.out] : (((c.setIfInBounds 0 (.int .u8 a0)).setIfInBounds 31 (.int .u8 a31)).setIfInBounds 31 (.int .u8 b31)).size = 32)
  have ON : Hid ((((c.setIfInBounds 0 (.int .u8 a0)).setIfInBounds 31 (.int .u8 a31)).setIfInBounds 31 (.int .u8 b31)).all (·.oneCell') = true) := (one_set (one_set (one_set OC.out rfl) rfl) rfl : (((c.setIfInBounds 0 (.int .u8 a0)).setIfInBounds 31 (.int .u8 a31)).setIfInBounds 31 (.int .u8 b31)).all (·.oneCell') = true)
  generalize hr : ((c.setIfInBounds 0 (.int .u8 a0)).setIfInBounds 31 (.int .u8 a31)).setIfInBounds 31 (.int .u8 b31) = r at *
  have HR : Hid _ := hr
  clear hr
  refine wp_region_list ?_
  refine wpList_load_blk (b := w.heap.size) rfl rfl rfl (HT.out.2.get 1 rfl) Try.underlying23 rfl (by kernel_rfl) SZ.out ?_
  simp only [Act.put]
  refine wpList_store_blk (b := w.heap.size + 1) rfl rfl rfl rfl (HT.out.2.get 0 rfl) (by kernel_rfl) HT.out.1 SZ.out ON.out ?_
  simp only [Act.put]
  generalize hS : World.setCells T (w.heap.size + 1) 0 _ = S
  have HS : Hid (Mem w.heap.size w S [(w.heap.size + 1, .cells r 23), (w.heap.size, .cells r 23)]) := (by rw [← hS]; exact HT.out.2.store 0 r rfl (by rw [HT.out.1, SZ.out]) : Mem w.heap.size w S [(w.heap.size + 1, .cells r 23), (w.heap.size, .cells r 23)])
  clear hS HT
  go_wp2_with fail
  exact bodyPost_ret (v := .agg r) (results_blk (b := w.heap.size + 1) Try.results15 rfl (HS.out.get 0 rfl) Try.underlying23 rfl (by kernel_rfl) SZ.out) rfl ⟨by rw [HR.out], HS.out.below⟩

/-- A scalar as X25519 takes it. -/
def scal (ks : List Nat) : List Nat := (ks.set 0 (ks.getD 0 0 / 8 * 8)).set 31 (ks.getD 31 0 % 64 + 64)
theorem getD_set (ks : List Nat) (i j v : Nat) : (ks.set i v).getD j 0 = if i = j ∧ j < ks.length then v else ks.getD j 0 := by
  rw [List.getD_eq_getElem?_getD, List.getD_eq_getElem?_getD, List.getElem?_set]
  by_cases e : i = j
  · subst e
    by_cases h : i < ks.length
    · simp [h]
    · simp [h]
  · simp [e]
theorem scal_bytes {ks : List Nat} (h : Bytes ks) : Bytes (scal ks) := by
  refine ⟨(by unfold scal; rw [List.length_set, List.length_set]; exact h.1), fun i => ?_⟩
  have h0 := h.2 0
  have hi := h.2 i
  unfold scal
  rw [getD_set, getD_set]
  split
  · omega
  · split
    · omega
    · exact hi
theorem and_7 : ∀ v : Fin 256, bits .andNot .u8 ((v.val : Nat) : Int) 7 = ((v.val / 8 * 8 : Nat) : Int) := by decide +kernel
theorem and_128 : ∀ v : Fin 256, bits .andNot .u8 ((v.val : Nat) : Int) 128 = ((v.val % 128 : Nat) : Int) := by decide +kernel
theorem or_64 : ∀ v : Fin 128, bits .or .u8 ((v.val : Nat) : Int) 64 = ((v.val % 64 + 64 : Nat) : Int) := by decide +kernel
theorem scalar_any (ks : List Nat) (h : Bytes ks) (w : World) : Calls Try.prog 15 #[.agg (cs8 ks)] w fun e w' => e = .returned (.agg (cs8 (scal ks))) ∧ Below w.heap.size w w' := by
  have h0 := h.2 0
  have h31 := h.2 31
  have k := scalar_raw (cs8 ks) (by simp [cs8, h.1]) (cs8_one ks) (ks.getD 0 0 : Nat) (ks.getD 31 0 : Nat) _ _ _ (cs8_get ks 0 (by rw [h.1]; decide)) (cs8_get ks 31 (by rw [h.1]; decide)) (and_7 ⟨ks.getD 0 0, h0⟩) (and_128 ⟨ks.getD 31 0, h31⟩) (or_64 ⟨ks.getD 31 0 % 128, by omega⟩) w
  have e : (((cs8 ks).setIfInBounds 0 (.int .u8 ((ks.getD 0 0 / 8 * 8 : Nat) : Int))).setIfInBounds 31 (.int .u8 ((ks.getD 31 0 % 128 : Nat) : Int))).setIfInBounds 31 (.int .u8 ((ks.getD 31 0 % 128 % 64 + 64 : Nat) : Int)) = cs8 (scal ks) := by
    refine Array.ext_getElem? fun j => ?_
    have hm : ks.getD 31 0 % 128 % 64 = ks.getD 31 0 % 64 := by omega
    simp only [Array.getElem?_setIfInBounds, Array.size_setIfInBounds, cs8, scal, List.getElem?_toArray, List.getElem?_map, List.getElem?_set, List.length_set, List.size_toArray, List.length_map, h.1, hm]
    by_cases e1 : 31 = j
    · simp [e1]
    · by_cases e2 : 0 = j
      · simp [e1, e2]
      · simp [e1, e2]
  rw [e] at k
  exact k
end Go.Proofs.Ytfciodbgjljjhaa
