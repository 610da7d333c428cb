/- The walk of Key of the document's answer of layer 1. -/
import Derived.Test.YtpgmaidbemndnaaRefByte
namespace Go.Proofs.Ytpgmaidbemndnaa
open Go.RowKit

set_option maxRecDepth 100000 in
set_option maxHeartbeats 4000000 in
theorem rkey_raw (n : Nat) (c : Array Value) (hc : c = ca 16 (dg n)) (w : World) :
    Calls Try.prog 11 #[.agg c] w fun e w' => e = .returned (.agg (cs8 (keyL n))) ∧ Below w.heap.size w w' := by
  have HC : Hid _ := hc
  clear hc
  go_enter Try.func11, Try.ntmps11
  go_upto_region 2 with (refine wpList_store_blk (b := w.heap.size + 1 + 1) rfl rfl rfl rfl (heap_new' _ _ (by simp)) (by kernel_rfl) rfl rfl (by simp [Value.oneCell']) ?_)
  generalize hW : World.setCells _ _ 0 _ = W
  have X0 : Hid (W.heap[w.heap.size]? = some (.cells (ca 16 (dg n)) 33)) := (by rw [← hW]; exact (heap_setCells_ne (by simp; omega) _ _ _).trans ((heap_old _ _ (by simp; omega)).trans ((heap_old _ _ (by simp)).trans ((heap_new _ _).trans (cells_eq HC.out)))) : W.heap[w.heap.size]? = some (.cells (ca 16 (dg n)) 33))
  obtain ⟨zs, Z0', hzs⟩ : ∃ zs, W.heap[w.heap.size + 1]? = some (.cells zs 22) ∧ zs.size = 32 := ⟨_, by rw [← hW]; exact (heap_setCells_ne (by simp) _ _ _).trans ((heap_old _ _ (by simp)).trans (heap_new' _ _ (by simp))), rfl⟩
  obtain ⟨cs, O0', hcs⟩ : ∃ cs, W.heap[w.heap.size + 1 + 1]? = some (.cells cs 22) ∧ cs.size = 32 := ⟨_, by rw [← hW]; exact heap_setCells_all _ (heap_new' _ _ (by simp)) rfl, rfl⟩
  have B0 : Hid (Below w.heap.size w W) := (by rw [← hW]; exact below_setCells (by omega) _ _ _ ((((Below.refl _ _).alloc (Nat.le_refl _) _).alloc (by simp) _).alloc (by simp; omega) _) : Below w.heap.size w W)
  have Z0 : Hid _ := Z0'
  have O0 : Hid _ := O0'
  have SZ0 : Hid _ := hzs
  have SC0 : Hid _ := hcs
  clear hW Z0' O0' hzs hcs
  go_wp2_with fail
  go_loopw [4] (fun t wr => ∃ (k : Nat) (cs zs : Array Value), k ≤ 16 ∧ t = .int .i64 k ∧ wr.heap[w.heap.size]? = some (.cells (ca 16 (dg n)) 33) ∧ wr.heap[w.heap.size + 1]? = some (.cells zs 22) ∧ zs.size = 32 ∧ wr.heap[w.heap.size + 1 + 1]? = some (.cells cs 22) ∧ Laid2 n cs k ∧ Below w.heap.size w wr) (fun t _ => 16 - (intOf t).toNat)
  case atStart => exact ⟨0, cs, zs, by omega, rfl, X0.out, Z0.out, SZ0.out, O0.out, ⟨SC0.out, fun j h => by omega⟩, B0.out⟩
  case round =>
    obtain ⟨k, cs, zs, hk, rfl, X, Z, hzs, O, L, B⟩ := hrel
    have X1 : Hid _ := X
    have Z1 : Hid _ := Z
    have O1 : Hid _ := O
    have L1 : Hid _ := L
    have B1 : Hid _ := B
    have SZ : Hid _ := hzs
    by_cases hlt : k < 16
    · have k16 : (k : Int) < 16 := by omega
      have i2 : 2 * (k : Int) < 32 := by omega
      have i3 : 2 * (k : Int) + 1 < 32 := by omega
      have qx := (cell_of X k).trans (ca_get 16 _ k hlt)
      obtain ⟨v0, c0⟩ := L.ex (2 * k) (by omega)
      obtain ⟨v1, c1⟩ := L.ex (2 * k + 1) (by omega)
      have p0 := (cell_of O (2 * k)).trans c0
      have p1 := (cell_of O (2 * k + 1)).trans c1
      have f0 := frozen_of O (2 * k)
      have f1 := frozen_of O (2 * k + 1)
      have b0 := dg_byte n k 0 (by omega)
      have b1 := dg_byte n k 1 (by omega)
      have BY0 : Hid _ := b0
      have BY1 : Hid _ := b1
      clear X Z O L B hzs c0 c1 b0 b1
      generalize dg n k = x at *
      go_wp2_with fail
      refine ⟨⟨k + 1, _, zs, by omega, by go_num, (heap_set_ne _ _ (by omega)).trans ((heap_set_ne _ _ (by omega)).trans X1.out), (heap_set_ne _ _ (by omega)).trans ((heap_set_ne _ _ (by omega)).trans Z1.out), SZ.out, heap_set (heap_set O1.out (2 * k) _) (2 * k + 1) _, L1.out.step hlt (int_eq ?_) (int_eq ?_), (B1.out.setCell (by simp; omega) _).setCell (by simp; omega) _⟩, by simp [intOf]; omega⟩
      · have := BY0.out; simp at this; omega
      · have := BY1.out; simp at this; omega
    · have e : k = 16 := by omega
      subst e
      have e2 := L.done
      subst e2
      have S8 : Hid ((cs8 (keyL n)).size = 32) := (by simp [cs8, keyL_len] : (cs8 (keyL n)).size = 32)
      clear L1 L X Z O B hzs hk hlt X0 Z0 O0 B0 SZ0 SC0
      go_upto_region 7 with fail
      refine wp_region_list ?_
      refine wpList_load_blk (b := w.heap.size + 1 + 1) rfl rfl rfl O1.out Try.underlying22 rfl (by kernel_rfl) S8.out ?_
      simp only [Act.put]
      refine wpList_store_blk (b := w.heap.size + 1) rfl rfl rfl rfl Z1.out (by kernel_rfl) SZ.out S8.out (cs8_one _) ?_
      go_wp2_with fail
      refine bodyPost_ret (v := .agg (cs8 (keyL n))) (results_blk (b := w.heap.size + 1) Try.results11 rfl (heap_setCells_all (cs8 (keyL n)) Z1.out (by rw [SZ.out, S8.out])) Try.underlying22 rfl (by kernel_rfl) S8.out) rfl ⟨rfl, ?_⟩
      exact below_setCells (by omega) _ _ _ B1.out

theorem rkey_any (n : Nat) (w : World) : Calls Try.prog 11 #[.agg (ca 16 (dg n))] w fun e w' => e = .returned (.agg (cs8 (keyL n))) ∧ Below w.heap.size w w' := rkey_raw n _ rfl w
end Go.Proofs.Ytpgmaidbemndnaa
