/- The walks of Small and Key of the document's answer of layer 1. -/
import Derived.Test.YtpgmaidbemndnaaRef2
import Derived.Test.YtpgmaidbemndnaaByteNum
namespace Go.Proofs.Ytpgmaidbemndnaa
open Go.RowKit

def sm (n j : Nat) : Nat := if j = 0 then n % 65536 else if j = 1 then n / 65536 % 65536 else if j = 2 then n / 4294967296 % 65536 else if j = 3 then n / 281474976710656 else 0

set_option maxRecDepth 100000 in
set_option maxHeartbeats 4000000 in
theorem small_raw (n N a b c d : Nat) (e0 : bits .and .u64 (n : Int) 65535 = (a : Int)) (e1 : bits .and .u64 ((n : Int) / 65536) 65535 = (b : Int)) (e2 : bits .and .u64 ((n : Int) / 4294967296) 65535 = (c : Int)) (e3 : (n : Int) / 281474976710656 = (d : Int)) (cs : Array Value)
    (hcs : cs = #[.int .u64 (a : Nat), .int .u64 (b : Nat), .int .u64 (c : Nat), .int .u64 (d : Nat), .int .u64 0, .int .u64 0, .int .u64 0, .int .u64 0, .int .u64 0, .int .u64 0, .int .u64 0, .int .u64 0, .int .u64 0, .int .u64 0, .int .u64 0, .int .u64 0])
    (k1 : ∀ w, Calls Try.prog 27 #[.agg cs] w fun e w' => e = .returned (.agg (ca 16 (dg N))) ∧ Below w.heap.size w w') (w : World) :
    Calls Try.prog 13 #[.int .u64 (n : Nat)] w fun e w' => e = .returned (.agg (ca 16 (dg N))) ∧ Below w.heap.size w w' := by
  rw [hcs] at k1
  have K1 : Hid _ := k1
  clear k1 hcs
  go_enter Try.func13, Try.ntmps13
  go_wp2_with fail
  refine (K1.out _).mono ?_
  rintro e u ⟨rfl, hb⟩
  obtain ⟨zs, Z', hzs⟩ : ∃ zs, u.heap[w.heap.size]? = some (.cells zs 33) ∧ zs.size = 16 := ⟨_, keep hb (heap_new _ _), rfl⟩
  have Z2 : Hid _ := Z'
  have SZ : Hid _ := hzs
  have B2 : Hid (Below w.heap.size w u) := ((Below.refl _ _).alloc (Nat.le_refl _) _).trans (hb.mono (by simp))
  clear hb Z' hzs e0 e1 e2 e3
  go_wp2_with (refine wpList_store_blk (b := w.heap.size) rfl rfl rfl rfl Z2.out (by kernel_rfl) SZ.out (ca_size _ _) (ca_one _ _) ?_)
  refine bodyPost_ret (v := .agg (ca 16 (dg N))) (results_blk (b := w.heap.size) Try.results13 rfl (heap_setCells_all _ Z2.out (by rw [SZ.out, ca_size])) Try.underlying33 rfl (by kernel_rfl) (ca_size _ _)) rfl ⟨rfl, ?_⟩
  exact below_setCells (Nat.le_refl _) _ _ _ B2.out

theorem ca_lit (h : Nat → Nat) : ca 16 h = #[.int .u64 (h 0 : Nat), .int .u64 (h 1 : Nat), .int .u64 (h 2 : Nat), .int .u64 (h 3 : Nat), .int .u64 (h 4 : Nat), .int .u64 (h 5 : Nat), .int .u64 (h 6 : Nat), .int .u64 (h 7 : Nat), .int .u64 (h 8 : Nat), .int .u64 (h 9 : Nat), .int .u64 (h 10 : Nat), .int .u64 (h 11 : Nat), .int .u64 (h 12 : Nat), .int .u64 (h 13 : Nat), .int .u64 (h 14 : Nat), .int .u64 (h 15 : Nat)] := by
  unfold ca
  rfl
theorem psum_sm (n : Nat) : psum (sm n) 16 = n := by
  have e : psum (sm n) 16 = psum (sm n) 4 + 65536 ^ 4 * psum (fun j => sm n (4 + j)) 12 := psum_split (sm n) 4 12
  have z : psum (fun j => sm n (4 + j)) 12 = psum (fun _ => 0) 12 := psum_congr 12 (fun j _ => by unfold sm; rw [if_neg (by omega), if_neg (by omega), if_neg (by omega), if_neg (by omega)])
  have z2 : psum (fun _ => 0) 12 = 0 := by decide
  rw [e, z, z2, Nat.mul_zero, Nat.add_zero]
  simp only [psum, sm, Nat.reducePow, Nat.reduceEqDiff, if_true, if_false]
  simp
  omega
theorem sm_lit (n : Nat) : ca 16 (sm n) = #[.int .u64 (n % 65536 : Nat), .int .u64 (n / 65536 % 65536 : Nat), .int .u64 (n / 4294967296 % 65536 : Nat), .int .u64 (n / 281474976710656 : Nat), .int .u64 0, .int .u64 0, .int .u64 0, .int .u64 0, .int .u64 0, .int .u64 0, .int .u64 0, .int .u64 0, .int .u64 0, .int .u64 0, .int .u64 0, .int .u64 0] := by
  rw [ca_lit]
  simp [sm]
theorem small_any (n : Nat) (h : n < 18446744073709551616) (w : World) :
    Calls Try.prog 13 #[.int .u64 (n : Nat)] w fun e w' => e = .returned (.agg (ca 16 (dg n))) ∧ Below w.heap.size w w' := by
  have k1 := fun w => full_any (sm n) (fun j _ => by unfold sm; split; omega; split; omega; split; omega; split <;> omega) w
  rw [psum_sm n, Nat.mod_eq_of_lt (Nat.lt_trans h (by decide))] at k1
  refine small_raw n n (n % 65536) (n / 65536 % 65536) (n / 4294967296 % 65536) (n / 281474976710656) (and_16 n h) ?_ ?_ (by omega) (ca 16 (sm n)) (sm_lit n) k1 w
  · rw [show (n : Int) / 65536 = ((n / 65536 : Nat) : Int) by omega]; exact and_16 _ (by omega)
  · rw [show (n : Int) / 4294967296 = ((n / 4294967296 : Nat) : Int) by omega]; exact and_16 _ (by omega)
end Go.Proofs.Ytpgmaidbemndnaa
