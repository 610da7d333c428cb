/- The walks of Add and Mul of package field, over whatever row of numbers. -/
import Derived.Test.YtpgmaidbemndnaaW6
namespace Go.Proofs.Ytpgmaidbemndnaa
open Go.RowKit

/-- A row of numbers, four cells each. -/
def Row (cs : Array Value) (n : Nat) (el : Nat → Nat) : Prop :=
  ∀ i, i < n → cs[4 * i]? = some (.int .u64 (w0 (el i) : Nat)) ∧ cs[4 * i + 1]? = some (.int .u64 (w1 (el i) : Nat)) ∧ cs[4 * i + 2]? = some (.int .u64 (w2 (el i) : Nat)) ∧ cs[4 * i + 3]? = some (.int .u64 (w3 (el i) : Nat))

/-- The sum, the product of the first k + 1. -/
def sumTo (el : Nat → Nat) : Nat → Nat
  | 0 => el 0
  | k + 1 => (sumTo el k + el (k + 1)) % pN
def prodTo (el : Nat → Nat) : Nat → Nat
  | 0 => el 0
  | k + 1 => prodTo el k * el (k + 1) % pN
theorem sumTo_lt {el : Nat → Nat} (h : ∀ i, el i < pN) (k : Nat) : sumTo el k < pN := by
  cases k with
  | zero => exact h 0
  | succ k => exact Nat.mod_lt _ (by decide)
theorem prodTo_lt {el : Nat → Nat} (h : ∀ i, el i < pN) (k : Nat) : prodTo el k < pN := by
  cases k with
  | zero => exact h 0
  | succ k => exact Nat.mod_lt _ (by decide)

set_option maxHeartbeats 2000000 in
theorem add_raw (b m d : Nat) (el : Nat → Nat) (hel : ∀ i, el i < pN) (cs : Array Value) (T : TypeId) (fr : Nat × Nat) (h63 : m + 1 ≤ 9223372036854775807) (hc : m ≤ d) (hd : 0 < d) (hR : Row cs (m + 1) el) (w : World) (hb : w.heap[b]? = some (.cells cs T fr)) :
    Calls Try.prog 23 #[.slice (some ⟨b, 0, none⟩) (m + 1) (d + 1)] w fun e w' => e = .returned (E4 (sumTo el m)) ∧ Below w.heap.size w w' := by
  have hne : ((m : Int) + 1 == 0) = false := by simp; omega
  obtain ⟨c0, c1, c2, c3⟩ := hR 0 (by omega)
  have p0 := (cell_of hb 0).trans c0
  have p1 := (cell_of hb 1).trans c1
  have p2 := (cell_of hb 2).trans c2
  have p3 := (cell_of hb 3).trans c3
  have hlt := lt_of_block hb
  have HB : Hid _ := hb
  have HR : Hid _ := hR
  have HEL : Hid _ := hel
  clear c0 c1 c2 c3 hb hR hel
  obtain ⟨r, hr⟩ : ∃ r, sumTo el m = r := ⟨_, rfl⟩
  rw [hr]
  have HRES : Hid _ := hr
  clear hr
  go_enter Try.func23, Try.ntmps23
  go_wp2_with fail
  go_loopw [17] (fun i wr => ∃ k : Nat, k ≤ m ∧ i = .int .i64 k ∧ wr.heap[w.heap.size]? = some (.cells #[.int .u64 0, .int .u64 0, .int .u64 0, .int .u64 0] 30) ∧
      wr.heap[w.heap.size + 1]? = some (.cells #[.int .u64 (w0 (sumTo el k)), .int .u64 (w1 (sumTo el k)), .int .u64 (w2 (sumTo el k)), .int .u64 (w3 (sumTo el k))] 28) ∧ Below w.heap.size w wr) (fun i _ => m - (intOf i).toNat)
  case atStart =>
    refine ⟨0, by omega, rfl, ?_, ?_, ?_⟩
    · rw [heap_old _ _ (by simp)]; exact heap_new _ _
    · exact heap_new' _ _ (by simp)
    · exact ((Below.refl _ _).alloc (Nat.le_refl _) _).alloc (by simp) _
  case round =>
    obtain ⟨k, hk, rfl, Z, O, B⟩ := hrel
    have hel := HEL.out
    have ZZ : Hid _ := Z
    have OO : Hid _ := O
    have BB : Hid _ := B
    have hz1 := lt_of_block O
    have hz0 := lt_of_block Z
    obtain ⟨p0, p1, p2, p3, f0, f1, f2, f3⟩ := cells4 O
    by_cases hlt2 : k < m
    · obtain ⟨c0, c1, c2, c3⟩ := HR.out (k + 1) (by omega)
      have HBr := (B.block b hlt).trans HB.out
      obtain ⟨u, hu⟩ : ∃ u, sumTo el k + el (k + 1) = u := ⟨_, rfl⟩
      obtain ⟨t, ht⟩ : ∃ t, u % pN = t := ⟨_, rfl⟩
      have hsl := sumTo_lt hel k
      have hxl := hel (k + 1)
      have K1 := fun w => plus_any (sumTo el k) (el (k + 1)) w
      have K2 := fun w => settle_any u 0 (by rw [← hu]; unfold pN top4 at *; omega) (by omega) w
      rw [hu] at K1
      rw [red_zero, ht] at K2
      have HT : Hid (sumTo el (k + 1) = t) := by show (sumTo el k + el (k + 1)) % pN = t; rw [hu, ht]
      clear hsl hxl
      have KK1 : Hid _ := K1
      have KK2 : Hid _ := K2
      clear K1 K2 hu ht hel
      have hbr : b < wr.heap.size := lt_of_block HBr
      have hne2 : b ≠ w.heap.size + 1 := by omega
      have hne3 : b ≠ wr.heap.size := by omega
      rw [show 4 * (k + 1) = 4 + k * 4 by omega] at c0
      have q0 := (cell_of HBr (4 + k * 4)).trans c0
      rw [show 4 * (k + 1) = 4 + k * 4 by omega] at c1
      have q1 := (cell_of HBr (4 + k * 4 + 1)).trans c1
      rw [show 4 * (k + 1) = 4 + k * 4 by omega] at c2
      have q2 := (cell_of HBr (4 + k * 4 + 2)).trans c2
      rw [show 4 * (k + 1) = 4 + k * 4 by omega] at c3
      have q3 := (cell_of HBr (4 + k * 4 + 3)).trans c3
      clear c0 c1 c2 c3 HBr Z O B
      have hl' : (k : Int) < (m : Int) := by omega
      go_wp2_with fail
      refine (KK1.out _).mono ?_
      rintro e u1 ⟨rfl, hb⟩
      have Z1 := keep hb (b := w.heap.size) (by rw [heap_old _ _ (by omega)]; exact ZZ.out)
      have O1 := keep hb (b := w.heap.size + 1) (by rw [heap_old _ _ (by omega)]; exact OO.out)
      have B1 : Hid (Below w.heap.size w u1) := (BB.out.alloc BB.out.size _).trans (hb.mono (by rw [size_alloc]; omega))
      clear hb p0 p1 p2 p3 f0 f1 f2 f3 q0 q1 q2 q3 ZZ OO BB
      have ZZ : Hid _ := Z1
      have OO : Hid _ := O1
      clear Z1 O1
      go_wp2_with fail
      refine (KK2.out _).mono ?_
      rintro e u2 ⟨rfl, hb⟩
      have Z1 := keep hb ZZ.out
      have O1 := keep hb OO.out
      have B2 : Hid (Below w.heap.size w u2) := B1.out.trans (hb.mono B1.out.size)
      clear hb ZZ OO B1
      have B1 := B2
      clear B2
      have ZZ : Hid _ := Z1
      have OO : Hid _ := O1
      obtain ⟨p0, p1, p2, p3, f0, f1, f2, f3⟩ := cells4 O1
      clear Z1 O1
      go_wp2_with fail
      go_roundw
      case rel =>
        refine ⟨k + 1, by omega, by go_num, ?_, ?_, ?_⟩
        · rw [heap_set_ne _ _ (by omega), heap_set_ne _ _ (by omega), heap_set_ne _ _ (by omega), heap_set_ne _ _ (by omega)]; exact ZZ.out
        · rw [HT.out]; exact heap_set4 OO.out
        · exact (((B1.out.setCell (by simp) _).setCell (by simp) _).setCell (by simp) _).setCell (by simp) _
      case measure => simp [intOf]; omega
    · have e : k = m := by omega
      subst e
      rw [HRES.out] at p0 p1 p2 p3
      obtain ⟨q0, q1, q2, q3, g0, g1, g2, g3⟩ := cells4 Z
      clear Z O B hel
      go_wp2_with fail
      refine bodyPost_ret (v := E4 r) (by simp [results, Try.results23, go_sem, q0, q1, q2, q3]) rfl ⟨rfl, ?_⟩
      exact (((BB.out.setCell (by simp) _).setCell (by simp) _).setCell (by simp) _).setCell (by simp) _

set_option maxHeartbeats 2000000 in
theorem mul_raw (b m d : Nat) (el : Nat → Nat) (hel : ∀ i, el i < pN) (cs : Array Value) (T : TypeId) (fr : Nat × Nat) (h63 : m + 1 ≤ 9223372036854775807) (hc : m ≤ d) (hd : 0 < d) (hR : Row cs (m + 1) el) (w : World) (hb : w.heap[b]? = some (.cells cs T fr)) :
    Calls Try.prog 24 #[.slice (some ⟨b, 0, none⟩) (m + 1) (d + 1)] w fun e w' => e = .returned (E4 (prodTo el m)) ∧ Below w.heap.size w w' := by
  have hne : ((m : Int) + 1 == 0) = false := by simp; omega
  obtain ⟨c0, c1, c2, c3⟩ := hR 0 (by omega)
  have p0 := (cell_of hb 0).trans c0
  have p1 := (cell_of hb 1).trans c1
  have p2 := (cell_of hb 2).trans c2
  have p3 := (cell_of hb 3).trans c3
  have hlt := lt_of_block hb
  have HB : Hid _ := hb
  have HR : Hid _ := hR
  have HEL : Hid _ := hel
  clear c0 c1 c2 c3 hb hR hel
  obtain ⟨r, hr⟩ : ∃ r, prodTo el m = r := ⟨_, rfl⟩
  rw [hr]
  have HRES : Hid _ := hr
  clear hr
  go_enter Try.func24, Try.ntmps24
  go_wp2_with fail
  go_loopw [17] (fun i wr => ∃ k : Nat, k ≤ m ∧ i = .int .i64 k ∧ wr.heap[w.heap.size]? = some (.cells #[.int .u64 0, .int .u64 0, .int .u64 0, .int .u64 0] 30) ∧
      wr.heap[w.heap.size + 1]? = some (.cells #[.int .u64 (w0 (prodTo el k)), .int .u64 (w1 (prodTo el k)), .int .u64 (w2 (prodTo el k)), .int .u64 (w3 (prodTo el k))] 28) ∧ Below w.heap.size w wr) (fun i _ => m - (intOf i).toNat)
  case atStart =>
    refine ⟨0, by omega, rfl, ?_, ?_, ?_⟩
    · rw [heap_old _ _ (by simp)]; exact heap_new _ _
    · exact heap_new' _ _ (by simp)
    · exact ((Below.refl _ _).alloc (Nat.le_refl _) _).alloc (by simp) _
  case round =>
    obtain ⟨k, hk, rfl, Z, O, B⟩ := hrel
    have hel := HEL.out
    have ZZ : Hid _ := Z
    have OO : Hid _ := O
    have BB : Hid _ := B
    have hz1 := lt_of_block O
    have hz0 := lt_of_block Z
    obtain ⟨p0, p1, p2, p3, f0, f1, f2, f3⟩ := cells4 O
    by_cases hlt2 : k < m
    · obtain ⟨c0, c1, c2, c3⟩ := HR.out (k + 1) (by omega)
      have HBr := (B.block b hlt).trans HB.out
      obtain ⟨t, ht⟩ : ∃ t, prodTo el k * el (k + 1) % pN = t := ⟨_, rfl⟩
      have hsl := prodTo_lt hel k
      have hxl := hel (k + 1)
      have K1 := fun w => product_any (prodTo el k) (el (k + 1)) (Nat.lt_trans hsl pN_top) (Nat.lt_trans hxl pN_top) w
      rw [ht] at K1
      have HT : Hid (prodTo el (k + 1) = t) := ht
      clear hsl hxl
      have KK1 : Hid _ := K1
      
      clear K1  ht hel
      have hbr : b < wr.heap.size := lt_of_block HBr
      have hne2 : b ≠ w.heap.size + 1 := by omega
      have hne3 : b ≠ wr.heap.size := by omega
      rw [show 4 * (k + 1) = 4 + k * 4 by omega] at c0
      have q0 := (cell_of HBr (4 + k * 4)).trans c0
      rw [show 4 * (k + 1) = 4 + k * 4 by omega] at c1
      have q1 := (cell_of HBr (4 + k * 4 + 1)).trans c1
      rw [show 4 * (k + 1) = 4 + k * 4 by omega] at c2
      have q2 := (cell_of HBr (4 + k * 4 + 2)).trans c2
      rw [show 4 * (k + 1) = 4 + k * 4 by omega] at c3
      have q3 := (cell_of HBr (4 + k * 4 + 3)).trans c3
      clear c0 c1 c2 c3 HBr Z O B
      have hl' : (k : Int) < (m : Int) := by omega
      go_wp2_with fail
      refine (KK1.out _).mono ?_
      rintro e u1 ⟨rfl, hb⟩
      have Z1 := keep hb (b := w.heap.size) (by rw [heap_old _ _ (by omega)]; exact ZZ.out)
      have O1 := keep hb (b := w.heap.size + 1) (by rw [heap_old _ _ (by omega)]; exact OO.out)
      have B1 : Hid (Below w.heap.size w u1) := (BB.out.alloc BB.out.size _).trans (hb.mono (by rw [size_alloc]; omega))
      clear hb p0 p1 p2 p3 f0 f1 f2 f3 q0 q1 q2 q3 ZZ OO BB
      have ZZ : Hid _ := Z1
      have OO : Hid _ := O1
      obtain ⟨p0, p1, p2, p3, f0, f1, f2, f3⟩ := cells4 O1
      clear Z1 O1
      go_wp2_with fail
      go_roundw
      case rel =>
        refine ⟨k + 1, by omega, by go_num, ?_, ?_, ?_⟩
        · rw [heap_set_ne _ _ (by omega), heap_set_ne _ _ (by omega), heap_set_ne _ _ (by omega), heap_set_ne _ _ (by omega)]; exact ZZ.out
        · rw [HT.out]; exact heap_set4 OO.out
        · exact (((B1.out.setCell (by simp) _).setCell (by simp) _).setCell (by simp) _).setCell (by simp) _
      case measure => simp [intOf]; omega
    · have e : k = m := by omega
      subst e
      rw [HRES.out] at p0 p1 p2 p3
      obtain ⟨q0, q1, q2, q3, g0, g1, g2, g3⟩ := cells4 Z
      clear Z O B hel
      go_wp2_with fail
      refine bodyPost_ret (v := E4 r) (by simp [results, Try.results24, go_sem, q0, q1, q2, q3]) rfl ⟨rfl, ?_⟩
      exact (((BB.out.setCell (by simp) _).setCell (by simp) _).setCell (by simp) _).setCell (by simp) _

end Go.Proofs.Ytpgmaidbemndnaa
