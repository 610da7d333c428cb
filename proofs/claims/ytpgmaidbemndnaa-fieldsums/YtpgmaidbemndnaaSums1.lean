/- Add and Mul of package field, of a row that the caller has made. -/
import Derived.Test.YtpgmaidbemndnaaSums0
import Derived.Test.YtpgmaidbemndnaaKey
import Derived.Deep.AppendLies
namespace Go.Proofs.Ytpgmaidbemndnaa
open Go.RowKit

/-- The cells of the first k numbers; their sum, their product. -/
def xsTo (el : Nat → Nat) : Nat → List Value
  | 0 => []
  | k + 1 => xsTo el k ++ [.int .u64 (w0 (el k) : Nat), .int .u64 (w1 (el k) : Nat), .int .u64 (w2 (el k) : Nat), .int .u64 (w3 (el k) : Nat)]
def sTo (el : Nat → Nat) : Nat → Nat
  | 0 => 0
  | k + 1 => (sTo el k + el k) % pN
def pTo (el : Nat → Nat) : Nat → Nat
  | 0 => 1
  | k + 1 => pTo el k * el k % pN
theorem xsTo_len (el : Nat → Nat) : ∀ k, (xsTo el k).length = k * 4
  | 0 => rfl
  | k + 1 => by simp only [xsTo, List.length_append, xsTo_len el k, List.length_cons, List.length_nil]; omega
theorem xsTo_get (el : Nat → Nat) : ∀ k i, i < k → (xsTo el k)[4 * i]? = some (.int .u64 (w0 (el i) : Nat)) ∧ (xsTo el k)[4 * i + 1]? = some (.int .u64 (w1 (el i) : Nat)) ∧ (xsTo el k)[4 * i + 2]? = some (.int .u64 (w2 (el i) : Nat)) ∧ (xsTo el k)[4 * i + 3]? = some (.int .u64 (w3 (el i) : Nat))
  | k + 1, i, h => by
    have hl := xsTo_len el k
    rcases Nat.lt_or_ge i k with h' | h'
    · obtain ⟨a, b, c, d⟩ := xsTo_get el k i h'
      simp only [xsTo]
      rw [List.getElem?_append_left (by omega), List.getElem?_append_left (by omega), List.getElem?_append_left (by omega), List.getElem?_append_left (by omega)]
      exact ⟨a, b, c, d⟩
    · obtain rfl : i = k := by omega
      simp only [xsTo]
      rw [List.getElem?_append_right (by omega), List.getElem?_append_right (by omega), List.getElem?_append_right (by omega), List.getElem?_append_right (by omega)]
      rw [show 4 * i - (xsTo el i).length = 0 by omega, show 4 * i + 1 - (xsTo el i).length = 1 by omega, show 4 * i + 2 - (xsTo el i).length = 2 by omega, show 4 * i + 3 - (xsTo el i).length = 3 by omega]
      exact ⟨rfl, rfl, rfl, rfl⟩
theorem sTo_lt {el : Nat → Nat} : ∀ k, sTo el k < pN
  | 0 => (by decide : 0 < pN)
  | _ + 1 => Nat.mod_lt _ (by decide)
theorem pTo_lt {el : Nat → Nat} : ∀ k, pTo el k < pN
  | 0 => (by decide : 1 < pN)
  | _ + 1 => Nat.mod_lt _ (by decide)
theorem sum_s {el : Nat → Nat} (h : ∀ i, el i < pN) : ∀ m, sumTo el m = sTo el (m + 1)
  | 0 => by show el 0 = (0 + el 0) % pN; rw [Nat.zero_add, Nat.mod_eq_of_lt (h 0)]
  | m + 1 => by show (sumTo el m + el (m + 1)) % pN = (sTo el (m + 1) + el (m + 1)) % pN; rw [sum_s h m]
theorem prod_p {el : Nat → Nat} (h : ∀ i, el i < pN) : ∀ m, prodTo el m = pTo el (m + 1)
  | 0 => by show el 0 = 1 * el 0 % pN; rw [Nat.one_mul, Nat.mod_eq_of_lt (h 0)]
  | m + 1 => by show prodTo el m * el (m + 1) % pN = pTo el (m + 1) * el (m + 1) % pN; rw [prod_p h m]
theorem row_own {el : Nat → Nat} {n : Nat} {cur : Array Value} (h : cur.toList.take (n * 4) = xsTo el n) : Row cur n el := by
  intro i hi
  obtain ⟨a, b, c, d⟩ := xsTo_get el n i hi
  have key : ∀ j, j < n * 4 → cur[j]? = (xsTo el n)[j]? := fun j hj => by rw [← h, List.getElem?_take, if_pos hj, Array.getElem?_toList]
  exact ⟨(key _ (by omega)).trans a, (key _ (by omega)).trans b, (key _ (by omega)).trans c, (key _ (by omega)).trans d⟩
theorem add_own {el : Nat → Nat} (hel : ∀ i, el i < pN) {n : Nat} (hn : n ≤ 40) {base : Nat} {v : Value} {w : World} (ho : w.ownsRow base 30 4 v n (xsTo el n)) :
    Calls Try.prog 23 #[v] w fun e w' => e = .returned (E4 (sTo el n)) ∧ Below w.heap.size w w' := by
  rcases ho.2 with ⟨rfl, rfl⟩ | ⟨g, cap, cur, rfl, hb, hg, hnc, hcm, hcs, ht⟩
  · exact add_nil _ _ w
  · match n, hn, hnc, ht with
    | 0, _, _, _ => exact add_nil _ _ w
    | m + 1, hn, hnc, ht =>
      have hR := row_own ht
      rw [← sum_s hel]
      match cap, hnc with
      | 1, hnc =>
        obtain rfl : m = 0 := by omega
        obtain ⟨a, b, c, d⟩ := hR 0 (by omega)
        exact add_one g _ cur _ _ a b c d w hg
      | d + 2, hnc => exact add_raw g m (d + 1) el hel cur _ _ (by omega) (by omega) (by omega) hR w hg
theorem mul_own {el : Nat → Nat} (hel : ∀ i, el i < pN) {n : Nat} (hn : n ≤ 40) {base : Nat} {v : Value} {w : World} (ho : w.ownsRow base 30 4 v n (xsTo el n)) :
    Calls Try.prog 24 #[v] w fun e w' => e = .returned (E4 (pTo el n)) ∧ Below w.heap.size w w' := by
  rcases ho.2 with ⟨rfl, rfl⟩ | ⟨g, cap, cur, rfl, hb, hg, hnc, hcm, hcs, ht⟩
  · exact mul_nil _ _ w
  · match n, hn, hnc, ht with
    | 0, _, _, _ => exact mul_nil _ _ w
    | m + 1, hn, hnc, ht =>
      have hR := row_own ht
      rw [← prod_p hel]
      match cap, hnc with
      | 1, hnc =>
        obtain rfl : m = 0 := by omega
        obtain ⟨a, b, c, d⟩ := hR 0 (by omega)
        exact mul_one g _ cur _ _ a b c d w hg
      | d + 2, hnc => exact mul_raw g m (d + 1) el hel cur _ _ (by omega) (by omega) (by omega) hR w hg
/-- What the call owns stands behind another call. -/
theorem own_keep {w w' : World} {base : Nat} {v : Value} {n : Nat} {xs : List Value} (ho : w.ownsRow base 30 4 v n xs) (hb : Below w.heap.size w w') : w'.ownsRow base 30 4 v n xs := by
  refine ⟨ho.1, ?_⟩
  rcases ho.2 with h | ⟨g, cap, cur, hv, hbg, hg, hr⟩
  · exact .inl h
  · exact .inr ⟨g, cap, cur, hv, hbg, keep hb hg, hr⟩
theorem Mem.grown {w0 w w' : World} {l : List (Nat × Obj)} {row : Option Nat} (M : Mem w0.heap.size w0 w l) (hg : w.grownBy w' row) (hr : ∀ k, row = some k → w0.heap.size ≤ k ∧ ∀ (i : Nat) (x : Nat × Obj), l[i]? = some x → x.1 ≠ k) : Mem w0.heap.size w0 w' l := by
  have hb : ∀ k, k < w.heap.size → some k ≠ row → w'.heap[k]? = w.heap[k]? := hg.block
  refine ⟨⟨hg.os.trans M.below.os, hg.tape.trans M.below.tape, hg.output.trans M.below.output, Nat.le_trans M.below.size hg.size, fun k hk => ?_⟩, fun i x hx => ?_, M.apart, M.base⟩
  · exact (hb k (Nat.lt_of_lt_of_le hk M.below.size) (fun e => by have := (hr k e.symm).1; omega)).trans (M.below.block k hk)
  · exact (hb x.1 (lt_of_block (M.has i x hx)) (fun e => (hr x.1 e.symm).2 i x hx rfl)).trans (M.has i x hx)
end Go.Proofs.Ytpgmaidbemndnaa
