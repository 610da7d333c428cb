/- Rows of integers in memory, told by lists of numbers; strings likewise. -/
import Derived.Test.YtkpindnekaijfaaDoorMem
import Derived.Test.YtkpindnekaijfaaDoorLst
import Derived.Test.YtkpindnekaijfaaDoorEq
namespace Go.Proofs.YtkpindnekaijfaaDoor
open Go.RowKit

/-- A row of integers of one kind. -/
def cn (k : IntKind) (l : List Nat) : Array Value := (l.map fun (x : Nat) => Value.int k (x : Int)).toArray
theorem cn_size (k : IntKind) (l : List Nat) : (cn k l).size = l.length := by simp [cn]
theorem cn_get (k : IntKind) (l : List Nat) (i : Nat) (h : i < l.length) : (cn k l)[i]? = some (.int k (l.getD i 0 : Nat)) := by simp [cn, h]
theorem cn_set (k : IntKind) (l : List Nat) (i x : Nat) : (cn k l).setIfInBounds i (.int k (x : Nat)) = cn k (l.set i x) := by
  simp [cn, List.map_set]
theorem cn_one (k : IntKind) (l : List Nat) : (cn k l).all (·.oneCell') = true := by
  unfold cn
  exact all_oneCell_toArray (by simp [Value.oneCell'])
theorem cn_ints (k : IntKind) (l : List Nat) : cn k l = intCells k (l.map fun (n : Nat) => (n : Int)) := by
  simp [cn, intCells]
theorem cell_cn {u : World} {b : Nat} {k : IntKind} {l : List Nat} {T : TypeId} {fr : Nat × Nat} (h : u.heap[b]? = some (.cells (cn k l) T fr)) (i : Nat) (hi : i < l.length) : u.cell? ⟨b, i, none⟩ = some (.int k (l.getD i 0 : Nat)) := by
  rw [cell_of h, cn_get k l i hi]
theorem heap_cn {u : World} {b : Nat} {k : IntKind} {l : List Nat} {T : TypeId} {fr : Nat × Nat} (h : u.heap[b]? = some (.cells (cn k l) T fr)) (i x : Nat) : (u.setCell ⟨b, i, none⟩ (.int k (x : Nat))).heap[b]? = some (.cells (cn k (l.set i x)) T fr) := by
  rw [heap_set h, cn_set]
/-- One place of a row that is known is stored. -/
theorem Mem.putN {w0 w : World} {L : List (Nat × Obj)} (M : Mem w0.heap.size w0 w L) (i : Nat) {b : Nat} {k : IntKind} {l : List Nat} {T : TypeId} (o x : Nat) (h : L[i]? = some (b, .cells (cn k l) T)) : Mem w0.heap.size w0 (w.setCell ⟨b, o, none⟩ (.int k (x : Nat))) (L.set i (b, .cells (cn k (l.set o x)) T)) := by
  have := M.put i o (.int k (x : Nat)) h
  rwa [cn_set] at this

/-- The bytes of a string, and the string of bytes. -/
def nl (s : ByteArray) : List Nat := s.data.toList.map (·.toNat)
def bs (l : List Nat) : ByteArray := ⟨(l.map (UInt8.ofNat ·)).toArray⟩
theorem nl_len (s : ByteArray) : (nl s).length = s.size := by simp [nl]
theorem bs_size (l : List Nat) : (bs l).size = l.length := by simp [bs, ByteArray.size]
theorem nl_get (s : ByteArray) (i : Nat) (h : i < s.size) : (nl s).getD i 0 = (s[i]).toNat := by
  have h' : i < s.data.toList.length := by simpa using h
  simp only [nl, List.getD_eq_getElem?_getD, List.getElem?_map, List.getElem?_eq_getElem h', Option.map_some, Option.getD_some]
  rfl
theorem nl_lt (s : ByteArray) (i : Nat) : (nl s).getD i 0 < 256 := by
  rcases Nat.lt_or_ge i s.size with h | h
  · rw [nl_get s i h]; exact UInt8.toNat_lt _
  · rw [List.getD_eq_getElem?_getD, List.getElem?_eq_none (by rw [nl_len]; exact h)]; decide
theorem bs_nl (s : ByteArray) : bs (nl s) = s := by
  cases s with
  | mk d => simp [bs, nl, Function.comp_def]
theorem nl_bs (l : List Nat) (h : ∀ i, l.getD i 0 < 256) : nl (bs l) = l := by
  simp only [nl, bs, List.map_map]
  refine ext_getD (by simp) fun i hi => ?_
  simp only [List.length_map] at hi
  have := h i
  simp only [List.getD_eq_getElem?_getD, List.getElem?_map, List.getElem?_eq_getElem hi, Option.map_some, Option.getD_some, Function.comp] at this ⊢
  simp [UInt8.toNat_ofNat', Nat.mod_eq_of_lt this]
theorem bs_app (a b : List Nat) : bs a ++ bs b = bs (a ++ b) := by
  apply ByteArray.ext
  simp [bs, ByteArray.data_append]
theorem bs_inj {a b : List Nat} (ha : ∀ i, a.getD i 0 < 256) (hb : ∀ i, b.getD i 0 < 256) (h : bs a = bs b) : a = b := by
  rw [← nl_bs a ha, h, nl_bs b hb]
end Go.Proofs.YtkpindnekaijfaaDoor
