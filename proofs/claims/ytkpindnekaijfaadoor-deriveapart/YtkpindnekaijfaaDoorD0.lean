/- Numbers of layer 7: bytes of numbers, packs. No program in this text. -/
import Derived.Test.YtkpindnekaijfaaDoorS5
namespace Go.Proofs.YtkpindnekaijfaaDoor
open Go.RowKit

/-- Byte i of a number, the lowest first. -/
def leF (n i : Nat) : Nat := n / 2 ^ (8 * i) % 256
theorem leF_lt (n i : Nat) : leF n i < 256 := Nat.mod_lt _ (by decide)
/-- A number's k lowest bytes, the lowest first. -/
def leN (k n : Nat) : List Nat := genL k (leF n) k
theorem leN_len (k n : Nat) : (leN k n).length = k := genL_len _ _ _
theorem leN_lt (k n : Nat) (i : Nat) : (leN k n).getD i 0 < 256 := genL_lt (by decide) (leF_lt n) k i
theorem leN_map (k n : Nat) : leN k n = (List.range k).map (leF n) := by
  refine List.ext_getElem (by simp [leN, genL]) fun i h1 h2 => ?_
  have : i < k := by simpa [leN, genL] using h1
  simp [leN, genL, this]
theorem leN4 (n : Nat) : [n % 256, n / 256 % 256, n / 65536 % 256, n / 16777216 % 256] = leN 4 n := by
  rw [leN_map]
  simp [List.range_succ, leF]
/-- Parts, each with its length ahead of it. -/
def packN : List (List Nat) → List Nat
  | [] => []
  | X :: r => leN 4 X.length ++ X ++ packN r
theorem packN_app : ∀ (Ps Qs : List (List Nat)), packN (Ps ++ Qs) = packN Ps ++ packN Qs
  | [], _ => rfl
  | X :: r, Qs => by rw [List.cons_append, packN, packN, packN_app r Qs]; simp only [List.append_assoc]
theorem packN_take (Ps : List (List Nat)) (i : Nat) (h : i < Ps.length) : packN (Ps.take (i + 1)) = packN (Ps.take i) ++ leN 4 (Ps.getD i []).length ++ Ps.getD i [] := by
  rw [List.take_add_one, packN_app, List.getElem?_eq_getElem h]
  simp [packN, List.getD_eq_getElem?_getD, List.getElem?_eq_getElem h]
theorem packN_len : ∀ Ps : List (List Nat), (packN Ps).length = 4 * Ps.length + Ps.flatten.length
  | [] => rfl
  | X :: r => by simp only [packN, List.length_append, leN_len, packN_len r, List.length_cons, List.flatten_cons]; omega
theorem packN_lt : ∀ {Ps : List (List Nat)}, (∀ X ∈ Ps, ∀ i, X.getD i 0 < 256) → ∀ i, (packN Ps).getD i 0 < 256
  | [], _, i => by simp [packN]
  | X :: r, h, i => app_lt (app_lt (leN_lt 4 _) (h X (by simp))) (packN_lt fun Y hY => h Y (by simp [hY])) i
theorem packN_le (Ps : List (List Nat)) (i : Nat) : (packN (Ps.take i)).length ≤ (packN Ps).length := by
  have := flat_le Ps i
  rw [packN_len, packN_len, List.length_take]
  omega
theorem getD_lt {Ps : List (List Nat)} (hP : ∀ X ∈ Ps, ∀ i, X.getD i 0 < 256) {j : Nat} (h : j < Ps.length) : ∀ i, (Ps.getD j []).getD i 0 < 256 := hP _ (by rw [List.getD_eq_getElem?_getD, List.getElem?_eq_getElem h]; exact List.getElem_mem h)
theorem pack1_lt {X : List Nat} (h : ∀ i, X.getD i 0 < 256) : ∀ i, (packN [X]).getD i 0 < 256 := packN_lt (lt1 h)
theorem flat2 (A B : List Nat) : [A, B].flatten = A ++ B := by simp
theorem lt2 {A B : List Nat} (h1 : ∀ i, A.getD i 0 < 256) (h2 : ∀ i, B.getD i 0 < 256) : ∀ V ∈ [A, B], ∀ i, V.getD i 0 < 256 := fun V hV => by
  simp only [List.mem_cons, List.not_mem_nil, or_false] at hV
  rcases hV with rfl | rfl <;> assumption
theorem at1s (X : List Nat) : ∀ j, j < [X].length → (#[.string (bs X)] : Array Value)[0 + j]? = some (.string (bs ([X].getD j []))) := fun j h => by rw [Nat.zero_add]; exact parts1 X j h
theorem at2s (A B : List Nat) : ∀ j, j < [A, B].length → (#[.string (bs A), .string (bs B)] : Array Value)[0 + j]? = some (.string (bs ([A, B].getD j []))) := fun j h => by
  have : j = 0 ∨ j = 1 := by simp at h; omega
  rcases this with rfl | rfl <;> rfl

end Go.Proofs.YtkpindnekaijfaaDoor
