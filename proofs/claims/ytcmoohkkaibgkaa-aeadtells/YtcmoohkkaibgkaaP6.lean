/- The statements of layer 4: wakes. -/
import Derived.Test.YtcmoohkkaibgkaaP5
import Derived.Test.YtcmoohkkaibgkaaEvG
namespace Go.Proofs.Ytcmoohkkaibgkaa
open Go.RowKit

theorem parts1 (X : List Nat) : ∀ j, j < [X].length → (#[.string (bs X)] : Array Value)[j]? = some (.string (bs ([X].getD j []))) := fun j h => by
  obtain rfl : j = 0 := by simpa using h
  rfl
theorem parts3 (X Y Z : List Nat) : ∀ j, j < [X, Y, Z].length → (#[.string (bs X), .string (bs Y), .string (bs Z)] : Array Value)[j]? = some (.string (bs ([X, Y, Z].getD j []))) := fun j h => by
  have : j = 0 ∨ j = 1 ∨ j = 2 := by simp at h; omega
  rcases this with rfl | rfl | rfl <;> rfl
theorem lt1 {X : List Nat} (h : ∀ i, X.getD i 0 < 256) : ∀ Y ∈ [X], ∀ i, Y.getD i 0 < 256 := fun Y hY => by
  obtain rfl : Y = X := by simpa using hY
  exact h
theorem lt3 {X Y Z : List Nat} (h : ∀ i, X.getD i 0 < 256) (h2 : ∀ i, Y.getD i 0 < 256) (h3 : ∀ i, Z.getD i 0 < 256) : ∀ V ∈ [X, Y, Z], ∀ i, V.getD i 0 < 256 := fun V hV => by
  simp only [List.mem_cons, List.not_mem_nil, or_false] at hV
  rcases hV with rfl | rfl | rfl <;> assumption
theorem lit_lt {X : List Nat} (h : X.all (fun x => Nat.blt x 256) = true) (i : Nat) : X.getD i 0 < 256 := (bytes_of (n := X.length) rfl (by
  rw [List.all_eq_true] at h ⊢
  intro x hx
  have := h x hx
  simp [Nat.blt] at this ⊢
  omega)).lt i
theorem sum1 {K X : List Nat} {L : Blks} {b : Nat} {T : TypeId} (hK : Bytes 32 K) (hX : ∀ i, X.getD i 0 < 256) (i : Nat) (h : L[i]? = some (b, .cells #[.string (bs X)] T)) : CallP Try.prog 18 [.agg (cn .u8 K), .slice (some ⟨b, 0, none⟩) 1 1] L (.agg (cn .u8 (polyN K X))) :=
  ⟨ent10, fun w H => by
    have := sum_any K hK [X] (lt1 hX) (by simp) b 1 T (0, 0) _ (parts1 X) w (H i _ h)
    rwa [show [X].flatten = X by simp] at this⟩
theorem sum3 {K A B C X : List Nat} {L : Blks} {b : Nat} {T : TypeId} (hK : Bytes 32 K) (hA : ∀ i, A.getD i 0 < 256) (hB : ∀ i, B.getD i 0 < 256) (hC : ∀ i, C.getD i 0 < 256) (hX : A ++ B ++ C = X) (i : Nat) (h : L[i]? = some (b, .cells #[.string (bs A), .string (bs B), .string (bs C)] T)) : CallP Try.prog 18 [.agg (cn .u8 K), .slice (some ⟨b, 0, none⟩) 3 3] L (.agg (cn .u8 (polyN K X))) :=
  ⟨ent10, fun w H => by
    have := sum_any K hK [A, B, C] (lt3 hA hB hC) (by simp) b 3 T (0, 0) _ (parts3 A B C) w (H i _ h)
    rwa [show [A, B, C].flatten = X by simp [← hX]] at this⟩
end Go.Proofs.Ytcmoohkkaibgkaa
