/- Numbers of layer 5: texts, sealed. -/
import Derived.Test.YtcmoohkkaibgkaaP9n
import Derived.Test.YtcmoohkkaibgkaaP7n
import Derived.Test.YtcmoohkkaibgkaaP5
import Derived.Test.YtcmoohkkaibgkaaNum
namespace Go.Proofs.Ytcmoohkkaibgkaa
open Go.RowKit

/-- The noughts that are missing to a multiple of 16. -/
def missN (X : List Nat) : List Nat := List.replicate ((16 - X.length % 16) % 16) 0
theorem missN_lt (X : List Nat) (i : Nat) : (missN X).getD i 0 < 256 := rep0_lt (by decide) i
theorem missN_len (X : List Nat) : (missN X).length < 16 := by rw [missN, List.length_replicate]; omega
def tagT (E C : List Nat) : List Nat := E ++ missN E ++ (C ++ missN C) ++ leB 8 E.length ++ leB 8 C.length
theorem tagT_flat (E C : List Nat) : [E, missN E, C, missN C, leB 8 E.length, leB 8 C.length].flatten = tagT E C := by simp [tagT]
theorem tagT_lt {E C : List Nat} (hE : ∀ i, E.getD i 0 < 256) (hC : ∀ i, C.getD i 0 < 256) (i : Nat) : (tagT E C).getD i 0 < 256 :=
  app_lt (app_lt (app_lt (app_lt hE (missN_lt E)) (app_lt hC (missN_lt C))) (leB_lt 8 _)) (leB_lt 8 _) i
theorem tagT_len (E C : List Nat) : (tagT E C).length ≤ E.length + C.length + 46 := by
  have h1 := missN_len E
  have h2 := missN_len C
  simp only [tagT, List.length_append, leB_len]; omega
/-- The key that a tag is made with. -/
def onceN (K N : List Nat) : List Nat := (blockN K 0 N).take 32
theorem onceN_bytes (K N : List Nat) : Bytes 32 (onceN K N) := ⟨by simp [onceN, blockN, blockW_len], fun i => take_lt (blockW_lt _) i⟩
def tagA (K N E C : List Nat) : List Nat := polyN (onceN K N) (tagT E C)
theorem tagA_len (K N E C : List Nat) : (tagA K N E C).length = 16 := tagTo_len _ _
theorem tagA_lt (K N E C : List Nat) (i : Nat) : (tagA K N E C).getD i 0 < 256 := by rw [tagA, poly_leB]; exact leB_lt 16 _ i
/-- Sealed. -/
def sealN (K N E X : List Nat) : List Nat := maskN K 1 N X ++ tagA K N E (maskN K 1 N X)
theorem sealN_len (K N E X : List Nat) : (sealN K N E X).length = X.length + 16 := by simp [sealN, maskN_len, tagA_len]
theorem sealN_lt (K N E : List Nat) {X : List Nat} (hX : ∀ i, X.getD i 0 < 256) (i : Nat) : (sealN K N E X).getD i 0 < 256 := app_lt (maskN_lt K 1 N X hX) (tagA_lt K N E _) i
/-- What opens, and to what. -/
def opensN (K N E Z : List Nat) : Prop := 16 ≤ Z.length ∧ Z.drop (Z.length - 16) = tagA K N E (Z.take (Z.length - 16))
def plainN (K N Z : List Nat) : List Nat := maskN K 1 N (Z.take (Z.length - 16))
theorem plainN_lt (K N : List Nat) {Z : List Nat} (hZ : ∀ i, Z.getD i 0 < 256) (i : Nat) : (plainN K N Z).getD i 0 < 256 := maskN_lt K 1 N _ (take_lt hZ) i
theorem plainN_len (K N Z : List Nat) : (plainN K N Z).length = Z.length - 16 := by simp [plainN, maskN_len]
theorem seal_opens (K N E X : List Nat) : opensN K N E (sealN K N E X) ∧ plainN K N (sealN K N E X) = X := by
  have h1 : (sealN K N E X).length - 16 = (maskN K 1 N X).length := by rw [sealN_len, maskN_len]; omega
  refine ⟨⟨by rw [sealN_len]; omega, ?_⟩, ?_⟩
  · rw [h1, sealN, List.drop_left, List.take_left]
  · rw [plainN, h1, sealN, List.take_left, maskN_twice]
theorem opens_seal {K N E Z : List Nat} (h : opensN K N E Z) : sealN K N E (plainN K N Z) = Z := by
  rw [sealN, plainN, maskN_twice, ← h.2, List.take_append_drop]
theorem opens_cut {K N E Z : List Nat} {n : Nat} (hn : 16 ≤ Z.length) (e : n = Z.length - 16) : opensN K N E Z ↔ Z.drop n = tagA K N E (Z.take n) := by
  subst e
  exact ⟨fun h => h.2, fun h => ⟨hn, h⟩⟩
theorem seal_inj {K N E X Y : List Nat} (h : sealN K N E X = sealN K N E Y) : X = Y := by
  rw [← (seal_opens K N E X).2, h, (seal_opens K N E Y).2]
theorem noughts_cut {k : Nat} (h : k ≤ 15) : (([0, 0, 0, 0, 0, 0, 0, 0, 0, 0, 0, 0, 0, 0, 0] : List Nat).take k).drop 0 = List.replicate k 0 := by
  rw [List.drop_zero, show ([0, 0, 0, 0, 0, 0, 0, 0, 0, 0, 0, 0, 0, 0, 0] : List Nat) = List.replicate 15 0 from rfl, List.take_replicate, Nat.min_eq_left h]
theorem gen_leB8 (n v : Nat) : genL n (fun i => v / 256 ^ i % 256) n = leB n v := by
  refine ext_getD (by rw [genL_len, leB_len]) fun i hi => ?_
  rw [genL_len] at hi
  rw [genL_get _ _ _ hi, if_pos hi, leB_get hi]
theorem leB_more (n v : Nat) : leB (n + 1) v = leB n v ++ [v / 256 ^ n % 256] := by simp [leB, List.range_succ]

end Go.Proofs.Ytcmoohkkaibgkaa
