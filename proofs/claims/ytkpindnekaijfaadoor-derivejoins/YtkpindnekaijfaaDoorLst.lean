/- Lists of numbers, by place; bytes. No program in this text. -/
namespace Go.Proofs.YtkpindnekaijfaaDoor

theorem getD_set (l : List Nat) (i x j : Nat) : (l.set i x).getD j 0 = if i = j ∧ i < l.length then x else l.getD j 0 := by
  simp only [List.getD_eq_getElem?_getD, List.getElem?_set]
  by_cases h : i = j
  · subst h
    by_cases h2 : i < l.length <;> simp [h2]
  · simp [h]
theorem ext_getD {a b : List Nat} (hl : a.length = b.length) (h : ∀ i, i < a.length → a.getD i 0 = b.getD i 0) : a = b := by
  refine List.ext_getElem hl fun i h1 h2 => ?_
  have := h i h1
  simpa [h1, h2] using this
theorem getD_app_l (a b : List Nat) (i : Nat) (h : i < a.length) : (a ++ b).getD i 0 = a.getD i 0 := by
  simp [List.getElem?_append_left h]
theorem getD_app_r (a b : List Nat) (i : Nat) (h : a.length ≤ i) : (a ++ b).getD i 0 = b.getD (i - a.length) 0 := by
  simp [List.getElem?_append_right h]
structure Bytes (n : Nat) (l : List Nat) : Prop where
  len : l.length = n
  lt : ∀ i, l.getD i 0 < 256
theorem bytes_of {n : Nat} {l : List Nat} (h : l.length = n) (h2 : l.all (fun x => decide (x < 256)) = true) : Bytes n l := by
  refine ⟨h, fun i => ?_⟩
  rw [List.getD_eq_getElem?_getD]
  cases e : l[i]? with
  | none => decide
  | some x => simpa using List.all_eq_true.1 h2 x (List.mem_of_getElem? e)
theorem cut_lt (t : List Nat) (ht : ∀ i, t.getD i 0 < 256) (m k i : Nat) : ((t.take m).drop k).getD i 0 < 256 := by
  simp only [List.getD_eq_getElem?_getD, List.getElem?_drop, List.getElem?_take]
  split
  · have := ht (k + i); rwa [List.getD_eq_getElem?_getD] at this
  · decide
theorem pad_lt (X : List Nat) (hX : ∀ i, X.getD i 0 < 256) (m : Nat) (i : Nat) : (X ++ List.replicate m 0).getD i 0 < 256 := by
  rcases Nat.lt_or_ge i X.length with h | h
  · rw [getD_app_l _ _ _ h]; exact hX i
  · rw [getD_app_r _ _ _ h, List.getD_eq_getElem?_getD, List.getElem?_replicate]
    split <;> decide
theorem xor_lt8 {a b : Nat} (ha : a < 256) (hb : b < 256) : a ^^^ b < 256 := Nat.xor_lt_two_pow (n := 8) ha hb
end Go.Proofs.YtkpindnekaijfaaDoor
