/- Several texts in one: What is taken from a tape, what is drawn. No program in this text. Orders, inverses, shuffles. No program in this text. Package tape: what is taken. Package tape: numbers below another one. The document's tape: what is taken. Rows held against each other; is a row an order? -/
import Derived.Test.YtdckihmiggcpfaaZ2
namespace Go.Proofs.Ytdckihmiggcpfaa
open Go.RowKit
theorem rep_get (n k : Nat) : (List.replicate n 0).getD k 0 = 0 := by rw [List.getD_eq_getElem?_getD, List.getElem?_replicate]; split <;> rfl
theorem one_has {w : World} {g : Nat} {ob : Obj} (h : w.heap[g]? = some ob) : Has w [(g, ob)] := fun i x hx => by
  cases i with
  | zero => simp at hx; subst hx; exact h
  | succ i => simp at hx
theorem MemS.fresh {w0 w : World} {L : Blks} {R : List Row} (M : MemS (fun k => k < w0.heap.size) w0 w L R) (i : Nat) {b : Nat} {ob : Obj} (h : L[i]? = some (b, ob)) : w0.heap.size ≤ b := Nat.le_of_not_lt (M.base i _ h)
/-- The next n bytes of a tape: its own, then noughts. -/
def takN (n : Nat) (X : List Nat) : List Nat := X.take n ++ List.replicate (n - X.length) 0
theorem takN_len (n : Nat) (X : List Nat) : (takN n X).length = n := by simp [takN]; omega
theorem dropD (X : List Nat) (k i : Nat) : (X.drop k).getD i 0 = X.getD (k + i) 0 := by simp [List.getD_eq_getElem?_getD]
theorem takN_get {n i : Nat} (X : List Nat) (h : i < n) : (takN n X).getD i 0 = X.getD i 0 := by
  rw [takN]
  rcases Nat.lt_or_ge i X.length with h1 | h1
  · rw [getD_app_l _ _ _ (by simp; omega), List.getD_eq_getElem?_getD, List.getElem?_take, if_pos h, List.getD_eq_getElem?_getD]
  · rw [getD_app_r _ _ _ (by simp; omega), rep_get, getD_out h1]
theorem takN_lt {X : List Nat} (hX : ∀ i, X.getD i 0 < 256) (n : Nat) : ∀ i, (takN n X).getD i 0 < 256 := fun i => by
  rcases Nat.lt_or_ge i n with h | h
  · rw [takN_get X h]; exact hX i
  · rw [getD_out (by rw [takN_len]; exact h)]; decide
theorem dropX_min (X : List Nat) (n : Nat) : X.drop (min X.length n) = X.drop n := by
  rcases Nat.le_total X.length n with h | h
  · rw [Nat.min_eq_left h, List.drop_length, List.drop_of_length_le h]
  · rw [Nat.min_eq_right h]
theorem dropX_lt {X : List Nat} (hX : ∀ i, X.getD i 0 < 256) (n : Nat) : ∀ i, (X.drop n).getD i 0 < 256 := fun i => by rw [dropD]; exact hX _
theorem tak_cells (n : Nat) (X : List Nat) : setFrom (cn .u8 (List.replicate n 0)) 0 (bcells (X.take n)) = cn .u8 (takN n X) := by
  apply Array.ext_getElem?
  intro j
  rw [setFrom_get]
  have hb : (bcells (X.take n)).length = min n X.length := by simp [bcells]
  rcases Nat.lt_or_ge j n with h | h
  · rw [show (cn .u8 (takN n X))[j]? = some (iB (X.getD j 0)) by rw [cn_get _ _ _ (by rw [takN_len]; exact h), takN_get X h]]
    by_cases h1 : j < X.length
    · rw [if_pos ⟨Nat.zero_le _, by rw [hb]; omega, by rw [cn_size, List.length_replicate]; exact h⟩]
      simp [bcells, h, List.getD_eq_getElem?_getD, List.getElem?_eq_getElem h1]
    · rw [if_neg (fun q => by have := q.2.1; rw [hb] at this; omega), cn_get _ _ _ (by rw [List.length_replicate]; exact h), rep_get, getD_out (by omega)]
  · rw [if_neg (fun q => by have := q.2.2; rw [cn_size, List.length_replicate] at this; omega), Array.getElem?_eq_none (by rw [cn_size, List.length_replicate]; exact h), Array.getElem?_eq_none (by rw [cn_size, takN_len]; exact h)]
theorem tkI_end (n : Nat) (X : List Nat) : genL n (fun j => X.getD j 0) n = takN n X := by
  refine ext_getD (by rw [genL_len, takN_len]) fun i hi => ?_
  rw [genL_len] at hi
  rw [genL_get _ _ _ hi, if_pos hi, takN_get X hi]
theorem tk_zero {X : List Nat} {n i : Nat} (h : X.length ≤ i) (_hi : i < n) : genL n (fun j => X.getD j 0) (i + 1) = genL n (fun j => X.getD j 0) i := by
  refine ext_getD (by rw [genL_len, genL_len]) fun j hj => ?_
  rw [genL_len] at hj
  rw [genL_get _ _ _ hj, genL_get _ _ _ hj]
  by_cases e : j = i
  · subst e; rw [if_pos (by omega), if_neg (by omega), getD_out h]
  · by_cases h1 : j < i
    · rw [if_pos (by omega), if_pos h1]
    · rw [if_neg (by omega), if_neg h1]
/-- Two bytes as a number. -/
def twoN (X : List Nat) : Nat := X.getD 0 0 + 256 * X.getD 1 0
theorem two_lt {X : List Nat} (hX : ∀ i, X.getD i 0 < 256) : twoN X < 65536 := by have := hX 0; have := hX 1; unfold twoN; omega
theorem two_or {X : List Nat} (hX : ∀ i, X.getD i 0 < 256) : (takN 2 X).getD 0 0 ||| (takN 2 X).getD 1 0 * 256 = twoN X := by
  rw [takN_get X (by decide), takN_get X (by decide)]
  have h := or_shl (a := X.getD 0 0) (b := X.getD 1 0) 8 (hX 0)
  rw [show (2 : Nat) ^ 8 = 256 by rfl] at h
  rw [h, twoN]; omega
/-- What is drawn below n by k tries: the answer, the refusal, how many bytes. -/
def belN (n : Nat) : Nat → List Nat → Nat × Nat × Nat
  | 0, _ => (0, 3, 0)
  | k + 1, X => if twoN X < 65536 - 65536 % n then (twoN X % n, 0, 2) else ((belN n k (X.drop 2)).1, (belN n k (X.drop 2)).2.1, 2 + (belN n k (X.drop 2)).2.2)
/-- .. behind i tries that were none. -/
def BelI (n k : Nat) (X : List Nat) (i : Nat) : Prop := belN n k X = ((belN n (k - i) (X.drop (2 * i))).1, (belN n (k - i) (X.drop (2 * i))).2.1, 2 * i + (belN n (k - i) (X.drop (2 * i))).2.2)
theorem bel_start (n k : Nat) (X : List Nat) : BelI n k X 0 := by unfold BelI; simp
theorem bel_no {n k i : Nat} {X : List Nat} (h : BelI n k X i) (hi : i < k) (hv : ¬ twoN (X.drop (2 * i)) < 65536 - 65536 % n) : BelI n k X (i + 1) := by
  unfold BelI at *
  obtain ⟨m, hm⟩ : ∃ m, k - i = m + 1 := ⟨k - i - 1, by omega⟩
  rw [hm] at h
  rw [show k - (i + 1) = m by omega, h]
  simp only [belN, if_neg hv, List.drop_drop, Nat.mul_add, Nat.mul_one]
  simp only [Nat.add_assoc]
theorem bel_yes {n k i : Nat} {X : List Nat} (h : BelI n k X i) (hi : i < k) (hv : twoN (X.drop (2 * i)) < 65536 - 65536 % n) : belN n k X = (twoN (X.drop (2 * i)) % n, 0, 2 * i + 2) := by
  unfold BelI at h
  obtain ⟨m, hm⟩ : ∃ m, k - i = m + 1 := ⟨k - i - 1, by omega⟩
  rw [hm] at h
  rw [h]
  simp only [belN, if_pos hv]
theorem bel_end {n k : Nat} {X : List Nat} (h : BelI n k X k) : belN n k X = (0, 3, 2 * k) := by
  unfold BelI at h
  rw [h, Nat.sub_self]
  rfl
theorem bel_bd (n : Nat) : ∀ (k : Nat) (X : List Nat), (belN n k X).2.2 ≤ 2 * k
  | 0, _ => Nat.le_refl _
  | k + 1, X => by
    have := bel_bd n k (X.drop 2)
    simp only [belN]
    split <;> simp only <;> omega
end Go.Proofs.Ytdckihmiggcpfaa
namespace Go.Proofs.Ytdckihmiggcpfaa
open Go.RowKit
/-- f has each number below n, once. -/
def IsOrd (n : Nat) (f : Nat → Nat) : Prop := (∀ i, i < n → f i < n) ∧ ∀ i j, i < n → j < n → f i = f j → i = j
def OrdZ (n : Nat) (F : Nat → Int) : Prop := ∀ i, i < n → (0 ≤ F i ∧ F i < n) ∧ ∀ j, j < i → F j ≠ F i
/-- Is k among the first i? -/
def seenN (F : Nat → Int) : Nat → Nat → Nat
  | 0, _ => 0
  | i + 1, k => if F i = (k : Int) then 1 else seenN F i k
theorem seen_cases (F : Nat → Int) : ∀ i k, (seenN F i k = 1 ∧ ∃ j, j < i ∧ F j = (k : Int)) ∨ (seenN F i k = 0 ∧ ∀ j, j < i → F j ≠ (k : Int))
  | 0, k => .inr ⟨rfl, fun j hj => absurd hj (Nat.not_lt_zero _)⟩
  | i + 1, k => by
    by_cases h : F i = (k : Int)
    · exact .inl ⟨by rw [seenN, if_pos h], i, Nat.lt_succ_self _, h⟩
    · rcases seen_cases F i k with ⟨h1, j, h2, h3⟩ | ⟨h1, h2⟩
      · exact .inl ⟨by rw [seenN, if_neg h, h1], j, by omega, h3⟩
      · refine .inr ⟨by rw [seenN, if_neg h, h1], fun j hj => ?_⟩
        rcases Nat.lt_or_ge j i with q | q
        · exact h2 j q
        · rw [show j = i by omega]; exact h
theorem seen_set {F : Nat → Int} {i m : Nat} (h : F i = (m : Int)) (k : Nat) : (if k = m then 1 else seenN F i k) = seenN F (i + 1) k := by
  rw [seenN, h]
  by_cases e : k = m
  · rw [if_pos e, if_pos (by rw [e])]
  · rw [if_neg e, if_neg (fun q => e (by omega))]
theorem seen_no {F : Nat → Int} {n i m : Nat} (h : F i = (m : Int)) (h1 : ¬ seenN F i m = 1) (hm : m < n) : (0 ≤ F i ∧ F i < n) ∧ ∀ j, j < i → F j ≠ F i := by
  rcases seen_cases F i m with ⟨q, _⟩ | ⟨_, q⟩
  · exact (h1 q).elim
  · exact ⟨by omega, fun j hj e => q j hj (e.trans h)⟩
theorem seen_yes {F : Nat → Int} {n i m : Nat} (h : F i = (m : Int)) (h1 : seenN F i m = 1) (hi : i < n) : ¬ OrdZ n F := fun hO => by
  rcases seen_cases F i m with ⟨_, j, q, e⟩ | ⟨q, _⟩
  · exact (hO i hi).2 j q (e.trans h.symm)
  · omega
theorem ord_nat {n : Nat} {F : Nat → Int} (h : OrdZ n F) : ∃ f : Nat → Nat, IsOrd n f ∧ ∀ i, i < n → F i = (f i : Int) := by
  refine ⟨fun i => (F i).toNat, ⟨fun i hi => ?_, fun i j hi hj e => ?_⟩, fun i hi => ?_⟩
  · have := (h i hi).1; simp only; omega
  · have h1 := (h i hi).1
    have h2 := (h j hj).1
    simp only at e
    have h3 : F i = F j := by omega
    rcases Nat.lt_trichotomy i j with q | q | q
    · exact ((h j hj).2 i q h3).elim
    · exact q
    · exact ((h i hi).2 j q h3.symm).elim
  · have := (h i hi).1; simp only; omega
theorem ord_z {n : Nat} {f : Nat → Nat} (h : IsOrd n f) : OrdZ n (fun k => (f k : Int)) := fun i hi => ⟨by
  have := h.1 i hi
  show (0 : Int) ≤ (f i : Int) ∧ (f i : Int) < n
  omega, fun j hj e => by
  have e : (f j : Int) = (f i : Int) := e
  have := h.2 j i (by omega) hi (by omega)
  omega⟩
/-- Where k stands among the first i. -/
def invI (f : Nat → Nat) : Nat → Nat → Nat
  | 0, _ => 0
  | i + 1, k => if f i = k then i else invI f i k
theorem inv_set {f : Nat → Nat} {i : Nat} (k : Nat) : (if k = f i then i else invI f i k) = invI f (i + 1) k := by
  rw [invI]
  by_cases e : k = f i
  · rw [if_pos e, if_pos e.symm]
  · rw [if_neg e, if_neg (fun q => e q.symm)]
/-- The i-th and the j-th change places. -/
def swapF (f : Nat → Nat) (i j : Nat) : Nat → Nat := fun k => if k = j then f i else if k = i then f j else f k
theorem bel_lt {n : Nat} (hn : 0 < n) : ∀ (k : Nat) (X : List Nat), (belN n k X).2.1 = 0 → (belN n k X).1 < n
  | 0, _, h => by simp [belN] at h
  | k + 1, X, h => by
    simp only [belN] at h ⊢
    split
    · exact Nat.mod_lt _ hn
    · rename_i hv
      rw [if_neg hv] at h
      exact bel_lt hn k _ h
/-- A tape shuffles f from the place j - 1 down, with t tries a draw: the order, the refusal, how much was taken. -/
def shufN (t : Nat) : Nat → (Nat → Nat) → List Nat → (Nat → Nat) × Nat × Nat
  | 0, f, _ => (f, 0, 0)
  | 1, f, _ => (f, 0, 0)
  | i + 2, f, X => if (belN (i + 2) t X).2.1 = 0 then ((shufN t (i + 1) (swapF f (i + 1) (belN (i + 2) t X).1) (X.drop (belN (i + 2) t X).2.2)).1, (shufN t (i + 1) (swapF f (i + 1) (belN (i + 2) t X).1) (X.drop (belN (i + 2) t X).2.2)).2.1, (belN (i + 2) t X).2.2 + (shufN t (i + 1) (swapF f (i + 1) (belN (i + 2) t X).1) (X.drop (belN (i + 2) t X).2.2)).2.2)
    else (f, (belN (i + 2) t X).2.1, (belN (i + 2) t X).2.2)
theorem shuf_yes {t i : Nat} {f : Nat → Nat} {X : List Nat} (h : (belN (i + 2) t X).2.1 = 0) : shufN t (i + 2) f X = ((shufN t (i + 1) (swapF f (i + 1) (belN (i + 2) t X).1) (X.drop (belN (i + 2) t X).2.2)).1, (shufN t (i + 1) (swapF f (i + 1) (belN (i + 2) t X).1) (X.drop (belN (i + 2) t X).2.2)).2.1, (belN (i + 2) t X).2.2 + (shufN t (i + 1) (swapF f (i + 1) (belN (i + 2) t X).1) (X.drop (belN (i + 2) t X).2.2)).2.2) := by
  rw [shufN, if_pos h]
theorem shuf_no {t i : Nat} {f : Nat → Nat} {X : List Nat} (h : ¬ (belN (i + 2) t X).2.1 = 0) : shufN t (i + 2) f X = (f, (belN (i + 2) t X).2.1, (belN (i + 2) t X).2.2) := by
  rw [shufN, if_neg h]
theorem shuf_low {t j : Nat} (f : Nat → Nat) (X : List Nat) (h : j ≤ 1) : shufN t j f X = (f, 0, 0) := by
  match j, h with
  | 0, _ => rw [shufN]
  | 1, _ => rw [shufN]
/-- What is shuffled, behind u bytes and the places from j on. -/
def ShI (t n : Nat) (X : List Nat) (j : Nat) (f : Nat → Nat) (u : Nat) : Prop := shufN t n (fun k => k) X = ((shufN t j f (X.drop u)).1, (shufN t j f (X.drop u)).2.1, u + (shufN t j f (X.drop u)).2.2)
theorem sh_start (t n : Nat) (X : List Nat) : ShI t n X n (fun k => k) 0 := by unfold ShI; simp
theorem sh_yes {t n i u : Nat} {X : List Nat} {f : Nat → Nat} (h : ShI t n X (i + 2) f u) (e : (belN (i + 2) t (X.drop u)).2.1 = 0) : ShI t n X (i + 1) (swapF f (i + 1) (belN (i + 2) t (X.drop u)).1) (u + (belN (i + 2) t (X.drop u)).2.2) := by
  unfold ShI at *
  rw [h, shuf_yes e, List.drop_drop]
  simp only [Nat.add_assoc]
theorem sh_no {t n i u : Nat} {X : List Nat} {f : Nat → Nat} (h : ShI t n X (i + 2) f u) (e : ¬ (belN (i + 2) t (X.drop u)).2.1 = 0) : shufN t n (fun k => k) X = (f, (belN (i + 2) t (X.drop u)).2.1, u + (belN (i + 2) t (X.drop u)).2.2) := by
  unfold ShI at h
  rw [h, shuf_no e]
theorem sh_end {t n j u : Nat} {X : List Nat} {f : Nat → Nat} (h : ShI t n X j f u) (hj : j ≤ 1) : shufN t n (fun k => k) X = (f, 0, u) := by
  unfold ShI at h
  rw [h, shuf_low _ _ hj]
  rfl
/-- How long the row is that is answered. -/
def shL (t n : Nat) (X : List Nat) : Nat := if (shufN t n (fun k => k) X).2.1 = 0 then n else 0
/-- .. of any two whole numbers: how long, the order, the refusal, how much was taken. -/
def shR (n t : Int) (X : List Nat) : Nat × (Nat → Nat) × Nat × Nat :=
  if n < 0 ∨ n > 64 ∨ t < 1 ∨ t > 16 then (0, fun k => k, 1, 0) else (shL t.toNat n.toNat X, shufN t.toNat n.toNat (fun k => k) X)
theorem shR_bad {n t : Int} (X : List Nat) (h : n < 0 ∨ n > 64 ∨ t < 1 ∨ t > 16) : shR n t X = (0, fun k => k, 1, 0) := by rw [shR, if_pos h]
theorem shR_ok {n t : Nat} (X : List Nat) (hn : n ≤ 64) (h1 : 1 ≤ t) (h2 : t ≤ 16) : shR n t X = (shL t n X, shufN t n (fun k => k) X) := by
  rw [shR, if_neg (by omega)]; rfl
theorem shR_len {n t : Int} (X : List Nat) : (shR n t X).1 ≤ 64 := by
  unfold shR
  split
  · exact Nat.zero_le _
  · unfold shL
    simp only
    split <;> omega
/-- The items as the order has them, as many as i of them. -/
def layI (f : Nat → Nat) (s : Nat → List Nat) (i k : Nat) : List Nat := if k < i then s (f k) else []
theorem lay_zero (f : Nat → Nat) (s : Nat → List Nat) (k : Nat) : layI f s 0 k = [] := by unfold layI; rw [if_neg (Nat.not_lt_zero _)]
theorem lay_set (f : Nat → Nat) (s : Nat → List Nat) (i k : Nat) : (if k = i then s (f i) else layI f s i k) = layI f s (i + 1) k := by
  unfold layI
  by_cases e : k = i
  · rw [if_pos e, if_pos (by omega), e]
  · rw [if_neg e]
    by_cases h : k < i
    · rw [if_pos h, if_pos (by omega)]
    · rw [if_neg h, if_neg (by omega)]
theorem lay_at {f : Nat → Nat} {s : Nat → List Nat} {i k : Nat} (h : k < i) : layI f s i k = s (f k) := by unfold layI; rw [if_pos h]
end Go.Proofs.Ytdckihmiggcpfaa
namespace Go.Proofs.Ytdckihmiggcpfaa
open Go.RowKit
theorem en_tnew : Enters Try.prog 8 := fun args w => by simp [go_sem]
theorem en_take : Enters Try.prog 28 := fun args w => by simp [go_sem]
theorem en_tused : Enters Try.prog 12 := fun args w => by simp [go_sem]
theorem en_tbelow : Enters Try.prog 21 := fun args w => by simp [go_sem]
theorem en_maybe : Enters Try.prog 25 := fun args w => by simp [go_sem]
theorem en_pair : Enters Try.prog 26 := fun args w => by simp [go_sem]
/-- A tape: the bytes that are left, how many were taken. -/
abbrev TB (X : List Nat) (u : Nat) : Obj := .cells #[sB X, iN u] 53
set_option maxRecDepth 100000 in
theorem take_any (g n : Nat) (X : List Nat) (u : Nat) (hX : ∀ i, X.getD i 0 < 256) (hu : u < 4611686018427387904) (hn : n ≤ 65536) (w0 : World) (hg : w0.heap[g]? = some (TB X u)) :
    Calls Try.prog 28 #[pT g, iN n] w0 fun e w' => e = .returned (sB (takN n X)) ∧ Turn g (TB (X.drop n) (u + n)) w0 w' := by
  refine enter_fr Try.func28 rfl Try.ntmps28 (by simp) fun ac (FF : Fr 42 ac [(0, pT g), (1, iN n)]) => ?_
  have MM : MemS (fun k => k < w0.heap.size ∧ ∀ x ∈ (g, oC #[sB X, iN u] 53) :: ([] : Blks), x.1 ≠ k) w0 w0 ((g, oC #[sB X, iN u] 53) :: ([] : Blks)) [] := MemS.startN (one_has hg) ⟨fun y hy => (nomatch hy), trivial⟩
  refine wp_seq (rg_seq FF MM [o_] [0, 1, 4] (fun Kt => Kt [(4, sB []), (0, pT g), (1, iN n)] ((g, oC #[sB X, iN u] 53) :: ([] : Blks))) (by kernel_rfl) (fun _ => by kernel_rfl) (fun ac1 wd1 FF1 MM1 => then_n ?_))
  refine wp_seq ?_
  refine wp_seq (rg_seq FF1 MM1 [o_, f_ (.bool false), o_, o_, w_ 3, o_, o_, o_, w_ 3, o_] [4, 0, 1, 15] (fun Kt => RunV Try.prog [(6, pT g), (4, sB []), (0, pT g), (1, iN n)] ((g, oC #[sB X, iN u] 53) :: ([] : Blks)) (opAt Try.f28 1 1) (.bool false) ∧ ¬ (n < 0) ∧ ¬ (n > 65536) ∧ Kt [(15, .bool false), (4, sB []), (0, pT g), (1, iN n)] ((g, oC #[sB X, iN u] 53) :: ([] : Blks))) (by kernel_rfl) (fun _ => by kernel_rfl) (⟨(ptrSome_ok (t := 28) (t' := 28) (x := (.tmp 6)) (y := (.const (.pointer none))) (by kernel_rfl) rfl rfl Try.underlying28), (by have := hn; omega), (by have := hn; omega), fun ac2 wd2 FF2 MM2 => then_n ?_⟩))
  refine wp_cond_false (FF2.ev 0 rfl) ?_
  refine wp_skip ?_
  refine then_n ?_
  refine wp_seq (rg_seq FF2 MM2 [o_, n_ (.slice none n n) (.cells (cn .u8 (List.replicate n 0)) 5), o_] [4, 0, 1, 5] (fun Kt => RunN Try.prog [(16, iN n), (15, .bool false), (4, sB []), (0, pT g), (1, iN n)] ((g, oC #[sB X, iN u] 53) :: ([] : Blks)) (opAt Try.f28 3 1) (mkOf (.slice none n n)) (.cells (cn .u8 (List.replicate n 0)) 5) ∧ ∀ bo, Kt [(5, .slice (some ⟨bo, 0, none⟩) n n), (4, sB []), (0, pT g), (1, iN n)] ((bo, .cells (cn .u8 (List.replicate n 0)) 5) :: (g, oC #[sB X, iN u] 53) :: ([] : Blks))) (by kernel_rfl) (fun _ => by kernel_rfl) (⟨(make_ok (t := 51) (e := 5) (p := (.tmp 16)) (q := (.tmp 16)) (by kernel_rfl) rfl rfl Try.underlying51 (by kernel_rfl) (by have := hn; omega)), fun bo => fun ac3 wd3 FF3 MM3 => then_n ?_⟩))
  refine wp_mid (fun a' w' => Fr 42 a' [(5, .slice (some ⟨bo, 0, none⟩) n n), (4, sB []), (0, pT g), (1, iN n)] ∧ MemS (fun k => k < w0.heap.size ∧ ∀ x ∈ (g, oC #[sB X, iN u] 53) :: ([] : Blks), x.1 ≠ k) w0 w' ((bo, .cells (cn .u8 (takN n X)) 5) :: (g, oC #[sB (X.drop n), iN u] 53) :: ([] : Blks)) []) ?_ ?_
  · skip
    refine draw_open (N := 15) (by kernel_rfl) (by kernel_rfl) MM3 fun wq4 (MM5 : MemS (fun k => k < w0.heap.size ∧ ∀ x ∈ (g, oC #[sB X, iN u] 53) :: ([] : Blks), x.1 ≠ k) w0 wq4 ((bo, .cells (cn .u8 (List.replicate n 0)) 5) :: (g, oC #[sB X, iN u] 53) :: ([] : Blks)) []) => ?_
    refine take_op FF3 (i := 0) (oi := (opAt Try.f28 4 0)) (v := (pT g)) (d := 18) (by kernel_rfl) (by kernel_rfl) (by kernel_rfl) (by kernel_rfl) (fun _ _ _ _ _ h => h) (by kernel_rfl) (by decide) (by kernel_rfl) (mvV (x := (.tmp 0)) (by kernel_rfl) rfl) fun ac6 FF6 => ?_
    refine take_op FF6 (i := 1) (oi := (opAt Try.f28 4 1)) (v := (pT g)) (d := 19) (by kernel_rfl) (by kernel_rfl) (by kernel_rfl) (by kernel_rfl) (fun _ _ _ _ _ h => h) (by kernel_rfl) (by decide) (by kernel_rfl) (mvV (x := (.tmp 0)) (by kernel_rfl) rfl) fun ac7 FF7 => ?_
    refine take_op FF7 (i := 2) (oi := (opAt Try.f28 4 2)) (v := (pT g)) (d := 20) (by kernel_rfl) (by kernel_rfl) (by kernel_rfl) (by kernel_rfl) (fun _ _ _ _ _ h => h) (by kernel_rfl) (by decide) (by kernel_rfl) (nilV (x := (.tmp 19)) (by kernel_rfl) rfl) fun ac8 FF8 => ?_
    refine take_op FF8 (i := 3) (oi := (opAt Try.f28 4 3)) (v := (pT g)) (d := 21) (by kernel_rfl) (by kernel_rfl) (by kernel_rfl) (by kernel_rfl) (fun _ _ _ _ _ h => h) (by kernel_rfl) (by decide) (by kernel_rfl) (fldV (x := (.tmp 20)) (t := 53) (k := 0) (cs := []) (by kernel_rfl) rfl (by kernel_rfl)) fun ac9 FF9 => ?_
    refine take_op FF9 (i := 5) (oi := (opAt Try.f28 4 5)) (v := (.slice (some ⟨bo, 0, none⟩) n n)) (d := 23) (by kernel_rfl) (by kernel_rfl) (by kernel_rfl) (by kernel_rfl) (fun _ _ _ _ _ h => h) (by kernel_rfl) (by decide) (by kernel_rfl) (mvV (x := (.tmp 5)) (by kernel_rfl) rfl) fun ac10 FF10 => ?_
    refine take_op FF10 (i := 6) (oi := (opAt Try.f28 4 6)) (v := (pT g)) (d := 24) (by kernel_rfl) (by kernel_rfl) (by kernel_rfl) (by kernel_rfl) (fun _ _ _ _ _ h => h) (by kernel_rfl) (by decide) (by kernel_rfl) (mvV (x := (.tmp 0)) (by kernel_rfl) rfl) fun ac11 FF11 => ?_
    refine take_op FF11 (i := 7) (oi := (opAt Try.f28 4 7)) (v := (pT g)) (d := 25) (by kernel_rfl) (by kernel_rfl) (by kernel_rfl) (by kernel_rfl) (fun _ _ _ _ _ h => h) (by kernel_rfl) (by decide) (by kernel_rfl) (nilV (x := (.tmp 24)) (by kernel_rfl) rfl) fun ac12 FF12 => ?_
    refine take_op FF12 (i := 8) (oi := (opAt Try.f28 4 8)) (v := (pT g)) (d := 26) (by kernel_rfl) (by kernel_rfl) (by kernel_rfl) (by kernel_rfl) (fun _ _ _ _ _ h => h) (by kernel_rfl) (by decide) (by kernel_rfl) (fldV (x := (.tmp 25)) (t := 53) (k := 0) (cs := []) (by kernel_rfl) rfl (by kernel_rfl)) fun ac13 FF13 => ?_
    refine any_two (i := 4) (oi := (opAt Try.f28 4 4)) (j := 9) (oj := (opAt Try.f28 4 9)) (by kernel_rfl) (by kernel_rfl) (by kernel_rfl) ?_ ?_
    · skip
      refine rg_part 1 FF13 MM5 [l_ 1 (sB X)] [26, 23, 18, 5, 4, 0, 1, 22] (fun Kt => g = g ∧ (#[sB X, iN u] : Array Value)[0]? = some (sB X) ∧ Kt [(22, sB X), (26, pT g), (23, .slice (some ⟨bo, 0, none⟩) n n), (18, pT g), (5, .slice (some ⟨bo, 0, none⟩) n n), (4, sB []), (0, pT g), (1, iN n)] ((bo, .cells (cn .u8 (List.replicate n 0)) 5) :: (g, oC #[sB X, iN u] 53) :: ([] : Blks))) (by kernel_rfl) (fun _ => by kernel_rfl) (⟨rfl, rfl, fun ac14 wd14 FF14 MM14 => ?_⟩)
      refine wpl_nil (onN_n ?_)
      refine any_one (i := 9) (o := (opAt Try.f28 4 9)) (by kernel_rfl) (by kernel_rfl) ?_
      refine rg_part 1 FF14 MM14 [l_ 1 (sB X)] [22, 23, 18, 5, 4, 0, 1, 27] (fun Kt => g = g ∧ (#[sB X, iN u] : Array Value)[0]? = some (sB X) ∧ Kt [(27, sB X), (22, sB X), (23, .slice (some ⟨bo, 0, none⟩) n n), (18, pT g), (5, .slice (some ⟨bo, 0, none⟩) n n), (4, sB []), (0, pT g), (1, iN n)] ((bo, .cells (cn .u8 (List.replicate n 0)) 5) :: (g, oC #[sB X, iN u] 53) :: ([] : Blks))) (by kernel_rfl) (fun _ => by kernel_rfl) (⟨rfl, rfl, fun ac15 wd15 FF15 MM15 => ?_⟩)
      refine wpl_nil (onN_n ?_)
      refine any_one (i := 10) (o := (opAt Try.f28 4 10)) (by kernel_rfl) (by kernel_rfl) ?_
      refine rg_part 1 FF15 MM15 [r_ (iN (min X.length n)) [(0, .cells (cn .u8 (takN n X)) 5)]] [22, 18, 5, 4, 0, 1, 28] (fun Kt => RunU Try.prog [(27, sB X), (22, sB X), (23, .slice (some ⟨bo, 0, none⟩) n n), (18, pT g), (5, .slice (some ⟨bo, 0, none⟩) n n), (4, sB []), (0, pT g), (1, iN n)] ((bo, .cells (cn .u8 (List.replicate n 0)) 5) :: (g, oC #[sB X, iN u] 53) :: ([] : Blks)) (opAt Try.f28 4 10) (iN (min X.length n)) [(0, .cells (cn .u8 (takN n X)) 5)] ∧ Kt [(28, iN (min X.length n)), (22, sB X), (18, pT g), (5, .slice (some ⟨bo, 0, none⟩) n n), (4, sB []), (0, pT g), (1, iN n)] ((bo, .cells (cn .u8 (takN n X)) 5) :: (g, oC #[sB X, iN u] 53) :: ([] : Blks))) (by kernel_rfl) (fun _ => by kernel_rfl) (⟨(copyStr_ok (p := .tmp 23) (q := .tmp 27) (t := 51) (tq := 9) (e := 5) (T := 5) (off := 0) (len := n) (X := X) (cs := cn .u8 (List.replicate n 0)) (i := 0) (by kernel_rfl) rfl rfl hX Try.underlying51 (by kernel_rfl) rfl (by rw [cn_size, List.length_replicate, Nat.zero_add]; exact Nat.le_refl _) (tak_cells n X)), fun ac16 wd16 FF16 MM16 => ?_⟩)
      refine wpl_nil (onN_n ?_)
      refine any_one (i := 11) (o := (opAt Try.f28 4 11)) (by kernel_rfl) (by kernel_rfl) ?_
      refine rg_part 1 FF16 MM16 [t_ (sB (X.drop n))] [18, 5, 4, 0, 1, 29] (fun Kt => (min X.length n) ≤ (bs X).size ∧ 0 ≤ (bs X).size ∧ Value.string ((bs X).extract (min X.length n) (bs X).size) = sB (X.drop n) ∧ Kt [(29, sB (X.drop n)), (18, pT g), (5, .slice (some ⟨bo, 0, none⟩) n n), (4, sB []), (0, pT g), (1, iN n)] ((bo, .cells (cn .u8 (takN n X)) 5) :: (g, oC #[sB X, iN u] 53) :: ([] : Blks))) (by kernel_rfl) (fun _ => by kernel_rfl) (⟨(by simp only [bs_size]; omega), (Nat.zero_le _), (vS2 ((bs_from _ _).trans (congrArg bs (dropX_min X n)))), fun ac17 wd17 FF17 MM17 => ?_⟩)
      refine wpl_nil (onN_n ?_)
      refine take_op FF17 (i := 12) (oi := (opAt Try.f28 4 12)) (v := (pT g)) (d := 30) (by kernel_rfl) (by kernel_rfl) (by kernel_rfl) (by kernel_rfl) (fun _ _ _ _ _ h => h) (by kernel_rfl) (by decide) (by kernel_rfl) (nilV (x := (.tmp 18)) (by kernel_rfl) rfl) fun ac18 FF18 => ?_
      refine take_op FF18 (i := 13) (oi := (opAt Try.f28 4 13)) (v := (pT g)) (d := 31) (by kernel_rfl) (by kernel_rfl) (by kernel_rfl) (by kernel_rfl) (fun _ _ _ _ _ h => h) (by kernel_rfl) (by decide) (by kernel_rfl) (fldV (x := (.tmp 30)) (t := 53) (k := 0) (cs := []) (by kernel_rfl) rfl (by kernel_rfl)) fun ac19 FF19 => ?_
      refine any_one (i := 14) (o := (opAt Try.f28 4 14)) (by kernel_rfl) (by kernel_rfl) ?_
      refine rg_part 1 FF19 MM17 [s_ 1 (oC #[sB (X.drop n), iN u] 53)] [5, 4, 0, 1] (fun Kt => g = g ∧ 0 < (#[sB X, iN u] : Array Value).size ∧ (((0, 0)).2 = 0 ∨ 0 < ((0, 0)).1) ∧ (#[sB X, iN u] : Array Value).setIfInBounds 0 (sB (X.drop n)) = #[sB (X.drop n), iN u] ∧ Kt [(5, .slice (some ⟨bo, 0, none⟩) n n), (4, sB []), (0, pT g), (1, iN n)] ((bo, .cells (cn .u8 (takN n X)) 5) :: (g, oC #[sB (X.drop n), iN u] 53) :: ([] : Blks))) (by kernel_rfl) (fun _ => by kernel_rfl) (⟨rfl, (by simp), (.inl rfl), rfl, fun ac20 wd20 FF20 MM20 => ?_⟩)
      refine wpl_nil (onN_n ?_)
      refine any_none (by kernel_rfl) (then_n ?_)
      exact ⟨FF20.pick [0, 1, 2, 3], MM20⟩
    · skip
      refine rg_part 1 FF13 MM5 [l_ 1 (sB X)] [23, 21, 18, 5, 4, 0, 1, 27] (fun Kt => g = g ∧ (#[sB X, iN u] : Array Value)[0]? = some (sB X) ∧ Kt [(27, sB X), (23, .slice (some ⟨bo, 0, none⟩) n n), (21, pT g), (18, pT g), (5, .slice (some ⟨bo, 0, none⟩) n n), (4, sB []), (0, pT g), (1, iN n)] ((bo, .cells (cn .u8 (List.replicate n 0)) 5) :: (g, oC #[sB X, iN u] 53) :: ([] : Blks))) (by kernel_rfl) (fun _ => by kernel_rfl) (⟨rfl, rfl, fun ac21 wd21 FF21 MM21 => ?_⟩)
      refine wpl_nil (onN_n ?_)
      refine any_two (i := 4) (oi := (opAt Try.f28 4 4)) (j := 10) (oj := (opAt Try.f28 4 10)) (by kernel_rfl) (by kernel_rfl) (by kernel_rfl) ?_ ?_
      · skip
        refine rg_part 1 FF21 MM21 [l_ 1 (sB X)] [27, 23, 18, 5, 4, 0, 1, 22] (fun Kt => g = g ∧ (#[sB X, iN u] : Array Value)[0]? = some (sB X) ∧ Kt [(22, sB X), (27, sB X), (23, .slice (some ⟨bo, 0, none⟩) n n), (18, pT g), (5, .slice (some ⟨bo, 0, none⟩) n n), (4, sB []), (0, pT g), (1, iN n)] ((bo, .cells (cn .u8 (List.replicate n 0)) 5) :: (g, oC #[sB X, iN u] 53) :: ([] : Blks))) (by kernel_rfl) (fun _ => by kernel_rfl) (⟨rfl, rfl, fun ac22 wd22 FF22 MM22 => ?_⟩)
        refine wpl_nil (onN_n ?_)
        refine any_one (i := 10) (o := (opAt Try.f28 4 10)) (by kernel_rfl) (by kernel_rfl) ?_
        refine rg_part 1 FF22 MM22 [r_ (iN (min X.length n)) [(0, .cells (cn .u8 (takN n X)) 5)]] [22, 18, 5, 4, 0, 1, 28] (fun Kt => RunU Try.prog [(22, sB X), (27, sB X), (23, .slice (some ⟨bo, 0, none⟩) n n), (18, pT g), (5, .slice (some ⟨bo, 0, none⟩) n n), (4, sB []), (0, pT g), (1, iN n)] ((bo, .cells (cn .u8 (List.replicate n 0)) 5) :: (g, oC #[sB X, iN u] 53) :: ([] : Blks)) (opAt Try.f28 4 10) (iN (min X.length n)) [(0, .cells (cn .u8 (takN n X)) 5)] ∧ Kt [(28, iN (min X.length n)), (22, sB X), (18, pT g), (5, .slice (some ⟨bo, 0, none⟩) n n), (4, sB []), (0, pT g), (1, iN n)] ((bo, .cells (cn .u8 (takN n X)) 5) :: (g, oC #[sB X, iN u] 53) :: ([] : Blks))) (by kernel_rfl) (fun _ => by kernel_rfl) (⟨(copyStr_ok (p := .tmp 23) (q := .tmp 27) (t := 51) (tq := 9) (e := 5) (T := 5) (off := 0) (len := n) (X := X) (cs := cn .u8 (List.replicate n 0)) (i := 0) (by kernel_rfl) rfl rfl hX Try.underlying51 (by kernel_rfl) rfl (by rw [cn_size, List.length_replicate, Nat.zero_add]; exact Nat.le_refl _) (tak_cells n X)), fun ac23 wd23 FF23 MM23 => ?_⟩)
        refine wpl_nil (onN_n ?_)
        refine any_one (i := 11) (o := (opAt Try.f28 4 11)) (by kernel_rfl) (by kernel_rfl) ?_
        refine rg_part 1 FF23 MM23 [t_ (sB (X.drop n))] [18, 5, 4, 0, 1, 29] (fun Kt => (min X.length n) ≤ (bs X).size ∧ 0 ≤ (bs X).size ∧ Value.string ((bs X).extract (min X.length n) (bs X).size) = sB (X.drop n) ∧ Kt [(29, sB (X.drop n)), (18, pT g), (5, .slice (some ⟨bo, 0, none⟩) n n), (4, sB []), (0, pT g), (1, iN n)] ((bo, .cells (cn .u8 (takN n X)) 5) :: (g, oC #[sB X, iN u] 53) :: ([] : Blks))) (by kernel_rfl) (fun _ => by kernel_rfl) (⟨(by simp only [bs_size]; omega), (Nat.zero_le _), (vS2 ((bs_from _ _).trans (congrArg bs (dropX_min X n)))), fun ac24 wd24 FF24 MM24 => ?_⟩)
        refine wpl_nil (onN_n ?_)
        refine take_op FF24 (i := 12) (oi := (opAt Try.f28 4 12)) (v := (pT g)) (d := 30) (by kernel_rfl) (by kernel_rfl) (by kernel_rfl) (by kernel_rfl) (fun _ _ _ _ _ h => h) (by kernel_rfl) (by decide) (by kernel_rfl) (nilV (x := (.tmp 18)) (by kernel_rfl) rfl) fun ac25 FF25 => ?_
        refine take_op FF25 (i := 13) (oi := (opAt Try.f28 4 13)) (v := (pT g)) (d := 31) (by kernel_rfl) (by kernel_rfl) (by kernel_rfl) (by kernel_rfl) (fun _ _ _ _ _ h => h) (by kernel_rfl) (by decide) (by kernel_rfl) (fldV (x := (.tmp 30)) (t := 53) (k := 0) (cs := []) (by kernel_rfl) rfl (by kernel_rfl)) fun ac26 FF26 => ?_
        refine any_one (i := 14) (o := (opAt Try.f28 4 14)) (by kernel_rfl) (by kernel_rfl) ?_
        refine rg_part 1 FF26 MM24 [s_ 1 (oC #[sB (X.drop n), iN u] 53)] [5, 4, 0, 1] (fun Kt => g = g ∧ 0 < (#[sB X, iN u] : Array Value).size ∧ (((0, 0)).2 = 0 ∨ 0 < ((0, 0)).1) ∧ (#[sB X, iN u] : Array Value).setIfInBounds 0 (sB (X.drop n)) = #[sB (X.drop n), iN u] ∧ Kt [(5, .slice (some ⟨bo, 0, none⟩) n n), (4, sB []), (0, pT g), (1, iN n)] ((bo, .cells (cn .u8 (takN n X)) 5) :: (g, oC #[sB (X.drop n), iN u] 53) :: ([] : Blks))) (by kernel_rfl) (fun _ => by kernel_rfl) (⟨rfl, (by simp), (.inl rfl), rfl, fun ac27 wd27 FF27 MM27 => ?_⟩)
        refine wpl_nil (onN_n ?_)
        refine any_none (by kernel_rfl) (then_n ?_)
        exact ⟨FF27.pick [0, 1, 2, 3], MM27⟩
      · skip
        refine rg_part 1 FF21 MM21 [r_ (iN (min X.length n)) [(0, .cells (cn .u8 (takN n X)) 5)]] [21, 18, 5, 4, 0, 1, 28] (fun Kt => RunU Try.prog [(27, sB X), (23, .slice (some ⟨bo, 0, none⟩) n n), (21, pT g), (18, pT g), (5, .slice (some ⟨bo, 0, none⟩) n n), (4, sB []), (0, pT g), (1, iN n)] ((bo, .cells (cn .u8 (List.replicate n 0)) 5) :: (g, oC #[sB X, iN u] 53) :: ([] : Blks)) (opAt Try.f28 4 10) (iN (min X.length n)) [(0, .cells (cn .u8 (takN n X)) 5)] ∧ Kt [(28, iN (min X.length n)), (21, pT g), (18, pT g), (5, .slice (some ⟨bo, 0, none⟩) n n), (4, sB []), (0, pT g), (1, iN n)] ((bo, .cells (cn .u8 (takN n X)) 5) :: (g, oC #[sB X, iN u] 53) :: ([] : Blks))) (by kernel_rfl) (fun _ => by kernel_rfl) (⟨(copyStr_ok (p := .tmp 23) (q := .tmp 27) (t := 51) (tq := 9) (e := 5) (T := 5) (off := 0) (len := n) (X := X) (cs := cn .u8 (List.replicate n 0)) (i := 0) (by kernel_rfl) rfl rfl hX Try.underlying51 (by kernel_rfl) rfl (by rw [cn_size, List.length_replicate, Nat.zero_add]; exact Nat.le_refl _) (tak_cells n X)), fun ac28 wd28 FF28 MM28 => ?_⟩)
        refine wpl_nil (onN_n ?_)
        refine any_one (i := 4) (o := (opAt Try.f28 4 4)) (by kernel_rfl) (by kernel_rfl) ?_
        refine rg_part 1 FF28 MM28 [l_ 1 (sB X)] [28, 18, 5, 4, 0, 1, 22] (fun Kt => g = g ∧ (#[sB X, iN u] : Array Value)[0]? = some (sB X) ∧ Kt [(22, sB X), (28, iN (min X.length n)), (18, pT g), (5, .slice (some ⟨bo, 0, none⟩) n n), (4, sB []), (0, pT g), (1, iN n)] ((bo, .cells (cn .u8 (takN n X)) 5) :: (g, oC #[sB X, iN u] 53) :: ([] : Blks))) (by kernel_rfl) (fun _ => by kernel_rfl) (⟨rfl, rfl, fun ac29 wd29 FF29 MM29 => ?_⟩)
        refine wpl_nil (onN_n ?_)
        refine any_one (i := 11) (o := (opAt Try.f28 4 11)) (by kernel_rfl) (by kernel_rfl) ?_
        refine rg_part 1 FF29 MM29 [t_ (sB (X.drop n))] [18, 5, 4, 0, 1, 29] (fun Kt => (min X.length n) ≤ (bs X).size ∧ 0 ≤ (bs X).size ∧ Value.string ((bs X).extract (min X.length n) (bs X).size) = sB (X.drop n) ∧ Kt [(29, sB (X.drop n)), (18, pT g), (5, .slice (some ⟨bo, 0, none⟩) n n), (4, sB []), (0, pT g), (1, iN n)] ((bo, .cells (cn .u8 (takN n X)) 5) :: (g, oC #[sB X, iN u] 53) :: ([] : Blks))) (by kernel_rfl) (fun _ => by kernel_rfl) (⟨(by simp only [bs_size]; omega), (Nat.zero_le _), (vS2 ((bs_from _ _).trans (congrArg bs (dropX_min X n)))), fun ac30 wd30 FF30 MM30 => ?_⟩)
        refine wpl_nil (onN_n ?_)
        refine take_op FF30 (i := 12) (oi := (opAt Try.f28 4 12)) (v := (pT g)) (d := 30) (by kernel_rfl) (by kernel_rfl) (by kernel_rfl) (by kernel_rfl) (fun _ _ _ _ _ h => h) (by kernel_rfl) (by decide) (by kernel_rfl) (nilV (x := (.tmp 18)) (by kernel_rfl) rfl) fun ac31 FF31 => ?_
        refine take_op FF31 (i := 13) (oi := (opAt Try.f28 4 13)) (v := (pT g)) (d := 31) (by kernel_rfl) (by kernel_rfl) (by kernel_rfl) (by kernel_rfl) (fun _ _ _ _ _ h => h) (by kernel_rfl) (by decide) (by kernel_rfl) (fldV (x := (.tmp 30)) (t := 53) (k := 0) (cs := []) (by kernel_rfl) rfl (by kernel_rfl)) fun ac32 FF32 => ?_
        refine any_one (i := 14) (o := (opAt Try.f28 4 14)) (by kernel_rfl) (by kernel_rfl) ?_
        refine rg_part 1 FF32 MM30 [s_ 1 (oC #[sB (X.drop n), iN u] 53)] [5, 4, 0, 1] (fun Kt => g = g ∧ 0 < (#[sB X, iN u] : Array Value).size ∧ (((0, 0)).2 = 0 ∨ 0 < ((0, 0)).1) ∧ (#[sB X, iN u] : Array Value).setIfInBounds 0 (sB (X.drop n)) = #[sB (X.drop n), iN u] ∧ Kt [(5, .slice (some ⟨bo, 0, none⟩) n n), (4, sB []), (0, pT g), (1, iN n)] ((bo, .cells (cn .u8 (takN n X)) 5) :: (g, oC #[sB (X.drop n), iN u] 53) :: ([] : Blks))) (by kernel_rfl) (fun _ => by kernel_rfl) (⟨rfl, (by simp), (.inl rfl), rfl, fun ac33 wd33 FF33 MM33 => ?_⟩)
        refine wpl_nil (onN_n ?_)
        refine any_none (by kernel_rfl) (then_n ?_)
        exact ⟨FF33.pick [0, 1, 2, 3], MM33⟩
  · rintro ac34 wd34 ⟨FF34, MM34⟩
    refine wp_seq (rg_seq FF34 MM34 [o_, o_, o_, l_ 1 (iN u), o_, o_, o_, o_, s_ 1 (oC #[sB (X.drop n), iN (u + n)] 53)] [5, 4, 0, 1] (fun Kt => g = g ∧ (#[sB (X.drop n), iN u] : Array Value)[1]? = some (iN u) ∧ u + n < 9223372036854775808 ∧ g = g ∧ 1 < (#[sB (X.drop n), iN u] : Array Value).size ∧ (((0, 0)).2 = 0 ∨ 1 < ((0, 0)).1) ∧ (#[sB (X.drop n), iN u] : Array Value).setIfInBounds 1 (iN (u + n)) = #[sB (X.drop n), iN (u + n)] ∧ Kt [(5, .slice (some ⟨bo, 0, none⟩) n n), (4, sB []), (0, pT g), (1, iN n)] ((bo, .cells (cn .u8 (takN n X)) 5) :: (g, oC #[sB (X.drop n), iN (u + n)] 53) :: ([] : Blks))) (by kernel_rfl) (fun _ => by kernel_rfl) (⟨rfl, rfl, (by have := hn; omega), rfl, (by simp), (.inl rfl), rfl, fun ac35 wd35 FF35 MM35 => then_n ?_⟩))
    refine wp_seq (rg_seq FF35 MM35 [o_, l_ 0 (sB (takN n X)), o_] [5, 4, 0, 1] (fun Kt => bo = bo ∧ StrAt (cn .u8 (takN n X)) 0 n (bs (takN n X)) ∧ Kt [(4, sB (takN n X)), (5, .slice (some ⟨bo, 0, none⟩) n n), (0, pT g), (1, iN n)] ((bo, .cells (cn .u8 (takN n X)) 5) :: (g, oC #[sB (X.drop n), iN (u + n)] 53) :: ([] : Blks))) (by kernel_rfl) (fun _ => by kernel_rfl) (⟨rfl, (str_all (takN_len _ _) (takN_lt hX n)), fun ac36 wd36 FF36 MM36 => then_n ?_⟩))
    refine wp_ret ?_
    repeat first | refine then_ret ?_ | refine inb_ret ?_
    exact (ret_fr FF36 0 Try.results28 rfl ⟨rfl, MM36.turn (O := []) (fun i x hx => by simp at hx) 1 rfl (fun x hx => (nomatch hx))⟩)
set_option maxRecDepth 100000 in
theorem tused_T (g : Nat) (X : List Nat) (u : Nat) (w0 : World) (hg : w0.heap[g]? = some (TB X u)) :
    Calls Try.prog 12 #[pT g] w0 fun e w' => e = .returned (iN u) ∧ Turn g (TB X u) w0 w' := by
  refine enter_fr Try.func12 rfl Try.ntmps12 (by simp) fun ac (FF : Fr 9 ac [(0, pT g)]) => ?_
  have MM : MemS (fun k => k < w0.heap.size ∧ ∀ x ∈ (g, oC #[sB X, iN u] 53) :: ([] : Blks), x.1 ≠ k) w0 w0 ((g, oC #[sB X, iN u] 53) :: ([] : Blks)) [] := MemS.startN (one_has hg) ⟨fun y hy => (nomatch hy), trivial⟩
  refine wp_seq (rg_seq FF MM [o_] [0, 2] (fun Kt => Kt [(2, iN 0), (0, pT g)] ((g, oC #[sB X, iN u] 53) :: ([] : Blks))) (by kernel_rfl) (fun _ => by kernel_rfl) (fun ac1 wd1 FF1 MM1 => then_n ?_))
  refine wp_seq ?_
  refine wp_seq (rg_seq FF1 MM1 [o_, f_ (.bool false)] [2, 0, 4] (fun Kt => RunV Try.prog [(3, pT g), (2, iN 0), (0, pT g)] ((g, oC #[sB X, iN u] 53) :: ([] : Blks)) (opAt Try.f12 1 1) (.bool false) ∧ Kt [(4, .bool false), (2, iN 0), (0, pT g)] ((g, oC #[sB X, iN u] 53) :: ([] : Blks))) (by kernel_rfl) (fun _ => by kernel_rfl) (⟨(ptrSome_ok (t := 28) (t' := 28) (x := (.tmp 3)) (y := (.const (.pointer none))) (by kernel_rfl) rfl rfl Try.underlying28), fun ac2 wd2 FF2 MM2 => then_n ?_⟩))
  refine wp_cond_false (FF2.ev 0 rfl) ?_
  refine wp_skip ?_
  refine then_n ?_
  refine wp_seq (rg_seq FF2 MM2 [o_, o_, o_, l_ 0 (iN u), o_] [2, 0] (fun Kt => g = g ∧ (#[sB X, iN u] : Array Value)[1]? = some (iN u) ∧ Kt [(2, iN u), (0, pT g)] ((g, oC #[sB X, iN u] 53) :: ([] : Blks))) (by kernel_rfl) (fun _ => by kernel_rfl) (⟨rfl, rfl, fun ac3 wd3 FF3 MM3 => then_n ?_⟩))
  refine wp_ret ?_
  repeat first | refine then_ret ?_ | refine inb_ret ?_
  exact (ret_fr FF3 0 Try.results12 rfl ⟨rfl, MM3.turn (O := []) (fun i x hx => by simp at hx) 0 rfl (fun x hx => (nomatch hx))⟩)
theorem turn_below {w w' : World} {g : Nat} {ob : Obj} (hg : w.heap[g]? = some ob) (t : Turn g ob w w') : Below w.heap.size w w' := ⟨t.os, t.tape, t.output, t.size, fun k hk => by
  by_cases e : k = g
  · subst e; exact t.now.trans hg.symm
  · exact t.block k hk e⟩
theorem tused_any (g : Nat) (X : List Nat) (u : Nat) (w : World) (hg : w.heap[g]? = some (TB X u)) : Calls Try.prog 12 #[pT g] w fun e w' => e = .returned (iN u) ∧ Below w.heap.size w w' := (tused_T g X u w hg).mono fun _ _ ⟨h1, h2⟩ => ⟨h1, turn_below hg h2⟩
end Go.Proofs.Ytdckihmiggcpfaa
namespace Go.Proofs.Ytdckihmiggcpfaa
open Go.RowKit
/-- A tape that was made. -/
def NewT (X : List Nat) (w w' : World) (v : Value) : Prop := ∃ g, v = pT g ∧ Below w.heap.size w w' ∧ w.heap.size ≤ g ∧ w'.heap[g]? = some (TB X 0)
set_option maxRecDepth 100000 in
theorem tnew_any (X : List Nat) (w0 : World) : Calls Try.prog 8 #[sB X] w0 fun e w' => ∃ v, e = .returned v ∧ NewT X w0 w' v := by
  refine enter_fr Try.func8 rfl Try.ntmps8 (by simp) fun ac (FF : Fr 6 ac [(0, sB X)]) => ?_
  have MM := MemS.start w0
  refine wp_seq (rg_seq FF MM [o_] [0, 2] (fun Kt => Kt [(2, .pointer none), (0, sB X)] []) (by kernel_rfl) (fun _ => by kernel_rfl) (fun ac1 wd1 FF1 MM1 => then_n ?_))
  refine wp_seq (rg_seq FF1 MM1 [o_, o_, o_, o_] [2] (fun Kt => ∀ bt, Kt [(2, pT bt)] [(bt, oC #[sB X, iN 0] 53)]) (by kernel_rfl) (fun _ => by kernel_rfl) (fun bt => fun ac2 wd2 FF2 MM2 => then_n ?_))
  refine wp_ret ?_
  repeat first | refine then_ret ?_ | refine inb_ret ?_
  exact (ret_fr FF2 0 Try.results8 rfl ⟨_, rfl, bt, rfl, MM2.below, MM2.fresh 0 rfl, MM2.get 0 rfl⟩)
set_option maxRecDepth 100000 in
theorem maybe_yes (k : Nat) (h1 : k ≥ 1) (hk : k ≤ 16) (w0 : World) :
    Calls Try.prog 25 #[iN k] w0 fun e w' => e = .returned (.bool true) ∧ Below w0.heap.size w0 w' := by
  refine enter_fr Try.func25 rfl Try.ntmps25 (by simp) fun ac (FF : Fr 9 ac [(0, iN k)]) => ?_
  have MM := MemS.start w0
  refine wp_seq (rg_seq FF MM [o_] [0, 2] (fun Kt => Kt [(2, .bool false), (0, iN k)] []) (by kernel_rfl) (fun _ => by kernel_rfl) (fun ac1 wd1 FF1 MM1 => then_n ?_))
  refine wp_seq (rg_seq FF1 MM1 [o_, w_ 2, o_, o_, w_ 2, o_, o_] [2] (fun Kt => k ≥ 1 ∧ k ≤ 16 ∧ Kt [(2, .bool true)] []) (by kernel_rfl) (fun _ => by kernel_rfl) (⟨h1, hk, fun ac2 wd2 FF2 MM2 => then_n ?_⟩))
  refine wp_ret ?_
  repeat first | refine then_ret ?_ | refine inb_ret ?_
  exact (ret_fr FF2 0 Try.results25 rfl ⟨rfl, MM2.below⟩)
theorem en_tries : Enters Try.prog 22 := fun args w => by simp [go_sem]
set_option maxRecDepth 100000 in
theorem tries_yes (k : Nat) (h1 : k ≥ 1) (hk : k ≤ 16) (w0 : World) :
    Calls Try.prog 22 #[iN k] w0 fun e w' => e = .returned (.bool true) ∧ Below w0.heap.size w0 w' := by
  refine enter_fr Try.func22 rfl Try.ntmps22 (by simp) fun ac (FF : Fr 9 ac [(0, iN k)]) => ?_
  have MM := MemS.start w0
  refine wp_seq (rg_seq FF MM [o_] [0, 2] (fun Kt => Kt [(2, .bool false), (0, iN k)] []) (by kernel_rfl) (fun _ => by kernel_rfl) (fun ac1 wd1 FF1 MM1 => then_n ?_))
  refine wp_seq (rg_seq FF1 MM1 [o_, w_ 2, o_, o_, w_ 2, o_, o_] [2] (fun Kt => k ≥ 1 ∧ k ≤ 16 ∧ Kt [(2, .bool true)] []) (by kernel_rfl) (fun _ => by kernel_rfl) (⟨h1, hk, fun ac2 wd2 FF2 MM2 => then_n ?_⟩))
  refine wp_ret ?_
  repeat first | refine then_ret ?_ | refine inb_ret ?_
  exact (ret_fr FF2 0 Try.results22 rfl ⟨rfl, MM2.below⟩)
set_option maxRecDepth 100000 in
theorem tries_lo (z : Int) (hz : z < 1) (w0 : World) :
    Calls Try.prog 22 #[.int .i64 z] w0 fun e w' => e = .returned (.bool false) ∧ Below w0.heap.size w0 w' := by
  refine enter_fr Try.func22 rfl Try.ntmps22 (by simp) fun ac (FF : Fr 9 ac [(0, .int .i64 (z : Int))]) => ?_
  have MM := MemS.start w0
  refine wp_seq (rg_seq FF MM [o_] [0, 2] (fun Kt => Kt [(2, .bool false), (0, .int .i64 (z : Int))] []) (by kernel_rfl) (fun _ => by kernel_rfl) (fun ac1 wd1 FF1 MM1 => then_n ?_))
  refine wp_seq (rg_seq FF1 MM1 [o_, u_ 4 (.bool false), o_, o_, o_, o_, o_] [2] (fun Kt => Value.bool (decide (z ≥ ((1 : Nat) : Int))) = .bool false ∧ Kt [(2, .bool false)] []) (by kernel_rfl) (fun _ => by kernel_rfl) (⟨(dec_f (by omega)), fun ac2 wd2 FF2 MM2 => then_n ?_⟩))
  refine wp_ret ?_
  repeat first | refine then_ret ?_ | refine inb_ret ?_
  exact (ret_fr FF2 0 Try.results22 rfl ⟨rfl, MM2.below⟩)
set_option maxRecDepth 100000 in
theorem tries_hi (z : Int) (hz : z > 16) (w0 : World) :
    Calls Try.prog 22 #[.int .i64 z] w0 fun e w' => e = .returned (.bool false) ∧ Below w0.heap.size w0 w' := by
  refine enter_fr Try.func22 rfl Try.ntmps22 (by simp) fun ac (FF : Fr 9 ac [(0, .int .i64 (z : Int))]) => ?_
  have MM := MemS.start w0
  refine wp_seq (rg_seq FF MM [o_] [0, 2] (fun Kt => Kt [(2, .bool false), (0, .int .i64 (z : Int))] []) (by kernel_rfl) (fun _ => by kernel_rfl) (fun ac1 wd1 FF1 MM1 => then_n ?_))
  refine wp_seq (rg_seq FF1 MM1 [o_, w_ 6, o_, o_, u_ 4 (.bool false), o_, o_] [2] (fun Kt => z ≥ ((1 : Nat) : Int) ∧ Value.bool (decide (z ≤ ((16 : Nat) : Int))) = .bool false ∧ Kt [(2, .bool false)] []) (by kernel_rfl) (fun _ => by kernel_rfl) (⟨(by omega), (dec_f (by omega)), fun ac2 wd2 FF2 MM2 => then_n ?_⟩))
  refine wp_ret ?_
  repeat first | refine then_ret ?_ | refine inb_ret ?_
  exact (ret_fr FF2 0 Try.results22 rfl ⟨rfl, MM2.below⟩)
set_option maxRecDepth 100000 in
theorem pair_any (g : Nat) (X : List Nat) (u : Nat) (hX : ∀ i, X.getD i 0 < 256) (hu : u < 4611686018427387904)  (w0 : World) (hg : w0.heap[g]? = some (TB X u)) :
    Calls Try.prog 26 #[pT g] w0 fun e w' => e = .returned (iN (twoN X)) ∧ Turn g (TB (X.drop 2) (u + 2)) w0 w' := by
  refine enter_fr Try.func26 rfl Try.ntmps26 (by simp) fun ac (FF : Fr 14 ac [(0, pT g)]) => ?_
  have MM : MemS (fun k => k < w0.heap.size ∧ ∀ x ∈ (g, oC #[sB X, iN u] 53) :: ([] : Blks), x.1 ≠ k) w0 w0 ((g, oC #[sB X, iN u] 53) :: ([] : Blks)) [] := MemS.startN (one_has hg) ⟨fun y hy => (nomatch hy), trivial⟩
  refine wp_seq (rg_seq FF MM [o_] [0, 2] (fun Kt => Kt [(2, iN 0), (0, pT g)] ((g, oC #[sB X, iN u] 53) :: ([] : Blks))) (by kernel_rfl) (fun _ => by kernel_rfl) (fun ac1 wd1 FF1 MM1 => then_n ?_))
  refine wp_seq (rg_seq FF1 MM1 [o_, c_ (sB (takN 2 X)) [(0, oC #[sB (X.drop 2), iN (u + 2)] 53)], o_] [2, 3] (fun Kt => CallU Try.prog 28 [pT g, iN 2] ((g, oC #[sB X, iN u] 53) :: ([] : Blks)) (sB (takN 2 X)) [(0, oC #[sB (X.drop 2), iN (u + 2)] 53)] ∧ Kt [(3, sB (takN 2 X)), (2, iN 0)] ((g, oC #[sB (X.drop 2), iN (u + 2)] 53) :: ([] : Blks))) (by kernel_rfl) (fun _ => by kernel_rfl) (⟨(callU_turn en_take (g := g) (ob := TB X u) rfl fun w hg => by have h0 := take_any g 2 X u hX (by omega) (by decide) w hg; exact h0), fun ac2 wd2 FF2 MM2 => then_n ?_⟩))
  have h20 := takN_lt hX 2 0
  have h21 := takN_lt hX 2 1
  refine wp_seq (rg_draw FF2 MM2 [.inl (sB (takN 2 X)), .inl (iB ((takN 2 X).getD 0 0)), .inl (iN ((takN 2 X).getD 0 0)), .inl (sB (takN 2 X)), .inl (iB ((takN 2 X).getD 1 0)), .inl (iN ((takN 2 X).getD 1 0)), .inl (iN (((takN 2 X).getD 1 0) * 256)), .inl (iN (twoN X)), .inl (iN (twoN X))] [] [o_, t_ (iB ((takN 2 X).getD 0 0)), w_ 1, o_, t_ (iB ((takN 2 X).getD 1 0)), w_ 1, o_, t_ (iN (twoN X)), o_] [] [2] (fun nb => [0 < (bs (takN 2 X)).size, (nl (bs (takN 2 X))).getD 0 0 = (takN 2 X).getD 0 0, ((takN 2 X).getD 0 0) < 9223372036854775808, 1 < (bs (takN 2 X)).size, (nl (bs (takN 2 X))).getD 1 0 = (takN 2 X).getD 1 0, ((takN 2 X).getD 1 0) < 9223372036854775808, ((takN 2 X).getD 1 0) * 256 < 9223372036854775808, 8 ≤ 64, ((takN 2 X).getD 0 0) < 9223372036854775808, (((takN 2 X).getD 1 0) * 256) < 9223372036854775808, iN (((takN 2 X).getD 0 0) ||| (((takN 2 X).getD 1 0) * 256)) = iN (twoN X)]) (fun nb Kt => Kt [(2, iN (twoN X))] ((g, oC #[sB (X.drop 2), iN (u + 2)] 53) :: ([] : Blks))) (by kernel_rfl) (by kernel_rfl) (by kernel_rfl) (fun _ => by kernel_rfl) (fun _ _ => by kernel_rfl) trivial (fun nb => ⟨(by rw [bs_size, takN_len]; decide), (byte_bs (takN_lt hX 2) _), (by have := (takN_lt hX 2) 0; omega), (by rw [bs_size, takN_len]; decide), (byte_bs (takN_lt hX 2) _), (by have := (takN_lt hX 2) 1; omega), (by have := (takN_lt hX 2) 1; omega), (by decide), (by omega), (by omega), (vI (two_or hX)), trivial⟩) (fun nb => fun ac3 wd3 FF3 MM3 => then_n ?_))
  refine wp_ret ?_
  repeat first | refine then_ret ?_ | refine inb_ret ?_
  exact (ret_fr FF3 0 Try.results26 rfl ⟨rfl, MM3.turn (O := []) (fun i x hx => by simp at hx) 0 rfl (fun x hx => (nomatch hx))⟩)
set_option maxRecDepth 100000 in
theorem tbelow_any (g : Nat) (X : List Nat) (u : Nat) (hX : ∀ i, X.getD i 0 < 256) (hu : u < 4611686018427000000) (n k : Nat) (h1 : 1 ≤ n) (hn : n ≤ 65536) (hk1 : 1 ≤ k) (hk : k ≤ 16) (w0 : World) (hg : w0.heap[g]? = some (TB X u)) :
    Calls Try.prog 21 #[pT g, iN n, iN k] w0 fun e w' => e = .returned (.tuple #[iN ((belN n k X).1), iN ((belN n k X).2.1)]) ∧ Turn g (TB (X.drop (belN n k X).2.2) (u + (belN n k X).2.2)) w0 w' := by
  refine enter_fr Try.func21 rfl Try.ntmps21 (by simp) fun ac (FF : Fr 38 ac [(0, pT g), (1, iN n), (2, iN k)]) => ?_
  have MM : MemS (fun k => k < w0.heap.size ∧ ∀ x ∈ (g, oC #[sB X, iN u] 53) :: ([] : Blks), x.1 ≠ k) w0 w0 ((g, oC #[sB X, iN u] 53) :: ([] : Blks)) [] := MemS.startN (one_has hg) ⟨fun y hy => (nomatch hy), trivial⟩
  refine wp_seq (rg_seq FF MM [o_, o_] [0, 1, 2, 6, 7] (fun Kt => Kt [(7, iN 0), (6, iN 0), (0, pT g), (1, iN n), (2, iN k)] ((g, oC #[sB X, iN u] 53) :: ([] : Blks))) (by kernel_rfl) (fun _ => by kernel_rfl) (fun ac1 wd1 FF1 MM1 => then_n ?_))
  refine wp_seq ?_
  refine wp_seq (rg_seq FF1 MM1 [o_, f_ (.bool false), o_, o_, w_ 3, o_, o_, o_, w_ 3, o_, o_, o_, t_ (.bool true), o_, o_] [7, 6, 0, 1, 2, 23] (fun Kt => RunV Try.prog [(9, pT g), (7, iN 0), (6, iN 0), (0, pT g), (1, iN n), (2, iN k)] ((g, oC #[sB X, iN u] 53) :: ([] : Blks)) (opAt Try.f21 1 1) (.bool false) ∧ ¬ (n < 1) ∧ ¬ (n > 65536) ∧ CallP Try.prog 25 [iN k] [] (.bool true) ∧ Kt [(23, .bool false), (7, iN 0), (6, iN 0), (0, pT g), (1, iN n), (2, iN k)] ((g, oC #[sB X, iN u] 53) :: ([] : Blks))) (by kernel_rfl) (fun _ => by kernel_rfl) (⟨(ptrSome_ok (t := 28) (t' := 28) (x := (.tmp 9)) (y := (.const (.pointer none))) (by kernel_rfl) rfl rfl Try.underlying28), (by omega), (by omega), (callP_of en_maybe (maybe_yes k (by omega) (by omega)) _), fun ac2 wd2 FF2 MM2 => then_n ?_⟩))
  refine wp_cond_false (FF2.ev 0 rfl) ?_
  refine wp_skip ?_
  refine then_n ?_
  refine wp_seq ?_
  refine wp_seq (rg_seq FF2 MM2 [o_, o_] [7, 6, 0, 1, 2, 24, 25] (fun Kt => Kt [(25, iN 0), (24, iN k), (7, iN 0), (6, iN 0), (0, pT g), (1, iN n), (2, iN k)] ((g, oC #[sB X, iN u] 53) :: ([] : Blks))) (by kernel_rfl) (fun _ => by kernel_rfl) (fun ac3 wd3 FF3 MM3 => then_n ?_))
  refine wp_for (fun a' w' => ∃ i : Nat, i ≤ k ∧ BelI n k X i ∧ Fr 38 a' [(25, iN i), (24, iN k), (0, pT g), (1, iN n), (2, iN k)] ∧ MemS (fun k => k < w0.heap.size ∧ ∀ x ∈ (g, oC #[sB X, iN u] 53) :: ([] : Blks), x.1 ≠ k) w0 w' ((g, oC #[sB (X.drop (2 * i)), iN (u + 2 * i)] 53) :: ([] : Blks)) []) (fun a' _ => (k - cnt 25 a').toNat) ⟨0, Nat.zero_le _, bel_start _ _ _, FF3.pick [0, 1, 4, 5, 6], MM3⟩ ?_
  rintro ac4 wd4 ⟨i, hi, hb, FF4, MM4⟩
  have hc := cnt_of (FF4.get 0 rfl)
  refine rg_seq FF4 MM4 [o_] [25, 24, 0, 1, 2, 26] (fun Kt => Kt [(26, .bool (decide (i < k))), (25, iN i), (24, iN k), (0, pT g), (1, iN n), (2, iN k)] ((g, oC #[sB (X.drop (2 * i)), iN (u + 2 * i)] 53) :: ([] : Blks))) (by kernel_rfl) (fun _ => by kernel_rfl) (fun ac5 wd5 FF5 MM5 => ?_)
  by_cases hlt : i < k
  · skip
    refine then_n (.inl ⟨(FF5.ev 0 rfl).trans (dec_t hlt), ?_⟩)
    refine wp_seq (rg_seq FF5 MM5 [o_, c_ (iN (twoN (X.drop (2 * i)))) [(0, oC #[sB (X.drop (2 * (i + 1))), iN (u + 2 * (i + 1))] 53)], o_] [25, 24, 0, 1, 2, 8] (fun Kt => CallU Try.prog 26 [pT g] ((g, oC #[sB (X.drop (2 * i)), iN (u + 2 * i)] 53) :: ([] : Blks)) (iN (twoN (X.drop (2 * i)))) [(0, oC #[sB (X.drop (2 * (i + 1))), iN (u + 2 * (i + 1))] 53)] ∧ Kt [(8, iN (twoN (X.drop (2 * i)))), (25, iN i), (24, iN k), (0, pT g), (1, iN n), (2, iN k)] ((g, oC #[sB (X.drop (2 * (i + 1))), iN (u + 2 * (i + 1))] 53) :: ([] : Blks))) (by kernel_rfl) (fun _ => by kernel_rfl) (⟨(callU_turn en_pair (g := g) (ob := TB (X.drop (2 * i)) (u + 2 * i)) rfl fun w hg => by have h0 := pair_any g (X.drop (2 * i)) (u + 2 * i) (dropX_lt hX (2 * i)) (by omega) w hg; rw [List.drop_drop] at h0; exact h0), fun ac6 wd6 FF6 MM6 => then_n ?_⟩))
    refine wp_seq (rg_seq FF6 MM6 [o_, o_, o_, o_, o_] [8, 25, 24, 0, 1, 2, 33] (fun Kt => n ≠ 0 ∧ (65536 % n) ≤ 65536 ∧ 65536 - (65536 % n) < 9223372036854775808 ∧ Kt [(33, .bool (decide ((twoN (X.drop (2 * i))) < (65536 - (65536 % n))))), (8, iN (twoN (X.drop (2 * i)))), (25, iN i), (24, iN k), (0, pT g), (1, iN n), (2, iN k)] ((g, oC #[sB (X.drop (2 * (i + 1))), iN (u + 2 * (i + 1))] 53) :: ([] : Blks))) (by kernel_rfl) (fun _ => by kernel_rfl) (⟨(by have := hn; omega), (Nat.mod_le _ _), (by have := hn; omega), fun ac7 wd7 FF7 MM7 => then_n ?_⟩))
    by_cases hs33 : (twoN (X.drop (2 * i))) < (65536 - (65536 % n))
    · refine wp_cond_true ((FF7.ev 0 rfl).trans (dec_t hs33)) ?_
      have hE := bel_yes hb hlt hs33
      refine wp_seq (rg_seq FF7 MM7 [o_, o_, o_, o_, o_] [8, 25, 24, 0, 1, 2, 6, 7] (fun Kt => n ≠ 0 ∧ Kt [(7, iN 0), (6, iN ((twoN (X.drop (2 * i))) % n)), (8, iN (twoN (X.drop (2 * i)))), (25, iN i), (24, iN k), (0, pT g), (1, iN n), (2, iN k)] ((g, oC #[sB (X.drop (2 * (i + 1))), iN (u + 2 * (i + 1))] 53) :: ([] : Blks))) (by kernel_rfl) (fun _ => by kernel_rfl) (⟨(by have := two_lt (dropX_lt hX (2 * i)); have := hn; omega), fun ac8 wd8 FF8 MM8 => then_n ?_⟩))
      refine wp_ret ?_
      repeat first | refine then_ret ?_ | refine inb_ret ?_
      exact (ret_tup2 FF8 1 0 Try.results21 rfl rfl (by rw [hE]; exact ⟨rfl, MM8.turn (O := []) (fun i x hx => by simp at hx) 0 rfl (fun x hx => (nomatch hx))⟩))
    · refine wp_cond_false ((FF7.ev 0 rfl).trans (dec_f hs33)) ?_
      refine wp_skip ?_
      refine inb_n (then_n ?_)
      refine rg_seq FF7 MM7 [o_, o_] [8, 25, 24, 0, 1, 2] (fun Kt => i + 1 < 9223372036854775808 ∧ Kt [(25, iN (i + 1)), (8, iN (twoN (X.drop (2 * i)))), (24, iN k), (0, pT g), (1, iN n), (2, iN k)] ((g, oC #[sB (X.drop (2 * (i + 1))), iN (u + 2 * (i + 1))] 53) :: ([] : Blks))) (by kernel_rfl) (fun _ => by kernel_rfl) (⟨(by omega), fun ac9 wd9 FF9 MM9 => ?_⟩)
      have hd := cnt_of (FF9.get 0 rfl)
      refine then_n ⟨⟨i + 1, by omega, bel_no hb hlt hs33, FF9.pick [0, 2, 3, 4, 5], MM9⟩, ?_⟩
      rw [hc, hd]; omega
  · skip
    refine then_n (.inr ⟨(FF5.ev 0 rfl).trans (dec_f hlt), ?_⟩)
    have hik : i = k := by omega
    subst hik
    have hE := bel_end hb
    refine then_n ?_
    refine wp_seq (rg_seq FF5 MM5 [o_, o_] [25, 24, 0, 1, 2, 6, 7] (fun Kt => Kt [(7, iN 3), (6, iN 0), (25, iN i), (24, iN i), (0, pT g), (1, iN n), (2, iN i)] ((g, oC #[sB (X.drop (2 * i)), iN (u + 2 * i)] 53) :: ([] : Blks))) (by kernel_rfl) (fun _ => by kernel_rfl) (fun ac10 wd10 FF10 MM10 => then_n ?_))
    refine wp_ret ?_
    repeat first | refine then_ret ?_ | refine inb_ret ?_
    exact (ret_tup2 FF10 1 0 Try.results21 rfl rfl (by rw [hE]; exact ⟨rfl, MM10.turn (O := []) (fun i x hx => by simp at hx) 0 rfl (fun x hx => (nomatch hx))⟩))
end Go.Proofs.Ytdckihmiggcpfaa
namespace Go.Proofs.Ytdckihmiggcpfaa
open Go.RowKit
theorem en_rtake : Enters Try.prog 27 := fun args w => by simp [go_sem]
theorem en_rbelow : Enters Try.prog 23 := fun args w => by simp [go_sem]
/-- The document's tape: its bytes, how many were taken. -/
abbrev RB (X : List Nat) (u : Nat) : Obj := .cells #[sB X, iN u] 32
set_option maxRecDepth 100000 in
theorem rtake_any (g n : Nat) (X : List Nat) (u : Nat) (hX : ∀ i, X.getD i 0 < 256) (hu : u < 4611686018427387904) (hn : n ≤ 65536) (w0 : World) (hg : w0.heap[g]? = some (RB X u)) :
    Calls Try.prog 27 #[pT g, iN n] w0 fun e w' => e = .returned (sB (takN n (X.drop u))) ∧ Turn g (RB X (u + n)) w0 w' := by
  refine enter_fr Try.func27 rfl Try.ntmps27 (by simp) fun ac (FF : Fr 51 ac [(0, pT g), (1, iN n)]) => ?_
  have MM : MemS (fun k => k < w0.heap.size ∧ ∀ x ∈ (g, oC #[sB X, iN u] 32) :: ([] : Blks), x.1 ≠ k) w0 w0 ((g, oC #[sB X, iN u] 32) :: ([] : Blks)) [] := MemS.startN (one_has hg) ⟨fun y hy => (nomatch hy), trivial⟩
  have hgl : ∀ j i, (genL n (fun j => (X.drop u).getD j 0) j).getD i 0 < 256 := fun j => genL_lt (by decide) (fun i => dropX_lt hX u i) j
  refine wp_seq (rg_seq FF MM [o_] [0, 1, 4] (fun Kt => Kt [(4, sB []), (0, pT g), (1, iN n)] ((g, oC #[sB X, iN u] 32) :: ([] : Blks))) (by kernel_rfl) (fun _ => by kernel_rfl) (fun ac1 wd1 FF1 MM1 => then_n ?_))
  refine wp_seq ?_
  refine wp_seq (rg_seq FF1 MM1 [o_, w_ 3, o_, o_, w_ 3, o_] [4, 0, 1, 12] (fun Kt => ¬ (n < 0) ∧ ¬ (n > 65536) ∧ Kt [(12, .bool false), (4, sB []), (0, pT g), (1, iN n)] ((g, oC #[sB X, iN u] 32) :: ([] : Blks))) (by kernel_rfl) (fun _ => by kernel_rfl) (⟨(by have := hn; omega), (by have := hn; omega), fun ac2 wd2 FF2 MM2 => then_n ?_⟩))
  refine wp_cond_false (FF2.ev 0 rfl) ?_
  refine wp_skip ?_
  refine then_n ?_
  refine wp_seq (rg_seq FF2 MM2 [o_, n_ (.slice none n n) (.cells (cn .u8 (List.replicate n 0)) 5), o_] [4, 0, 1, 5] (fun Kt => RunN Try.prog [(13, iN n), (12, .bool false), (4, sB []), (0, pT g), (1, iN n)] ((g, oC #[sB X, iN u] 32) :: ([] : Blks)) (opAt Try.f27 3 1) (mkOf (.slice none n n)) (.cells (cn .u8 (List.replicate n 0)) 5) ∧ ∀ bo, Kt [(5, .slice (some ⟨bo, 0, none⟩) n n), (4, sB []), (0, pT g), (1, iN n)] ((bo, .cells (cn .u8 (List.replicate n 0)) 5) :: (g, oC #[sB X, iN u] 32) :: ([] : Blks))) (by kernel_rfl) (fun _ => by kernel_rfl) (⟨(make_ok (t := 51) (e := 5) (p := (.tmp 13)) (q := (.tmp 13)) (by kernel_rfl) rfl rfl Try.underlying51 (by kernel_rfl) (by have := hn; omega)), fun bo => fun ac3 wd3 FF3 MM3 => then_n ?_⟩))
  have MMr10 : MemS (fun k => k < w0.heap.size ∧ ∀ x ∈ (g, oC #[sB X, iN u] 32) :: ([] : Blks), x.1 ≠ k) w0 wd3 ((bo, .cells (cn .u8 (genL n (fun j => (X.drop u).getD j 0) 0)) 5) :: (g, oC #[sB X, iN u] 32) :: ([] : Blks)) [] := by rw [← genL_zero n (fun j => (X.drop u).getD j 0)]; exact MM3
  refine wp_seq ?_
  refine wp_seq (rg_seq FF3 MMr10 [o_] [5, 4, 0, 1, 6] (fun Kt => Kt [(6, iN 0), (5, .slice (some ⟨bo, 0, none⟩) n n), (4, sB []), (0, pT g), (1, iN n)] ((bo, .cells (cn .u8 (genL n (fun j => (X.drop u).getD j 0) 0)) 5) :: (g, oC #[sB X, iN u] 32) :: ([] : Blks))) (by kernel_rfl) (fun _ => by kernel_rfl) (fun ac4 wd4 FF4 MM4 => then_n ?_))
  refine wp_for2 (fun a' w' => ∃ i : Nat, i ≤ n ∧ Fr 51 a' [(6, iN i), (5, .slice (some ⟨bo, 0, none⟩) n n), (4, sB []), (0, pT g), (1, iN n)] ∧ MemS (fun k => k < w0.heap.size ∧ ∀ x ∈ (g, oC #[sB X, iN u] 32) :: ([] : Blks), x.1 ≠ k) w0 w' ((bo, .cells (cn .u8 (genL n (fun j => (X.drop u).getD j 0) i)) 5) :: (g, oC #[sB X, iN (u + i)] 32) :: ([] : Blks)) []) (fun a' _ => (n - cnt 6 a').toNat) ⟨0, Nat.zero_le _, FF4.pick [0, 1, 2, 3, 4], MM4⟩ ?_
  rintro ac5 wd5 ⟨i, hi, FF5, MM5⟩
  have hc := cnt_of (FF5.get 0 rfl)
  refine rg_seq FF5 MM5 [o_, o_, o_] [6, 5, 4, 0, 1, 17] (fun Kt => Kt [(17, .bool (decide (i < n))), (6, iN i), (5, .slice (some ⟨bo, 0, none⟩) n n), (4, sB []), (0, pT g), (1, iN n)] ((bo, .cells (cn .u8 (genL n (fun j => (X.drop u).getD j 0) i)) 5) :: (g, oC #[sB X, iN (u + i)] 32) :: ([] : Blks))) (by kernel_rfl) (fun _ => by kernel_rfl) (fun ac6 wd6 FF6 MM6 => ?_)
  by_cases hlt : i < n
  · skip
    refine then_n (.inl ⟨(FF6.ev 0 rfl).trans (dec_t hlt), ?_⟩)
    refine wp_mid (fun a' w' => Fr 51 a' [(6, iN i), (5, .slice (some ⟨bo, 0, none⟩) n n), (4, sB []), (0, pT g), (1, iN n)] ∧ MemS (fun k => k < w0.heap.size ∧ ∀ x ∈ (g, oC #[sB X, iN u] 32) :: ([] : Blks), x.1 ≠ k) w0 w' ((bo, .cells (cn .u8 (genL n (fun j => (X.drop u).getD j 0) (i + 1))) 5) :: (g, oC #[sB X, iN (u + i)] 32) :: ([] : Blks)) []) ?_ ?_
    · skip
      refine wp_seq (rg_draw FF6 MM6 [.inl (pT g), .inl (pT g), .inl (.pointer (some ⟨g, 1, none⟩)), .inl (iN (u + i)), .inl (pT g), .inl (pT g), .inl (pT g), .inl (sB X), .inl (iN X.length), .inl (.bool (decide ((u + i) < X.length)))] [] [o_, o_, o_, l_ 1 (iN (u + i)), o_, o_, o_, l_ 1 (sB X), t_ (iN X.length), o_] [] [6, 5, 4, 0, 1, 29] (fun nb => [g = g, (#[sB X, iN (u + i)] : Array Value)[1]? = some (iN (u + i)), g = g, (#[sB X, iN (u + i)] : Array Value)[0]? = some (sB X), iN ((bs X).size) = iN X.length]) (fun nb Kt => Kt [(29, .bool (decide ((u + i) < X.length))), (6, iN i), (5, .slice (some ⟨bo, 0, none⟩) n n), (4, sB []), (0, pT g), (1, iN n)] ((bo, .cells (cn .u8 (genL n (fun j => (X.drop u).getD j 0) i)) 5) :: (g, oC #[sB X, iN (u + i)] 32) :: ([] : Blks))) (by kernel_rfl) (by kernel_rfl) (by kernel_rfl) (fun _ => by kernel_rfl) (fun _ _ => by kernel_rfl) trivial (fun nb => ⟨rfl, rfl, rfl, rfl, (vI (bs_size _)), trivial⟩) (fun nb => fun ac7 wd7 FF7 MM7 => then_n ?_))
      by_cases hs29 : (u + i) < X.length
      · refine wp_cond_true ((FF7.ev 0 rfl).trans (dec_t hs29)) ?_
        refine rg_draw FF7 MM7 [.inl (.slice (some ⟨bo, 0, none⟩) n n), .inl (iN i), .inl (pT g), .inl (pT g), .inl (pT g), .inl (sB X), .inl (pT g), .inl (pT g), .inl (.pointer (some ⟨g, 1, none⟩)), .inl (iN (u + i)), .inl (iB ((X.drop u).getD i 0)), .inl (.pointer (some ⟨bo, i, none⟩))] [] [o_, o_, o_, o_, o_, l_ 1 (sB X), o_, o_, o_, l_ 1 (iN (u + i)), t_ (iB ((X.drop u).getD i 0)), w_ 1] [s_ 0 (.cells (cn .u8 (genL n (fun j => (X.drop u).getD j 0) (i + 1))) 5)] [6, 5, 4, 0, 1] (fun nb => [g = g, (#[sB X, iN (u + i)] : Array Value)[0]? = some (sB X), g = g, (#[sB X, iN (u + i)] : Array Value)[1]? = some (iN (u + i)), (u + i) < (bs X).size, (nl (bs X)).getD (u + i) 0 = (X.drop u).getD i 0, i < n]) (fun nb Kt => bo = bo ∧ i < (cn .u8 (genL n (fun j => (X.drop u).getD j 0) i)).size ∧ (((0, 0)).2 = 0 ∨ i < ((0, 0)).1) ∧ (cn .u8 (genL n (fun j => (X.drop u).getD j 0) i)).setIfInBounds i (iB ((X.drop u).getD i 0)) = cn .u8 (genL n (fun j => (X.drop u).getD j 0) (i + 1)) ∧ Kt [(6, iN i), (5, .slice (some ⟨bo, 0, none⟩) n n), (4, sB []), (0, pT g), (1, iN n)] ((bo, .cells (cn .u8 (genL n (fun j => (X.drop u).getD j 0) (i + 1))) 5) :: (g, oC #[sB X, iN (u + i)] 32) :: ([] : Blks))) (by kernel_rfl) (by kernel_rfl) (by kernel_rfl) (fun _ => by kernel_rfl) (fun _ _ => by kernel_rfl) trivial (fun nb => ⟨rfl, rfl, rfl, rfl, (by rw [bs_size]; exact hs29), ((byte_bs hX _).trans (dropD X u i).symm), (by omega), trivial⟩) (fun nb => ⟨rfl, (by rw [cn_size, (genL_len _ _ _)]; omega), (.inl rfl), ((cn_set _ _ _ _).trans (congrArg _ (genL_step _ _ i (by omega) rfl))), fun ac8 wd8 FF8 MM8 => ?_⟩)
        refine then_n ?_
        exact ⟨FF8.pick [0, 1, 2, 3, 4], MM8⟩
      · refine wp_cond_false ((FF7.ev 0 rfl).trans (dec_f hs29)) ?_
        have MMr29 : MemS (fun k => k < w0.heap.size ∧ ∀ x ∈ (g, oC #[sB X, iN u] 32) :: ([] : Blks), x.1 ≠ k) w0 wd7 ((bo, .cells (cn .u8 (genL n (fun j => (X.drop u).getD j 0) (i + 1))) 5) :: (g, oC #[sB X, iN (u + i)] 32) :: ([] : Blks)) [] := by rw [tk_zero (X := X.drop u) (by simp; omega) hlt]; exact MM7
        refine wp_skip ?_
        refine then_n ?_
        exact ⟨FF7.pick [1, 2, 3, 4, 5], MMr29⟩
    · rintro ac9 wd9 ⟨FF9, MM9⟩
      refine rg_seq FF9 MM9 [o_, o_, o_, l_ 1 (iN (u + i)), o_, o_, o_, s_ 1 (oC #[sB X, iN ((u + i) + 1)] 32)] [6, 5, 4, 0, 1] (fun Kt => g = g ∧ (#[sB X, iN (u + i)] : Array Value)[1]? = some (iN (u + i)) ∧ (u + i) + 1 < 9223372036854775808 ∧ g = g ∧ 1 < (#[sB X, iN (u + i)] : Array Value).size ∧ (((0, 0)).2 = 0 ∨ 1 < ((0, 0)).1) ∧ (#[sB X, iN (u + i)] : Array Value).setIfInBounds 1 (iN ((u + i) + 1)) = #[sB X, iN ((u + i) + 1)] ∧ Kt [(6, iN i), (5, .slice (some ⟨bo, 0, none⟩) n n), (4, sB []), (0, pT g), (1, iN n)] ((bo, .cells (cn .u8 (genL n (fun j => (X.drop u).getD j 0) (i + 1))) 5) :: (g, oC #[sB X, iN ((u + i) + 1)] 32) :: ([] : Blks))) (by kernel_rfl) (fun _ => by kernel_rfl) (⟨rfl, rfl, (by omega), rfl, (by simp), (.inl rfl), rfl, fun ac10 wd10 FF10 MM10 => ?_⟩)
      refine inb_n (then_n ?_)
      refine rg_seq FF10 MM10 [o_, o_, o_] [6, 5, 4, 0, 1] (fun Kt => i + 1 < 9223372036854775808 ∧ Kt [(6, iN (i + 1)), (5, .slice (some ⟨bo, 0, none⟩) n n), (4, sB []), (0, pT g), (1, iN n)] ((bo, .cells (cn .u8 (genL n (fun j => (X.drop u).getD j 0) (i + 1))) 5) :: (g, oC #[sB X, iN ((u + i) + 1)] 32) :: ([] : Blks))) (by kernel_rfl) (fun _ => by kernel_rfl) (⟨(by omega), fun ac11 wd11 FF11 MM11 => ?_⟩)
      have hd := cnt_of (FF11.get 0 rfl)
      refine then_n ⟨⟨i + 1, by omega, FF11.pick [0, 1, 2, 3, 4], MM11⟩, ?_⟩
      rw [hc, hd]; omega
  · skip
    refine then_n (.inr ⟨(FF6.ev 0 rfl).trans (dec_f hlt), ?_⟩)
    obtain rfl : n = i := by omega
    have MMl : MemS (fun k => k < w0.heap.size ∧ ∀ x ∈ (g, oC #[sB X, iN u] 32) :: ([] : Blks), x.1 ≠ k) w0 wd6 ((bo, .cells (cn .u8 (takN n (X.drop u))) 5) :: (g, oC #[sB X, iN (u + n)] 32) :: ([] : Blks)) [] := by rw [← tkI_end n (X.drop u)]; exact MM6
    refine then_n ?_
    refine wp_seq (rg_seq FF6 MMl [o_, l_ 0 (sB (takN n (X.drop u))), o_] [6, 5, 4, 0, 1] (fun Kt => bo = bo ∧ StrAt (cn .u8 (takN n (X.drop u))) 0 n (bs (takN n (X.drop u))) ∧ Kt [(4, sB (takN n (X.drop u))), (6, iN n), (5, .slice (some ⟨bo, 0, none⟩) n n), (0, pT g), (1, iN n)] ((bo, .cells (cn .u8 (takN n (X.drop u))) 5) :: (g, oC #[sB X, iN (u + n)] 32) :: ([] : Blks))) (by kernel_rfl) (fun _ => by kernel_rfl) (⟨rfl, (str_all (takN_len _ _) (takN_lt (dropX_lt hX u) n)), fun ac12 wd12 FF12 MM12 => then_n ?_⟩))
    refine wp_ret ?_
    repeat first | refine then_ret ?_ | refine inb_ret ?_
    exact (ret_fr FF12 0 Try.results27 rfl ⟨rfl, MM12.turn (O := []) (fun i x hx => by simp at hx) 1 rfl (fun x hx => (nomatch hx))⟩)
set_option maxRecDepth 100000 in
theorem rbelow_any (g : Nat) (X : List Nat) (u : Nat) (hX : ∀ i, X.getD i 0 < 256) (hu : u < 4611686018427000000) (n k : Nat) (h1 : 1 ≤ n) (hn : n ≤ 65536) (hk1 : 1 ≤ k) (hk : k ≤ 16) (w0 : World) (hg : w0.heap[g]? = some (RB X u)) :
    Calls Try.prog 23 #[pT g, iN n, iN k] w0 fun e w' => e = .returned (.tuple #[iN ((belN n k (X.drop u)).1), iN ((belN n k (X.drop u)).2.1)]) ∧ Turn g (RB X (u + (belN n k (X.drop u)).2.2)) w0 w' := by
  refine enter_fr Try.func23 rfl Try.ntmps23 (by simp) fun ac (FF : Fr 45 ac [(0, pT g), (1, iN n), (2, iN k)]) => ?_
  have MM : MemS (fun k => k < w0.heap.size ∧ ∀ x ∈ (g, oC #[sB X, iN u] 32) :: ([] : Blks), x.1 ≠ k) w0 w0 ((g, oC #[sB X, iN u] 32) :: ([] : Blks)) [] := MemS.startN (one_has hg) ⟨fun y hy => (nomatch hy), trivial⟩
  refine wp_seq (rg_seq FF MM [o_, o_] [0, 1, 2, 6, 7] (fun Kt => Kt [(7, iN 0), (6, iN 0), (0, pT g), (1, iN n), (2, iN k)] ((g, oC #[sB X, iN u] 32) :: ([] : Blks))) (by kernel_rfl) (fun _ => by kernel_rfl) (fun ac1 wd1 FF1 MM1 => then_n ?_))
  refine wp_seq ?_
  refine wp_seq (rg_seq FF1 MM1 [o_, w_ 3, o_, o_, w_ 3, o_, o_, o_, t_ (.bool true), o_, o_] [7, 6, 0, 1, 2, 21] (fun Kt => ¬ (n < 1) ∧ ¬ (n > 65536) ∧ CallP Try.prog 22 [iN k] [] (.bool true) ∧ Kt [(21, .bool false), (7, iN 0), (6, iN 0), (0, pT g), (1, iN n), (2, iN k)] ((g, oC #[sB X, iN u] 32) :: ([] : Blks))) (by kernel_rfl) (fun _ => by kernel_rfl) (⟨(by omega), (by omega), (callP_of en_tries (tries_yes k (by omega) (by omega)) _), fun ac2 wd2 FF2 MM2 => then_n ?_⟩))
  refine wp_cond_false (FF2.ev 0 rfl) ?_
  refine wp_skip ?_
  refine then_n ?_
  refine wp_seq ?_
  refine wp_seq (rg_seq FF2 MM2 [o_] [7, 6, 0, 1, 2, 8] (fun Kt => Kt [(8, iN 0), (7, iN 0), (6, iN 0), (0, pT g), (1, iN n), (2, iN k)] ((g, oC #[sB X, iN u] 32) :: ([] : Blks))) (by kernel_rfl) (fun _ => by kernel_rfl) (fun ac3 wd3 FF3 MM3 => then_n ?_))
  refine wp_for2 (fun a' w' => ∃ i : Nat, i ≤ k ∧ BelI n k (X.drop u) i ∧ Fr 45 a' [(8, iN i), (0, pT g), (1, iN n), (2, iN k)] ∧ MemS (fun k => k < w0.heap.size ∧ ∀ x ∈ (g, oC #[sB X, iN u] 32) :: ([] : Blks), x.1 ≠ k) w0 w' ((g, oC #[sB X, iN (u + 2 * i)] 32) :: ([] : Blks)) []) (fun a' _ => (k - cnt 8 a').toNat) ⟨0, Nat.zero_le _, bel_start _ _ _, FF3.pick [0, 3, 4, 5], MM3⟩ ?_
  rintro ac4 wd4 ⟨i, hi, hb, FF4, MM4⟩
  have hc := cnt_of (FF4.get 0 rfl)
  refine rg_seq FF4 MM4 [o_, o_, o_] [8, 0, 1, 2, 24] (fun Kt => Kt [(24, .bool (decide (i < k))), (8, iN i), (0, pT g), (1, iN n), (2, iN k)] ((g, oC #[sB X, iN (u + 2 * i)] 32) :: ([] : Blks))) (by kernel_rfl) (fun _ => by kernel_rfl) (fun ac5 wd5 FF5 MM5 => ?_)
  by_cases hlt : i < k
  · skip
    refine then_n (.inl ⟨(FF5.ev 0 rfl).trans (dec_t hlt), ?_⟩)
    refine wp_seq (rg_seq FF5 MM5 [o_, c_ (sB (takN 2 (X.drop (u + 2 * i)))) [(0, oC #[sB X, iN (u + 2 * (i + 1))] 32)], o_] [8, 0, 1, 2, 9] (fun Kt => CallU Try.prog 27 [pT g, iN 2] ((g, oC #[sB X, iN (u + 2 * i)] 32) :: ([] : Blks)) (sB (takN 2 (X.drop (u + 2 * i)))) [(0, oC #[sB X, iN (u + 2 * (i + 1))] 32)] ∧ Kt [(9, sB (takN 2 (X.drop (u + 2 * i)))), (8, iN i), (0, pT g), (1, iN n), (2, iN k)] ((g, oC #[sB X, iN (u + 2 * (i + 1))] 32) :: ([] : Blks))) (by kernel_rfl) (fun _ => by kernel_rfl) (⟨(callU_turn en_rtake (g := g) (ob := RB X (u + 2 * i)) rfl fun w hg => by have h0 := rtake_any g 2 X (u + 2 * i) hX (by omega) (by decide) w hg; exact h0), fun ac6 wd6 FF6 MM6 => then_n ?_⟩))
    have h20 := takN_lt (dropX_lt hX (u + 2 * i)) 2 0
    have h21 := takN_lt (dropX_lt hX (u + 2 * i)) 2 1
    have htw := two_lt (dropX_lt hX (u + 2 * i))
    refine wp_seq (rg_draw FF6 MM6 [.inl (sB (takN 2 (X.drop (u + 2 * i)))), .inl (iB ((takN 2 (X.drop (u + 2 * i))).getD 0 0)), .inl (iN ((takN 2 (X.drop (u + 2 * i))).getD 0 0)), .inl (sB (takN 2 (X.drop (u + 2 * i)))), .inl (iB ((takN 2 (X.drop (u + 2 * i))).getD 1 0)), .inl (iN ((takN 2 (X.drop (u + 2 * i))).getD 1 0)), .inl (iN (256 * ((takN 2 (X.drop (u + 2 * i))).getD 1 0))), .inl (iN (twoN (X.drop (u + 2 * i)))), .inl (iN (twoN (X.drop (u + 2 * i))))] [] [o_, t_ (iB ((takN 2 (X.drop (u + 2 * i))).getD 0 0)), w_ 1, o_, t_ (iB ((takN 2 (X.drop (u + 2 * i))).getD 1 0)), w_ 1, o_, t_ (iN (twoN (X.drop (u + 2 * i)))), o_] [] [9, 8, 0, 1, 2, 10] (fun nb => [0 < (bs (takN 2 (X.drop (u + 2 * i)))).size, (nl (bs (takN 2 (X.drop (u + 2 * i))))).getD 0 0 = (takN 2 (X.drop (u + 2 * i))).getD 0 0, ((takN 2 (X.drop (u + 2 * i))).getD 0 0) < 9223372036854775808, 1 < (bs (takN 2 (X.drop (u + 2 * i)))).size, (nl (bs (takN 2 (X.drop (u + 2 * i))))).getD 1 0 = (takN 2 (X.drop (u + 2 * i))).getD 1 0, ((takN 2 (X.drop (u + 2 * i))).getD 1 0) < 9223372036854775808, 256 * ((takN 2 (X.drop (u + 2 * i))).getD 1 0) < 9223372036854775808, ((takN 2 (X.drop (u + 2 * i))).getD 0 0) + (256 * ((takN 2 (X.drop (u + 2 * i))).getD 1 0)) < 9223372036854775808, iN (((takN 2 (X.drop (u + 2 * i))).getD 0 0) + (256 * ((takN 2 (X.drop (u + 2 * i))).getD 1 0))) = iN (twoN (X.drop (u + 2 * i)))]) (fun nb Kt => Kt [(10, iN (twoN (X.drop (u + 2 * i)))), (9, sB (takN 2 (X.drop (u + 2 * i)))), (8, iN i), (0, pT g), (1, iN n), (2, iN k)] ((g, oC #[sB X, iN (u + 2 * (i + 1))] 32) :: ([] : Blks))) (by kernel_rfl) (by kernel_rfl) (by kernel_rfl) (fun _ => by kernel_rfl) (fun _ _ => by kernel_rfl) trivial (fun nb => ⟨(by rw [bs_size, takN_len]; decide), (byte_bs (takN_lt (dropX_lt hX (u + 2 * i)) 2) _), (by have := (takN_lt (dropX_lt hX (u + 2 * i)) 2) 0; omega), (by rw [bs_size, takN_len]; decide), (byte_bs (takN_lt (dropX_lt hX (u + 2 * i)) 2) _), (by have := (takN_lt (dropX_lt hX (u + 2 * i)) 2) 1; omega), (by have := (takN_lt (dropX_lt hX (u + 2 * i)) 2) 1; omega), (by have := (takN_lt (dropX_lt hX (u + 2 * i)) 2) 0; have := (takN_lt (dropX_lt hX (u + 2 * i)) 2) 1; omega), (vI (by rw [takN_get _ (by decide), takN_get _ (by decide)]; rfl)), trivial⟩) (fun nb => fun ac7 wd7 FF7 MM7 => then_n ?_))
    refine wp_seq (rg_seq FF7 MM7 [o_, o_, o_, o_, o_] [10, 9, 8, 0, 1, 2, 41] (fun Kt => n ≠ 0 ∧ (65536 % n) ≤ 65536 ∧ 65536 - (65536 % n) < 9223372036854775808 ∧ Kt [(41, .bool (decide ((twoN (X.drop (u + 2 * i))) < (65536 - (65536 % n))))), (10, iN (twoN (X.drop (u + 2 * i)))), (9, sB (takN 2 (X.drop (u + 2 * i)))), (8, iN i), (0, pT g), (1, iN n), (2, iN k)] ((g, oC #[sB X, iN (u + 2 * (i + 1))] 32) :: ([] : Blks))) (by kernel_rfl) (fun _ => by kernel_rfl) (⟨(by have := hn; omega), (Nat.mod_le _ _), (by have := hn; omega), fun ac8 wd8 FF8 MM8 => then_n ?_⟩))
    by_cases hs41 : (twoN (X.drop (u + 2 * i))) < (65536 - (65536 % n))
    · refine wp_cond_true ((FF8.ev 0 rfl).trans (dec_t hs41)) ?_
      have hE := bel_yes hb hlt (by rw [List.drop_drop]; exact hs41)
      refine wp_seq (rg_seq FF8 MM8 [o_, o_, o_, o_, o_] [10, 9, 8, 0, 1, 2, 6, 7] (fun Kt => n ≠ 0 ∧ Kt [(7, iN 0), (6, iN ((twoN (X.drop (u + 2 * i))) % n)), (10, iN (twoN (X.drop (u + 2 * i)))), (9, sB (takN 2 (X.drop (u + 2 * i)))), (8, iN i), (0, pT g), (1, iN n), (2, iN k)] ((g, oC #[sB X, iN (u + 2 * (i + 1))] 32) :: ([] : Blks))) (by kernel_rfl) (fun _ => by kernel_rfl) (⟨(by have := htw; have := hn; omega), fun ac9 wd9 FF9 MM9 => then_n ?_⟩))
      refine wp_ret ?_
      repeat first | refine then_ret ?_ | refine inb_ret ?_
      exact (ret_tup2 FF9 1 0 Try.results23 rfl rfl (by rw [hE]; exact ⟨by rw [List.drop_drop], MM9.turn (O := []) (fun i x hx => by simp at hx) 0 rfl (fun x hx => (nomatch hx))⟩))
    · refine wp_cond_false ((FF8.ev 0 rfl).trans (dec_f hs41)) ?_
      refine wp_skip ?_
      refine inb_n (then_n ?_)
      refine rg_seq FF8 MM8 [o_, o_, o_] [10, 9, 8, 0, 1, 2] (fun Kt => i + 1 < 9223372036854775808 ∧ Kt [(8, iN (i + 1)), (10, iN (twoN (X.drop (u + 2 * i)))), (9, sB (takN 2 (X.drop (u + 2 * i)))), (0, pT g), (1, iN n), (2, iN k)] ((g, oC #[sB X, iN (u + 2 * (i + 1))] 32) :: ([] : Blks))) (by kernel_rfl) (fun _ => by kernel_rfl) (⟨(by omega), fun ac10 wd10 FF10 MM10 => ?_⟩)
      have hd := cnt_of (FF10.get 0 rfl)
      refine then_n ⟨⟨i + 1, by omega, bel_no hb hlt (by rw [List.drop_drop]; exact hs41), FF10.pick [0, 3, 4, 5], MM10⟩, ?_⟩
      rw [hc, hd]; omega
  · skip
    refine then_n (.inr ⟨(FF5.ev 0 rfl).trans (dec_f hlt), ?_⟩)
    have hik : i = k := by omega
    subst hik
    have hE := bel_end hb
    refine then_n ?_
    refine wp_seq (rg_seq FF5 MM5 [o_, o_] [8, 0, 1, 2, 6, 7] (fun Kt => Kt [(7, iN 3), (6, iN 0), (8, iN i), (0, pT g), (1, iN n), (2, iN i)] ((g, oC #[sB X, iN (u + 2 * i)] 32) :: ([] : Blks))) (by kernel_rfl) (fun _ => by kernel_rfl) (fun ac11 wd11 FF11 MM11 => then_n ?_))
    refine wp_ret ?_
    repeat first | refine then_ret ?_ | refine inb_ret ?_
    exact (ret_tup2 FF11 1 0 Try.results23 rfl rfl (by rw [hE]; exact ⟨rfl, MM11.turn (O := []) (fun i x hx => by simp at hx) 0 rfl (fun x hx => (nomatch hx))⟩))
end Go.Proofs.Ytdckihmiggcpfaa
namespace Go.Proofs.Ytdckihmiggcpfaa
open Go.RowKit
theorem en_inrow : Enters Try.prog 20 := fun args w => by simp [go_sem]
theorem en_omay : Enters Try.prog 19 := fun args w => by simp [go_sem]
theorem en_isord : Enters Try.prog 24 := fun args w => by simp [go_sem]
theorem en_oshuf : Enters Try.prog 9 := fun args w => by simp [go_sem]
theorem en_oinv : Enters Try.prog 14 := fun args w => by simp [go_sem]
theorem en_olay : Enters Try.prog 15 := fun args w => by simp [go_sem]
theorem en_rshuf : Enters Try.prog 10 := fun args w => by simp [go_sem]
theorem en_rmay : Enters Try.prog 13 := fun args w => by simp [go_sem]
theorem en_rinv : Enters Try.prog 17 := fun args w => by simp [go_sem]
theorem en_rlay : Enters Try.prog 18 := fun args w => by simp [go_sem]
theorem en_kints : Enters Try.prog 11 := fun args w => by simp [go_sem]
theorem en_ktexts : Enters Try.prog 16 := fun args w => by simp [go_sem]
set_option maxRecDepth 100000 in
theorem kints_O (O : Blks) (hD : Distinct O) (p : Option Addr) (n c : Nat) (q : Option Addr) (d : Nat) (F G : Nat → Int) (hn : n ≤ 1000000) (hE : ∀ i, i < n → F i = G i) (hF : RowO O p n (fun k9 => .int .i64 (F k9))) (hG : RowO O q n (fun k9 => .int .i64 (G k9))) (w0 : World) (H : Has w0 O) :
    Calls Try.prog 11 #[.slice p n c, .slice q n d] w0 fun e w' => e = .returned (.bool true) ∧ Below w0.heap.size w0 w' := by
  refine enter_fr Try.func11 rfl Try.ntmps11 (by simp) fun ac (FF : Fr 26 ac [(0, .slice p n c), (1, .slice q n d)]) => ?_
  have MM : MemS (fun k => k < w0.heap.size ∧ ∀ x ∈ O, x.1 ≠ k) w0 w0 O [] := MemS.startN H hD
  refine wp_seq (rg_seq FF MM [o_] [0, 1, 4] (fun Kt => Kt [(4, .bool false), (0, .slice p n c), (1, .slice q n d)] O) (by kernel_rfl) (fun _ => by kernel_rfl) (fun ac1 wd1 FF1 MM1 => then_n ?_))
  refine wp_seq ?_
  refine wp_seq (rg_seq FF1 MM1 [o_, o_, o_, o_, w_ 3] [4, 0, 1, 10] (fun Kt => ¬ (n ≠ n) ∧ Kt [(10, .bool false), (4, .bool false), (0, .slice p n c), (1, .slice q n d)] O) (by kernel_rfl) (fun _ => by kernel_rfl) (⟨(fun h => h rfl), fun ac2 wd2 FF2 MM2 => then_n ?_⟩))
  refine wp_cond_false (FF2.ev 0 rfl) ?_
  refine wp_skip ?_
  refine then_n ?_
  refine wp_seq ?_
  refine wp_seq (rg_seq FF2 MM2 [o_] [4, 0, 1, 5] (fun Kt => Kt [(5, iN 0), (4, .bool false), (0, .slice p n c), (1, .slice q n d)] O) (by kernel_rfl) (fun _ => by kernel_rfl) (fun ac3 wd3 FF3 MM3 => then_n ?_))
  refine wp_for2 (fun a' w' => ∃ i : Nat, i ≤ n ∧ Fr 26 a' [(5, iN i), (0, .slice p n c), (1, .slice q n d)] ∧ MemS (fun k => k < w0.heap.size ∧ ∀ x ∈ O, x.1 ≠ k) w0 w' O []) (fun a' _ => (n - cnt 5 a').toNat) ⟨0, Nat.zero_le _, FF3.pick [0, 2, 3], MM3⟩ ?_
  rintro ac4 wd4 ⟨i, hi, FF4, MM4⟩
  have hc := cnt_of (FF4.get 0 rfl)
  refine rg_seq FF4 MM4 [o_, o_, o_, o_] [5, 0, 1, 14] (fun Kt => Kt [(14, .bool (decide (i < n))), (5, iN i), (0, .slice p n c), (1, .slice q n d)] O) (by kernel_rfl) (fun _ => by kernel_rfl) (fun ac5 wd5 FF5 MM5 => ?_)
  by_cases hlt : i < n
  · skip
    refine then_n (.inl ⟨(FF5.ev 0 rfl).trans (dec_t hlt), ?_⟩)
    refine wp_seq (rg_draw FF5 MM5 [.inl (.slice p n c), .inl (iN i), .inl (.pointer (some ⟨gOf p, oOf p + i, none⟩)), .inl (.int .i64 (F i : Int)), .inl (.slice q n d), .inl (iN i), .inl (.pointer (some ⟨gOf q, oOf q + i, none⟩)), .inl (.int .i64 (G i : Int)), .inl (.bool false)] [] [o_, o_, f_ (.pointer (some ⟨gOf p, oOf p + i, none⟩)), f_ (.int .i64 (F i : Int)), o_, o_, f_ (.pointer (some ⟨gOf q, oOf q + i, none⟩)), f_ (.int .i64 (G i : Int)), u_ 4 (.bool false)] [] [5, 0, 1, 25] (fun nb => [RunV Try.prog [(17, .slice p n c), (18, iN i), (14, .bool (decide (i < n))), (5, iN i), (0, .slice p n c), (1, .slice q n d)] O (opAt Try.f11 6 2) (.pointer (some ⟨gOf p, oOf p + i, none⟩)), RunV Try.prog [(19, .pointer (some ⟨gOf p, oOf p + i, none⟩)), (14, .bool (decide (i < n))), (5, iN i), (0, .slice p n c), (1, .slice q n d)] O (opAt Try.f11 6 3) (.int .i64 (F i : Int)), RunV Try.prog [(21, .slice q n d), (22, iN i), (14, .bool (decide (i < n))), (5, iN i), (0, .slice p n c), (1, .slice q n d)] O (opAt Try.f11 6 6) (.pointer (some ⟨gOf q, oOf q + i, none⟩)), RunV Try.prog [(23, .pointer (some ⟨gOf q, oOf q + i, none⟩)), (14, .bool (decide (i < n))), (5, iN i), (0, .slice p n c), (1, .slice q n d)] O (opAt Try.f11 6 7) (.int .i64 (G i : Int)), Value.bool (decide ((F i) ≠ (G i))) = .bool false]) (fun nb Kt => Kt [(25, .bool false), (5, iN i), (0, .slice p n c), (1, .slice q n d)] O) (by kernel_rfl) (by kernel_rfl) (by kernel_rfl) (fun _ => by kernel_rfl) (fun _ _ => by kernel_rfl) trivial (fun nb => ⟨(rowX_addr (x := (.tmp 17)) (y := (.tmp 18)) (k := 1) (i := i) (by kernel_rfl) rfl rfl Try.underlying23 (by kernel_rfl) hF (by omega) (by omega)), (rowX_load (x := (.tmp 19)) (j := i) (by kernel_rfl) rfl Try.underlying3 rfl hF (fun _ hx => hx) (by omega) rfl), (rowX_addr (x := (.tmp 21)) (y := (.tmp 22)) (k := 1) (i := i) (by kernel_rfl) rfl rfl Try.underlying23 (by kernel_rfl) hG (by omega) (by omega)), (rowX_load (x := (.tmp 23)) (j := i) (by kernel_rfl) rfl Try.underlying3 rfl hG (fun _ hx => hx) (by omega) rfl), (dec_f (fun h => h (hE i hlt))), trivial⟩) (fun nb => fun ac6 wd6 FF6 MM6 => then_n ?_))
    refine wp_cond_false (FF6.ev 0 rfl) ?_
    refine wp_skip ?_
    refine inb_n (then_n ?_)
    refine rg_seq FF6 MM6 [o_, o_, o_] [5, 0, 1] (fun Kt => i + 1 < 9223372036854775808 ∧ Kt [(5, iN (i + 1)), (0, .slice p n c), (1, .slice q n d)] O) (by kernel_rfl) (fun _ => by kernel_rfl) (⟨(by omega), fun ac7 wd7 FF7 MM7 => ?_⟩)
    have hd := cnt_of (FF7.get 0 rfl)
    refine then_n ⟨⟨i + 1, by omega, FF7.pick [0, 1, 2], MM7⟩, ?_⟩
    rw [hc, hd]; omega
  · skip
    refine then_n (.inr ⟨(FF5.ev 0 rfl).trans (dec_f hlt), ?_⟩)
    refine then_n ?_
    refine wp_seq (rg_seq FF5 MM5 [o_] [5, 0, 1, 4] (fun Kt => Kt [(4, .bool true), (5, iN i), (0, .slice p n c), (1, .slice q n d)] O) (by kernel_rfl) (fun _ => by kernel_rfl) (fun ac8 wd8 FF8 MM8 => then_n ?_))
    refine wp_ret ?_
    repeat first | refine then_ret ?_ | refine inb_ret ?_
    exact (ret_fr FF8 0 Try.results11 rfl ⟨rfl, MM8.belowN H (fun _ hx => hx)⟩)
theorem kints_w (p : Option Addr) (n c : Nat) (q : Option Addr) (d : Nat) (F G : Nat → Int) (hn : n ≤ 1000000) (hE : ∀ i, i < n → F i = G i) (w : World) (hF : RowIn w p n (fun k9 => .int .i64 (F k9))) (hG : RowIn w q n (fun k9 => .int .i64 (G k9))) :
    Calls Try.prog 11 #[.slice p n c, .slice q n d] w fun e w' => e = .returned (.bool true) ∧ Below w.heap.size w w' := by
  obtain ⟨O, h1, h2, h3, h4⟩ := row_O2 hF hG
  exact kints_O O h2 p n c q d F G hn hE h3 h4 w h1
set_option maxRecDepth 100000 in
theorem ktexts_O (O : Blks) (hD : Distinct O) (p : Option Addr) (n c : Nat) (q : Option Addr) (d : Nat) (s r : Nat → List Nat) (hn : n ≤ 1000000) (hE : ∀ i, i < n → s i = r i) (hF : RowO O p n (fun k9 => sB (s k9))) (hG : RowO O q n (fun k9 => sB (r k9))) (w0 : World) (H : Has w0 O) :
    Calls Try.prog 16 #[.slice p n c, .slice q n d] w0 fun e w' => e = .returned (.bool true) ∧ Below w0.heap.size w0 w' := by
  refine enter_fr Try.func16 rfl Try.ntmps16 (by simp) fun ac (FF : Fr 26 ac [(0, .slice p n c), (1, .slice q n d)]) => ?_
  have MM : MemS (fun k => k < w0.heap.size ∧ ∀ x ∈ O, x.1 ≠ k) w0 w0 O [] := MemS.startN H hD
  refine wp_seq (rg_seq FF MM [o_] [0, 1, 4] (fun Kt => Kt [(4, .bool false), (0, .slice p n c), (1, .slice q n d)] O) (by kernel_rfl) (fun _ => by kernel_rfl) (fun ac1 wd1 FF1 MM1 => then_n ?_))
  refine wp_seq ?_
  refine wp_seq (rg_seq FF1 MM1 [o_, o_, o_, o_, w_ 3] [4, 0, 1, 10] (fun Kt => ¬ (n ≠ n) ∧ Kt [(10, .bool false), (4, .bool false), (0, .slice p n c), (1, .slice q n d)] O) (by kernel_rfl) (fun _ => by kernel_rfl) (⟨(fun h => h rfl), fun ac2 wd2 FF2 MM2 => then_n ?_⟩))
  refine wp_cond_false (FF2.ev 0 rfl) ?_
  refine wp_skip ?_
  refine then_n ?_
  refine wp_seq ?_
  refine wp_seq (rg_seq FF2 MM2 [o_] [4, 0, 1, 5] (fun Kt => Kt [(5, iN 0), (4, .bool false), (0, .slice p n c), (1, .slice q n d)] O) (by kernel_rfl) (fun _ => by kernel_rfl) (fun ac3 wd3 FF3 MM3 => then_n ?_))
  refine wp_for2 (fun a' w' => ∃ i : Nat, i ≤ n ∧ Fr 26 a' [(5, iN i), (0, .slice p n c), (1, .slice q n d)] ∧ MemS (fun k => k < w0.heap.size ∧ ∀ x ∈ O, x.1 ≠ k) w0 w' O []) (fun a' _ => (n - cnt 5 a').toNat) ⟨0, Nat.zero_le _, FF3.pick [0, 2, 3], MM3⟩ ?_
  rintro ac4 wd4 ⟨i, hi, FF4, MM4⟩
  have hc := cnt_of (FF4.get 0 rfl)
  refine rg_seq FF4 MM4 [o_, o_, o_, o_] [5, 0, 1, 14] (fun Kt => Kt [(14, .bool (decide (i < n))), (5, iN i), (0, .slice p n c), (1, .slice q n d)] O) (by kernel_rfl) (fun _ => by kernel_rfl) (fun ac5 wd5 FF5 MM5 => ?_)
  by_cases hlt : i < n
  · skip
    refine then_n (.inl ⟨(FF5.ev 0 rfl).trans (dec_t hlt), ?_⟩)
    refine wp_seq (rg_draw FF5 MM5 [.inl (.slice p n c), .inl (iN i), .inl (.pointer (some ⟨gOf p, oOf p + i, none⟩)), .inl (sB (s i)), .inl (.slice q n d), .inl (iN i), .inl (.pointer (some ⟨gOf q, oOf q + i, none⟩)), .inl (sB (r i)), .inl (.bool false)] [] [o_, o_, f_ (.pointer (some ⟨gOf p, oOf p + i, none⟩)), f_ (sB (s i)), o_, o_, f_ (.pointer (some ⟨gOf q, oOf q + i, none⟩)), f_ (sB (r i)), w_ 3] [] [5, 0, 1, 25] (fun nb => [RunV Try.prog [(17, .slice p n c), (18, iN i), (14, .bool (decide (i < n))), (5, iN i), (0, .slice p n c), (1, .slice q n d)] O (opAt Try.f16 6 2) (.pointer (some ⟨gOf p, oOf p + i, none⟩)), RunV Try.prog [(19, .pointer (some ⟨gOf p, oOf p + i, none⟩)), (14, .bool (decide (i < n))), (5, iN i), (0, .slice p n c), (1, .slice q n d)] O (opAt Try.f16 6 3) (sB (s i)), RunV Try.prog [(21, .slice q n d), (22, iN i), (14, .bool (decide (i < n))), (5, iN i), (0, .slice p n c), (1, .slice q n d)] O (opAt Try.f16 6 6) (.pointer (some ⟨gOf q, oOf q + i, none⟩)), RunV Try.prog [(23, .pointer (some ⟨gOf q, oOf q + i, none⟩)), (14, .bool (decide (i < n))), (5, iN i), (0, .slice p n c), (1, .slice q n d)] O (opAt Try.f16 6 7) (sB (r i)), ¬ (bs (s i) ≠ bs (r i))]) (fun nb Kt => Kt [(25, .bool false), (5, iN i), (0, .slice p n c), (1, .slice q n d)] O) (by kernel_rfl) (by kernel_rfl) (by kernel_rfl) (fun _ => by kernel_rfl) (fun _ _ => by kernel_rfl) trivial (fun nb => ⟨(rowX_addr (x := (.tmp 17)) (y := (.tmp 18)) (k := 1) (i := i) (by kernel_rfl) rfl rfl Try.underlying24 (by kernel_rfl) hF (by omega) (by omega)), (rowX_load (x := (.tmp 19)) (j := i) (by kernel_rfl) rfl Try.underlying9 rfl hF (fun _ hx => hx) (by omega) rfl), (rowX_addr (x := (.tmp 21)) (y := (.tmp 22)) (k := 1) (i := i) (by kernel_rfl) rfl rfl Try.underlying24 (by kernel_rfl) hG (by omega) (by omega)), (rowX_load (x := (.tmp 23)) (j := i) (by kernel_rfl) rfl Try.underlying9 rfl hG (fun _ hx => hx) (by omega) rfl), (fun h => h (congrArg bs (hE i hlt))), trivial⟩) (fun nb => fun ac6 wd6 FF6 MM6 => then_n ?_))
    refine wp_cond_false (FF6.ev 0 rfl) ?_
    refine wp_skip ?_
    refine inb_n (then_n ?_)
    refine rg_seq FF6 MM6 [o_, o_, o_] [5, 0, 1] (fun Kt => i + 1 < 9223372036854775808 ∧ Kt [(5, iN (i + 1)), (0, .slice p n c), (1, .slice q n d)] O) (by kernel_rfl) (fun _ => by kernel_rfl) (⟨(by omega), fun ac7 wd7 FF7 MM7 => ?_⟩)
    have hd := cnt_of (FF7.get 0 rfl)
    refine then_n ⟨⟨i + 1, by omega, FF7.pick [0, 1, 2], MM7⟩, ?_⟩
    rw [hc, hd]; omega
  · skip
    refine then_n (.inr ⟨(FF5.ev 0 rfl).trans (dec_f hlt), ?_⟩)
    refine then_n ?_
    refine wp_seq (rg_seq FF5 MM5 [o_] [5, 0, 1, 4] (fun Kt => Kt [(4, .bool true), (5, iN i), (0, .slice p n c), (1, .slice q n d)] O) (by kernel_rfl) (fun _ => by kernel_rfl) (fun ac8 wd8 FF8 MM8 => then_n ?_))
    refine wp_ret ?_
    repeat first | refine then_ret ?_ | refine inb_ret ?_
    exact (ret_fr FF8 0 Try.results16 rfl ⟨rfl, MM8.belowN H (fun _ hx => hx)⟩)
theorem ktexts_w (p : Option Addr) (n c : Nat) (q : Option Addr) (d : Nat) (s r : Nat → List Nat) (hn : n ≤ 1000000) (hE : ∀ i, i < n → s i = r i) (w : World) (hF : RowIn w p n (fun k9 => sB (s k9))) (hG : RowIn w q n (fun k9 => sB (r k9))) :
    Calls Try.prog 16 #[.slice p n c, .slice q n d] w fun e w' => e = .returned (.bool true) ∧ Below w.heap.size w w' := by
  obtain ⟨O, h1, h2, h3, h4⟩ := row_O2 hF hG
  exact ktexts_O O h2 p n c q d s r hn hE h3 h4 w h1
/-- A row of numbers that was made. -/
def NewF (n : Nat) (F : Nat → Value) (T : TypeId) (w w' : World) (v : Value) : Prop := ∃ g, v = .slice (some ⟨g, 0, none⟩) n n ∧ Below w.heap.size w w' ∧ w.heap.size ≤ g ∧ w'.heap[g]? = some (.cells (fc n F) T)
set_option maxRecDepth 100000 in
theorem inrow_any (n : Nat) (hn : n ≤ 1000000) (w0 : World) : Calls Try.prog 20 #[iN n] w0 fun e w' => ∃ v, e = .returned v ∧ NewF n (fun k9 => iN k9) 3 w0 w' v := by
  refine enter_fr Try.func20 rfl Try.ntmps20 (by simp) fun ac (FF : Fr 18 ac [(0, iN n)]) => ?_
  have MM := MemS.start w0
  refine wp_seq (rg_seq FF MM [o_] [0, 2] (fun Kt => Kt [(2, .slice none 0 0), (0, iN n)] []) (by kernel_rfl) (fun _ => by kernel_rfl) (fun ac1 wd1 FF1 MM1 => then_n ?_))
  refine wp_seq (rg_seq FF1 MM1 [o_, n_ (.slice none n n) (.cells (fc n (fun k9 => iN 0)) 3), o_] [2, 3] (fun Kt => RunN Try.prog [(5, iN n), (2, .slice none 0 0), (0, iN n)] [] (opAt Try.f20 1 1) (mkOf (.slice none n n)) (.cells (fc n (fun k9 => iN 0)) 3) ∧ ∀ bl, Kt [(3, .slice (some ⟨bl, 0, none⟩) n n), (2, .slice none 0 0)] [(bl, .cells (fc n (fun k9 => iN 0)) 3)]) (by kernel_rfl) (fun _ => by kernel_rfl) (⟨(makeF_ok (t := 23) (e := 3) (p := (.tmp 5)) (q := (.tmp 5)) (bb := 8) (z := iN 0) (by kernel_rfl) rfl rfl Try.underlying23 (by kernel_rfl) rfl (by have := hn; omega) (by have := hn; omega)), fun bl => fun ac2 wd2 FF2 MM2 => then_n ?_⟩))
  have MMr3 : MemS (fun k => k < w0.heap.size) w0 wd2 [(bl, .cells (fc n (fun k9 => iN (if k9 < 0 then k9 else 0))) 3)] [] := by rw [show fc n (fun k9 => iN (if k9 < 0 then k9 else 0)) = fc n (fun k9 => iN 0) from fc_cong fun k _ => vI (by rw [if_neg (Nat.not_lt_zero _)])]; exact MM2
  refine wp_seq ?_
  refine wp_seq (rg_seq FF2 MMr3 [o_, o_, o_] [3, 2, 8, 9] (fun Kt => Kt [(9, iN 0), (8, iN n), (3, .slice (some ⟨bl, 0, none⟩) n n), (2, .slice none 0 0)] [(bl, .cells (fc n (fun k9 => iN (if k9 < 0 then k9 else 0))) 3)]) (by kernel_rfl) (fun _ => by kernel_rfl) (fun ac4 wd4 FF4 MM4 => then_n ?_))
  refine wp_for (fun a' w' => ∃ i : Nat, i ≤ n ∧ Fr 18 a' [(9, iN i), (8, iN n), (3, .slice (some ⟨bl, 0, none⟩) n n)] ∧ MemS (fun k => k < w0.heap.size) w0 w' [(bl, .cells (fc n (fun k9 => iN (if k9 < i then k9 else 0))) 3)] []) (fun a' _ => (n - cnt 9 a').toNat) ⟨0, Nat.zero_le _, FF4.pick [0, 1, 2], MM4⟩ ?_
  rintro ac5 wd5 ⟨i, hi, FF5, MM5⟩
  have hc := cnt_of (FF5.get 0 rfl)
  refine rg_seq FF5 MM5 [o_] [9, 8, 3, 10] (fun Kt => Kt [(10, .bool (decide (i < n))), (9, iN i), (8, iN n), (3, .slice (some ⟨bl, 0, none⟩) n n)] [(bl, .cells (fc n (fun k9 => iN (if k9 < i then k9 else 0))) 3)]) (by kernel_rfl) (fun _ => by kernel_rfl) (fun ac6 wd6 FF6 MM6 => ?_)
  by_cases hlt : i < n
  · skip
    refine then_n (.inl ⟨(FF6.ev 0 rfl).trans (dec_t hlt), ?_⟩)
    refine wp_seq (rg_seq FF6 MM6 [o_, o_] [9, 8, 3, 4] (fun Kt => Kt [(4, iN i), (9, iN i), (8, iN n), (3, .slice (some ⟨bl, 0, none⟩) n n)] [(bl, .cells (fc n (fun k9 => iN (if k9 < i then k9 else 0))) 3)]) (by kernel_rfl) (fun _ => by kernel_rfl) (fun ac7 wd7 FF7 MM7 => then_n ?_))
    refine rg_seq FF7 MM7 [o_, o_, o_, w_ 1, s_ 0 (.cells (fc n (fun k9 => iN (if k9 < i + 1 then k9 else 0))) 3)] [4, 9, 8, 3] (fun Kt => i < n ∧ bl = bl ∧ i < (fc n (fun k9 => iN (if k9 < i then k9 else 0))).size ∧ (((0, 0)).2 = 0 ∨ i < ((0, 0)).1) ∧ (fc n (fun k9 => iN (if k9 < i then k9 else 0))).setIfInBounds i (iN i) = fc n (fun k9 => iN (if k9 < i + 1 then k9 else 0)) ∧ Kt [(4, iN i), (9, iN i), (8, iN n), (3, .slice (some ⟨bl, 0, none⟩) n n)] [(bl, .cells (fc n (fun k9 => iN (if k9 < i + 1 then k9 else 0))) 3)]) (by kernel_rfl) (fun _ => by kernel_rfl) (⟨(by omega), rfl, (by rw [fc_size]; omega), (.inl rfl), ((fc_set _ _ _ _).trans (fc_cong fun k _ => ite_int.trans (vI (by by_cases h : k = i <;> by_cases h2 : k < i <;> simp [h, h2] <;> omega)))), fun ac8 wd8 FF8 MM8 => ?_⟩)
    refine inb_n (then_n ?_)
    refine rg_seq FF8 MM8 [o_, o_] [4, 9, 8, 3] (fun Kt => i + 1 < 9223372036854775808 ∧ Kt [(9, iN (i + 1)), (4, iN i), (8, iN n), (3, .slice (some ⟨bl, 0, none⟩) n n)] [(bl, .cells (fc n (fun k9 => iN (if k9 < i + 1 then k9 else 0))) 3)]) (by kernel_rfl) (fun _ => by kernel_rfl) (⟨(by omega), fun ac9 wd9 FF9 MM9 => ?_⟩)
    have hd := cnt_of (FF9.get 0 rfl)
    refine then_n ⟨⟨i + 1, by omega, FF9.pick [0, 2, 3], MM9⟩, ?_⟩
    rw [hc, hd]; omega
  · skip
    refine then_n (.inr ⟨(FF6.ev 0 rfl).trans (dec_f hlt), ?_⟩)
    obtain rfl : n = i := by omega
    have MMr10 : MemS (fun k => k < w0.heap.size) w0 wd6 [(bl, .cells (fc n (fun k9 => iN k9)) 3)] [] := by rw [show fc n (fun k9 => iN k9) = fc n (fun k9 => iN (if k9 < n then k9 else 0)) from fc_cong fun k hk => vI (by rw [if_pos hk])]; exact MM6
    refine then_n ?_
    refine wp_seq (rg_seq FF6 MMr10 [o_, o_] [9, 8, 3, 2] (fun Kt => Kt [(2, .slice (some ⟨bl, 0, none⟩) n n), (9, iN n), (8, iN n), (3, .slice (some ⟨bl, 0, none⟩) n n)] [(bl, .cells (fc n (fun k9 => iN k9)) 3)]) (by kernel_rfl) (fun _ => by kernel_rfl) (fun ac11 wd11 FF11 MM11 => then_n ?_))
    refine wp_ret ?_
    repeat first | refine then_ret ?_ | refine inb_ret ?_
    exact (ret_fr FF11 0 Try.results20 rfl ⟨_, rfl, bl, rfl, MM11.below, MM11.fresh 0 rfl, MM11.get 0 rfl⟩)
set_option maxRecDepth 100000 in
theorem omay_yes (k : Nat) (h1 : k ≥ 1) (hk : k ≤ 16) (w0 : World) :
    Calls Try.prog 19 #[iN k] w0 fun e w' => e = .returned (.bool true) ∧ Below w0.heap.size w0 w' := by
  refine enter_fr Try.func19 rfl Try.ntmps19 (by simp) fun ac (FF : Fr 9 ac [(0, iN k)]) => ?_
  have MM := MemS.start w0
  refine wp_seq (rg_seq FF MM [o_] [0, 2] (fun Kt => Kt [(2, .bool false), (0, iN k)] []) (by kernel_rfl) (fun _ => by kernel_rfl) (fun ac1 wd1 FF1 MM1 => then_n ?_))
  refine wp_seq (rg_seq FF1 MM1 [o_, w_ 2, o_, o_, w_ 2, o_, o_] [2] (fun Kt => k ≥ 1 ∧ k ≤ 16 ∧ Kt [(2, .bool true)] []) (by kernel_rfl) (fun _ => by kernel_rfl) (⟨h1, hk, fun ac2 wd2 FF2 MM2 => then_n ?_⟩))
  refine wp_ret ?_
  repeat first | refine then_ret ?_ | refine inb_ret ?_
  exact (ret_fr FF2 0 Try.results19 rfl ⟨rfl, MM2.below⟩)
set_option maxRecDepth 100000 in
theorem omay_lo (z : Int) (hz : z < 1) (w0 : World) :
    Calls Try.prog 19 #[.int .i64 z] w0 fun e w' => e = .returned (.bool false) ∧ Below w0.heap.size w0 w' := by
  refine enter_fr Try.func19 rfl Try.ntmps19 (by simp) fun ac (FF : Fr 9 ac [(0, .int .i64 (z : Int))]) => ?_
  have MM := MemS.start w0
  refine wp_seq (rg_seq FF MM [o_] [0, 2] (fun Kt => Kt [(2, .bool false), (0, .int .i64 (z : Int))] []) (by kernel_rfl) (fun _ => by kernel_rfl) (fun ac1 wd1 FF1 MM1 => then_n ?_))
  refine wp_seq (rg_seq FF1 MM1 [o_, u_ 4 (.bool false), o_, o_, o_, o_, o_] [2] (fun Kt => Value.bool (decide (z ≥ ((1 : Nat) : Int))) = .bool false ∧ Kt [(2, .bool false)] []) (by kernel_rfl) (fun _ => by kernel_rfl) (⟨(dec_f (by omega)), fun ac2 wd2 FF2 MM2 => then_n ?_⟩))
  refine wp_ret ?_
  repeat first | refine then_ret ?_ | refine inb_ret ?_
  exact (ret_fr FF2 0 Try.results19 rfl ⟨rfl, MM2.below⟩)
set_option maxRecDepth 100000 in
theorem omay_hi (z : Int) (hz : z > 16) (w0 : World) :
    Calls Try.prog 19 #[.int .i64 z] w0 fun e w' => e = .returned (.bool false) ∧ Below w0.heap.size w0 w' := by
  refine enter_fr Try.func19 rfl Try.ntmps19 (by simp) fun ac (FF : Fr 9 ac [(0, .int .i64 (z : Int))]) => ?_
  have MM := MemS.start w0
  refine wp_seq (rg_seq FF MM [o_] [0, 2] (fun Kt => Kt [(2, .bool false), (0, .int .i64 (z : Int))] []) (by kernel_rfl) (fun _ => by kernel_rfl) (fun ac1 wd1 FF1 MM1 => then_n ?_))
  refine wp_seq (rg_seq FF1 MM1 [o_, w_ 6, o_, o_, u_ 4 (.bool false), o_, o_] [2] (fun Kt => z ≥ ((1 : Nat) : Int) ∧ Value.bool (decide (z ≤ ((16 : Nat) : Int))) = .bool false ∧ Kt [(2, .bool false)] []) (by kernel_rfl) (fun _ => by kernel_rfl) (⟨(by omega), (dec_f (by omega)), fun ac2 wd2 FF2 MM2 => then_n ?_⟩))
  refine wp_ret ?_
  repeat first | refine then_ret ?_ | refine inb_ret ?_
  exact (ret_fr FF2 0 Try.results19 rfl ⟨rfl, MM2.below⟩)
theorem seen_setB {F : Nat → Int} {i m : Nat} (h : F i = (m : Int)) (k : Nat) : (if k = m then Value.bool true else Value.bool (decide (seenN F i k = 1))) = Value.bool (decide (seenN F (i + 1) k = 1)) := by
  rw [← seen_set h k]
  split
  · exact (dec_t rfl).symm
  · rfl
set_option maxRecDepth 100000 in
theorem isord_O (O : Blks) (hD : Distinct O) (p : Option Addr) (n c : Nat) (F : Nat → Int) (hn : n ≤ 1000000) (b : Bool) (hb : b = true ↔ OrdZ n F) (hF : RowO O p n (fun k9 => .int .i64 (F k9))) (w0 : World) (H : Has w0 O) :
    Calls Try.prog 24 #[.slice p n c] w0 fun e w' => e = .returned (.bool b) ∧ Below w0.heap.size w0 w' := by
  refine enter_fr Try.func24 rfl Try.ntmps24 (by simp) fun ac (FF : Fr 33 ac [(0, .slice p n c)]) => ?_
  have MM : MemS (fun k => k < w0.heap.size ∧ ∀ x ∈ O, x.1 ≠ k) w0 w0 O [] := MemS.startN H hD
  refine wp_seq (rg_seq FF MM [o_] [0, 2] (fun Kt => Kt [(2, .bool false), (0, .slice p n c)] O) (by kernel_rfl) (fun _ => by kernel_rfl) (fun ac1 wd1 FF1 MM1 => then_n ?_))
  refine wp_seq (rg_seq FF1 MM1 [o_, o_, n_ (.slice none n n) (.cells (fc n (fun k9 => Value.bool false)) 4), o_] [2, 0, 3] (fun Kt => RunN Try.prog [(7, iN n), (6, .slice p n c), (2, .bool false), (0, .slice p n c)] O (opAt Try.f24 1 2) (mkOf (.slice none n n)) (.cells (fc n (fun k9 => Value.bool false)) 4) ∧ ∀ bs_, Kt [(3, .slice (some ⟨bs_, 0, none⟩) n n), (2, .bool false), (0, .slice p n c)] ((bs_, .cells (fc n (fun k9 => Value.bool false)) 4) :: O)) (by kernel_rfl) (fun _ => by kernel_rfl) (⟨(makeF_ok (t := 61) (e := 4) (p := (.tmp 7)) (q := (.tmp 7)) (bb := 1) (z := .bool false) (by kernel_rfl) rfl rfl Try.underlying61 (by kernel_rfl) rfl (by omega) (by omega)), fun bs_ => fun ac2 wd2 FF2 MM2 => then_n ?_⟩))
  have MMr3 : MemS (fun k => k < w0.heap.size ∧ ∀ x ∈ O, x.1 ≠ k) w0 wd2 ((bs_, .cells (fc n (fun k9 => Value.bool (decide (seenN F 0 k9 = 1)))) 4) :: O) [] := by rw [show fc n (fun k9 => Value.bool (decide (seenN F 0 k9 = 1))) = fc n (fun k9 => Value.bool false) from fc_cong fun k _ => dec_f (show ¬ (0 : Nat) = 1 by decide)]; exact MM2
  refine wp_seq ?_
  refine wp_seq (rg_seq FF2 MMr3 [o_, o_, o_] [3, 2, 0, 9, 10, 11] (fun Kt => Kt [(11, iN 0), (10, iN n), (9, .slice p n c), (3, .slice (some ⟨bs_, 0, none⟩) n n), (2, .bool false), (0, .slice p n c)] ((bs_, .cells (fc n (fun k9 => Value.bool (decide (seenN F 0 k9 = 1)))) 4) :: O)) (by kernel_rfl) (fun _ => by kernel_rfl) (fun ac4 wd4 FF4 MM4 => then_n ?_))
  refine wp_for (fun a' w' => ∃ i : Nat, i ≤ n ∧ (∀ j, j < i → (0 ≤ F j ∧ F j < n) ∧ ∀ k, k < j → F k ≠ F j) ∧ Fr 33 a' [(11, iN i), (10, iN n), (9, .slice p n c), (3, .slice (some ⟨bs_, 0, none⟩) n n), (0, .slice p n c)] ∧ MemS (fun k => k < w0.heap.size ∧ ∀ x ∈ O, x.1 ≠ k) w0 w' ((bs_, .cells (fc n (fun k9 => Value.bool (decide (seenN F i k9 = 1)))) 4) :: O) []) (fun a' _ => (n - cnt 11 a').toNat) ⟨0, Nat.zero_le _, (fun j hj => absurd hj (Nat.not_lt_zero _)), FF4.pick [0, 1, 2, 3, 5], MM4⟩ ?_
  rintro ac5 wd5 ⟨i, hi, hG, FF5, MM5⟩
  have hc := cnt_of (FF5.get 0 rfl)
  refine rg_seq FF5 MM5 [o_] [11, 10, 9, 3, 0, 12] (fun Kt => Kt [(12, .bool (decide (i < n))), (11, iN i), (10, iN n), (9, .slice p n c), (3, .slice (some ⟨bs_, 0, none⟩) n n), (0, .slice p n c)] ((bs_, .cells (fc n (fun k9 => Value.bool (decide (seenN F i k9 = 1)))) 4) :: O)) (by kernel_rfl) (fun _ => by kernel_rfl) (fun ac6 wd6 FF6 MM6 => ?_)
  by_cases hlt : i < n
  · skip
    refine then_n (.inl ⟨(FF6.ev 0 rfl).trans (dec_t hlt), ?_⟩)
    refine wp_seq (rg_seq FF6 MM6 [f_ (.pointer (some ⟨gOf p, oOf p + i, none⟩)), f_ (.int .i64 (F i : Int)), o_] [11, 10, 9, 3, 0, 5] (fun Kt => RunV Try.prog [(12, .bool (decide (i < n))), (11, iN i), (10, iN n), (9, .slice p n c), (3, .slice (some ⟨bs_, 0, none⟩) n n), (0, .slice p n c)] ((bs_, .cells (fc n (fun k9 => Value.bool (decide (seenN F i k9 = 1)))) 4) :: O) (opAt Try.f24 4 0) (.pointer (some ⟨gOf p, oOf p + i, none⟩)) ∧ RunV Try.prog [(13, .pointer (some ⟨gOf p, oOf p + i, none⟩)), (12, .bool (decide (i < n))), (11, iN i), (10, iN n), (9, .slice p n c), (3, .slice (some ⟨bs_, 0, none⟩) n n), (0, .slice p n c)] ((bs_, .cells (fc n (fun k9 => Value.bool (decide (seenN F i k9 = 1)))) 4) :: O) (opAt Try.f24 4 1) (.int .i64 (F i : Int)) ∧ Kt [(5, .int .i64 (F i : Int)), (11, iN i), (10, iN n), (9, .slice p n c), (3, .slice (some ⟨bs_, 0, none⟩) n n), (0, .slice p n c)] ((bs_, .cells (fc n (fun k9 => Value.bool (decide (seenN F i k9 = 1)))) 4) :: O)) (by kernel_rfl) (fun _ => by kernel_rfl) (⟨(rowX_addr (x := (.tmp 9)) (y := (.tmp 11)) (k := 1) (i := i) (by kernel_rfl) rfl rfl Try.underlying23 (by kernel_rfl) hF (by omega) (by omega)), (rowX_load (x := (.tmp 13)) (j := i) (by kernel_rfl) rfl Try.underlying3 rfl hF (fun _ hx => List.mem_cons_of_mem _ (hx)) (by omega) rfl), fun ac7 wd7 FF7 MM7 => then_n ?_⟩))
    refine wp_seq ?_
    by_cases a1 : F i < ((0 : Nat) : Int)
    · skip
      have hno : ¬ OrdZ n F := fun h => by have := (h i hlt).1; omega
      refine wp_seq (rg_seq FF7 MM7 [o_, w_ 6, o_, o_, o_, o_, o_, o_, o_, o_, o_, o_, o_, o_] [5, 11, 10, 9, 3, 0, 28] (fun Kt => (F i) < ((0 : Nat) : Int) ∧ Kt [(28, .bool true), (5, .int .i64 (F i : Int)), (11, iN i), (10, iN n), (9, .slice p n c), (3, .slice (some ⟨bs_, 0, none⟩) n n), (0, .slice p n c)] ((bs_, .cells (fc n (fun k9 => Value.bool (decide (seenN F i k9 = 1)))) 4) :: O)) (by kernel_rfl) (fun _ => by kernel_rfl) (⟨a1, fun ac8 wd8 FF8 MM8 => then_n ?_⟩))
      refine wp_cond_true (FF8.ev 0 rfl) ?_
      refine wp_seq (rg_seq FF8 MM8 [o_] [5, 11, 10, 9, 3, 0, 2] (fun Kt => Kt [(2, .bool false), (5, .int .i64 (F i : Int)), (11, iN i), (10, iN n), (9, .slice p n c), (3, .slice (some ⟨bs_, 0, none⟩) n n), (0, .slice p n c)] ((bs_, .cells (fc n (fun k9 => Value.bool (decide (seenN F i k9 = 1)))) 4) :: O)) (by kernel_rfl) (fun _ => by kernel_rfl) (fun ac9 wd9 FF9 MM9 => then_n ?_))
      refine wp_ret ?_
      repeat first | refine then_ret ?_ | refine inb_ret ?_
      exact (ret_fr FF9 0 Try.results24 rfl ⟨congrArg (fun b => Ending.returned (Value.bool b)) (Bool.eq_false_iff.2 (fun h => hno (hb.1 h))).symm, MM9.belowN H (fun _ hx => List.mem_cons_of_mem _ (hx))⟩)
    · by_cases a2 : F i ≥ ((n : Nat) : Int)
      · skip
        have hno : ¬ OrdZ n F := fun h => by have := (h i hlt).1; omega
        refine wp_seq (rg_seq FF7 MM7 [o_, u_ 4 (.bool false), o_, o_, o_, o_, w_ 6, o_, o_, o_, o_, o_, o_, o_] [5, 11, 10, 9, 3, 0, 28] (fun Kt => Value.bool (decide ((F i) < ((0 : Nat) : Int))) = .bool false ∧ (F i) ≥ ((n : Nat) : Int) ∧ Kt [(28, .bool true), (5, .int .i64 (F i : Int)), (11, iN i), (10, iN n), (9, .slice p n c), (3, .slice (some ⟨bs_, 0, none⟩) n n), (0, .slice p n c)] ((bs_, .cells (fc n (fun k9 => Value.bool (decide (seenN F i k9 = 1)))) 4) :: O)) (by kernel_rfl) (fun _ => by kernel_rfl) (⟨(dec_f a1), a2, fun ac10 wd10 FF10 MM10 => then_n ?_⟩))
        refine wp_cond_true (FF10.ev 0 rfl) ?_
        refine wp_seq (rg_seq FF10 MM10 [o_] [5, 11, 10, 9, 3, 0, 2] (fun Kt => Kt [(2, .bool false), (5, .int .i64 (F i : Int)), (11, iN i), (10, iN n), (9, .slice p n c), (3, .slice (some ⟨bs_, 0, none⟩) n n), (0, .slice p n c)] ((bs_, .cells (fc n (fun k9 => Value.bool (decide (seenN F i k9 = 1)))) 4) :: O)) (by kernel_rfl) (fun _ => by kernel_rfl) (fun ac11 wd11 FF11 MM11 => then_n ?_))
        refine wp_ret ?_
        repeat first | refine then_ret ?_ | refine inb_ret ?_
        exact (ret_fr FF11 0 Try.results24 rfl ⟨congrArg (fun b => Ending.returned (Value.bool b)) (Bool.eq_false_iff.2 (fun h => hno (hb.1 h))).symm, MM11.belowN H (fun _ hx => List.mem_cons_of_mem _ (hx))⟩)
      · obtain ⟨m, hm⟩ := Int.eq_ofNat_of_zero_le (a := F i) (by omega)
        have hm : F i = (m : Int) := hm
        have hmn : m < n := by omega
        by_cases a3 : seenN F i m = 1
        · skip
          have hno := seen_yes hm a3 hlt
          refine wp_seq (rg_seq FF7 MM7 [o_, u_ 4 (.bool false), o_, o_, o_, o_, u_ 4 (.bool false), o_, o_, o_, t_ (iN m), w_ 1, l_ 0 (.bool true), o_] [5, 11, 10, 9, 3, 0, 28] (fun Kt => Value.bool (decide ((F i) < ((0 : Nat) : Int))) = .bool false ∧ Value.bool (decide ((F i) ≥ ((n : Nat) : Int))) = .bool false ∧ Value.int .i64 (F i : Int) = iN m ∧ m < n ∧ bs_ = bs_ ∧ (fc n (fun k9 => Value.bool (decide (seenN F i k9 = 1))))[m]? = some (.bool true) ∧ Kt [(28, .bool true), (5, .int .i64 (F i : Int)), (11, iN i), (10, iN n), (9, .slice p n c), (3, .slice (some ⟨bs_, 0, none⟩) n n), (0, .slice p n c)] ((bs_, .cells (fc n (fun k9 => Value.bool (decide (seenN F i k9 = 1)))) 4) :: O)) (by kernel_rfl) (fun _ => by kernel_rfl) (⟨(dec_f a1), (dec_f a2), (vZ hm), hmn, rfl, ((fc_get _ hmn).trans (congrArg some (dec_t a3))), fun ac12 wd12 FF12 MM12 => then_n ?_⟩))
          refine wp_cond_true (FF12.ev 0 rfl) ?_
          refine wp_seq (rg_seq FF12 MM12 [o_] [5, 11, 10, 9, 3, 0, 2] (fun Kt => Kt [(2, .bool false), (5, .int .i64 (F i : Int)), (11, iN i), (10, iN n), (9, .slice p n c), (3, .slice (some ⟨bs_, 0, none⟩) n n), (0, .slice p n c)] ((bs_, .cells (fc n (fun k9 => Value.bool (decide (seenN F i k9 = 1)))) 4) :: O)) (by kernel_rfl) (fun _ => by kernel_rfl) (fun ac13 wd13 FF13 MM13 => then_n ?_))
          refine wp_ret ?_
          repeat first | refine then_ret ?_ | refine inb_ret ?_
          exact (ret_fr FF13 0 Try.results24 rfl ⟨congrArg (fun b => Ending.returned (Value.bool b)) (Bool.eq_false_iff.2 (fun h => hno (hb.1 h))).symm, MM13.belowN H (fun _ hx => List.mem_cons_of_mem _ (hx))⟩)
        · skip
          have hgi := seen_no (n := n) hm a3 hmn
          refine wp_seq (rg_seq FF7 MM7 [o_, u_ 4 (.bool false), o_, o_, o_, o_, u_ 4 (.bool false), o_, o_, o_, t_ (iN m), w_ 1, l_ 0 (.bool false), o_] [5, 11, 10, 9, 3, 0, 28] (fun Kt => Value.bool (decide ((F i) < ((0 : Nat) : Int))) = .bool false ∧ Value.bool (decide ((F i) ≥ ((n : Nat) : Int))) = .bool false ∧ Value.int .i64 (F i : Int) = iN m ∧ m < n ∧ bs_ = bs_ ∧ (fc n (fun k9 => Value.bool (decide (seenN F i k9 = 1))))[m]? = some (.bool false) ∧ Kt [(28, .bool false), (5, .int .i64 (F i : Int)), (11, iN i), (10, iN n), (9, .slice p n c), (3, .slice (some ⟨bs_, 0, none⟩) n n), (0, .slice p n c)] ((bs_, .cells (fc n (fun k9 => Value.bool (decide (seenN F i k9 = 1)))) 4) :: O)) (by kernel_rfl) (fun _ => by kernel_rfl) (⟨(dec_f a1), (dec_f a2), (vZ hm), hmn, rfl, ((fc_get _ hmn).trans (congrArg some (dec_f a3))), fun ac14 wd14 FF14 MM14 => then_n ?_⟩))
          refine wp_cond_false (FF14.ev 0 rfl) ?_
          refine wp_skip ?_
          refine then_n ?_
          refine rg_seq FF14 MM14 [o_, t_ (iN m), w_ 1, s_ 0 (.cells (fc n (fun k9 => Value.bool (decide (seenN F (i + 1) k9 = 1)))) 4)] [5, 11, 10, 9, 3, 0] (fun Kt => Value.int .i64 (F i : Int) = iN m ∧ m < n ∧ bs_ = bs_ ∧ m < (fc n (fun k9 => Value.bool (decide (seenN F i k9 = 1)))).size ∧ (((0, 0)).2 = 0 ∨ m < ((0, 0)).1) ∧ (fc n (fun k9 => Value.bool (decide (seenN F i k9 = 1)))).setIfInBounds m (.bool true) = fc n (fun k9 => Value.bool (decide (seenN F (i + 1) k9 = 1))) ∧ Kt [(5, .int .i64 (F i : Int)), (11, iN i), (10, iN n), (9, .slice p n c), (3, .slice (some ⟨bs_, 0, none⟩) n n), (0, .slice p n c)] ((bs_, .cells (fc n (fun k9 => Value.bool (decide (seenN F (i + 1) k9 = 1)))) 4) :: O)) (by kernel_rfl) (fun _ => by kernel_rfl) (⟨(vZ hm), hmn, rfl, (by rw [fc_size]; exact hmn), (.inl rfl), ((fc_set _ _ _ _).trans (fc_cong fun k _ => seen_setB hm k)), fun ac15 wd15 FF15 MM15 => ?_⟩)
          refine inb_n (then_n ?_)
          refine rg_seq FF15 MM15 [o_, o_] [5, 11, 10, 9, 3, 0] (fun Kt => i + 1 < 9223372036854775808 ∧ Kt [(11, iN (i + 1)), (5, .int .i64 (F i : Int)), (10, iN n), (9, .slice p n c), (3, .slice (some ⟨bs_, 0, none⟩) n n), (0, .slice p n c)] ((bs_, .cells (fc n (fun k9 => Value.bool (decide (seenN F (i + 1) k9 = 1)))) 4) :: O)) (by kernel_rfl) (fun _ => by kernel_rfl) (⟨(by omega), fun ac16 wd16 FF16 MM16 => ?_⟩)
          have hd := cnt_of (FF16.get 0 rfl)
          refine then_n ⟨⟨i + 1, by omega, (fun j hj => (Nat.lt_or_ge j i).elim (hG j) (fun h => (show i = j by omega) ▸ hgi)), FF16.pick [0, 2, 3, 4, 5], MM16⟩, ?_⟩
          rw [hc, hd]; omega
  · skip
    refine then_n (.inr ⟨(FF6.ev 0 rfl).trans (dec_f hlt), ?_⟩)
    have hO : OrdZ n F := fun j hj => hG j (by omega)
    refine then_n ?_
    refine wp_seq (rg_seq FF6 MM6 [o_] [11, 10, 9, 3, 0, 2] (fun Kt => Kt [(2, .bool true), (11, iN i), (10, iN n), (9, .slice p n c), (3, .slice (some ⟨bs_, 0, none⟩) n n), (0, .slice p n c)] ((bs_, .cells (fc n (fun k9 => Value.bool (decide (seenN F i k9 = 1)))) 4) :: O)) (by kernel_rfl) (fun _ => by kernel_rfl) (fun ac17 wd17 FF17 MM17 => then_n ?_))
    refine wp_ret ?_
    repeat first | refine then_ret ?_ | refine inb_ret ?_
    exact (ret_fr FF17 0 Try.results24 rfl ⟨congrArg (fun b => Ending.returned (Value.bool b)) (hb.2 hO).symm, MM17.belowN H (fun _ hx => List.mem_cons_of_mem _ (hx))⟩)
theorem isord_w (p : Option Addr) (n c : Nat) (F : Nat → Int) (hn : n ≤ 1000000) (b : Bool) (hb : b = true ↔ OrdZ n F) (w : World) (hF : RowIn w p n (fun k9 => .int .i64 (F k9))) :
    Calls Try.prog 24 #[.slice p n c] w fun e w' => e = .returned (.bool b) ∧ Below w.heap.size w w' := by
  obtain ⟨O, h1, h2, h3⟩ := row_O hF
  exact isord_O O h2 p n c F hn b hb h3 w h1
set_option maxRecDepth 100000 in
theorem rmay_O (O : Blks) (hD : Distinct O) (p : Option Addr) (n c : Nat) (F : Nat → Int) (hn : n ≤ 1000000) (b : Bool) (hb : b = true ↔ OrdZ n F) (hF : RowO O p n (fun k9 => .int .i64 (F k9))) (w0 : World) (H : Has w0 O) :
    Calls Try.prog 13 #[.slice p n c] w0 fun e w' => e = .returned (.bool b) ∧ Below w0.heap.size w0 w' := by
  refine enter_fr Try.func13 rfl Try.ntmps13 (by simp) fun ac (FF : Fr 44 ac [(0, .slice p n c)]) => ?_
  have MM : MemS (fun k => k < w0.heap.size ∧ ∀ x ∈ O, x.1 ≠ k) w0 w0 O [] := MemS.startN H hD
  refine wp_seq (rg_seq FF MM [o_] [0, 2] (fun Kt => Kt [(2, .bool false), (0, .slice p n c)] O) (by kernel_rfl) (fun _ => by kernel_rfl) (fun ac1 wd1 FF1 MM1 => then_n ?_))
  refine wp_seq (rg_seq FF1 MM1 [o_, o_, n_ (.slice none n n) (.cells (fc n (fun k9 => iN 0)) 3), o_] [2, 0, 3] (fun Kt => RunN Try.prog [(6, iN n), (5, .slice p n c), (2, .bool false), (0, .slice p n c)] O (opAt Try.f13 1 2) (mkOf (.slice none n n)) (.cells (fc n (fun k9 => iN 0)) 3) ∧ ∀ bs_, Kt [(3, .slice (some ⟨bs_, 0, none⟩) n n), (2, .bool false), (0, .slice p n c)] ((bs_, .cells (fc n (fun k9 => iN 0)) 3) :: O)) (by kernel_rfl) (fun _ => by kernel_rfl) (⟨(makeF_ok (t := 23) (e := 3) (p := (.tmp 6)) (q := (.tmp 6)) (bb := 8) (z := iN 0) (by kernel_rfl) rfl rfl Try.underlying23 (by kernel_rfl) rfl (by omega) (by omega)), fun bs_ => fun ac2 wd2 FF2 MM2 => then_n ?_⟩))
  have MMr3 : MemS (fun k => k < w0.heap.size ∧ ∀ x ∈ O, x.1 ≠ k) w0 wd2 ((bs_, .cells (fc n (fun k9 => iN (seenN F 0 k9))) 3) :: O) [] := by rw [show fc n (fun k9 => iN (seenN F 0 k9)) = fc n (fun k9 => iN 0) from fc_cong fun k _ => rfl]; exact MM2
  refine wp_seq ?_
  refine wp_seq (rg_seq FF2 MMr3 [o_] [3, 2, 0, 4] (fun Kt => Kt [(4, iN 0), (3, .slice (some ⟨bs_, 0, none⟩) n n), (2, .bool false), (0, .slice p n c)] ((bs_, .cells (fc n (fun k9 => iN (seenN F 0 k9))) 3) :: O)) (by kernel_rfl) (fun _ => by kernel_rfl) (fun ac4 wd4 FF4 MM4 => then_n ?_))
  refine wp_for2 (fun a' w' => ∃ i : Nat, i ≤ n ∧ (∀ j, j < i → (0 ≤ F j ∧ F j < n) ∧ ∀ k, k < j → F k ≠ F j) ∧ Fr 44 a' [(4, iN i), (3, .slice (some ⟨bs_, 0, none⟩) n n), (0, .slice p n c)] ∧ MemS (fun k => k < w0.heap.size ∧ ∀ x ∈ O, x.1 ≠ k) w0 w' ((bs_, .cells (fc n (fun k9 => iN (seenN F i k9))) 3) :: O) []) (fun a' _ => (n - cnt 4 a').toNat) ⟨0, Nat.zero_le _, (fun j hj => absurd hj (Nat.not_lt_zero _)), FF4.pick [0, 1, 3], MM4⟩ ?_
  rintro ac5 wd5 ⟨i, hi, hG, FF5, MM5⟩
  have hc := cnt_of (FF5.get 0 rfl)
  refine rg_seq FF5 MM5 [o_, o_, o_, o_] [4, 3, 0, 11] (fun Kt => Kt [(11, .bool (decide (i < n))), (4, iN i), (3, .slice (some ⟨bs_, 0, none⟩) n n), (0, .slice p n c)] ((bs_, .cells (fc n (fun k9 => iN (seenN F i k9))) 3) :: O)) (by kernel_rfl) (fun _ => by kernel_rfl) (fun ac6 wd6 FF6 MM6 => ?_)
  by_cases hlt : i < n
  · skip
    refine then_n (.inl ⟨(FF6.ev 0 rfl).trans (dec_t hlt), ?_⟩)
    refine wp_seq ?_
    by_cases a1 : F i < ((0 : Nat) : Int)
    · skip
      have hno : ¬ OrdZ n F := fun h => by have := (h i hlt).1; omega
      refine wp_seq (rg_seq FF6 MM6 [o_, o_, f_ (.pointer (some ⟨gOf p, oOf p + i, none⟩)), f_ (.int .i64 (F i : Int)), w_ 6, o_, o_, o_, o_, o_, o_, o_, o_, o_, o_, o_, o_, o_, o_, o_, o_, o_, o_, o_] [4, 3, 0, 37] (fun Kt => RunV Try.prog [(15, iN i), (14, .slice p n c), (11, .bool (decide (i < n))), (4, iN i), (3, .slice (some ⟨bs_, 0, none⟩) n n), (0, .slice p n c)] ((bs_, .cells (fc n (fun k9 => iN (seenN F i k9))) 3) :: O) (opAt Try.f13 5 2) (.pointer (some ⟨gOf p, oOf p + i, none⟩)) ∧ RunV Try.prog [(16, .pointer (some ⟨gOf p, oOf p + i, none⟩)), (15, iN i), (14, .slice p n c), (11, .bool (decide (i < n))), (4, iN i), (3, .slice (some ⟨bs_, 0, none⟩) n n), (0, .slice p n c)] ((bs_, .cells (fc n (fun k9 => iN (seenN F i k9))) 3) :: O) (opAt Try.f13 5 3) (.int .i64 (F i : Int)) ∧ (F i) < ((0 : Nat) : Int) ∧ Kt [(37, .bool true), (4, iN i), (3, .slice (some ⟨bs_, 0, none⟩) n n), (0, .slice p n c)] ((bs_, .cells (fc n (fun k9 => iN (seenN F i k9))) 3) :: O)) (by kernel_rfl) (fun _ => by kernel_rfl) (⟨(rowX_addr (x := (.tmp 14)) (y := (.tmp 15)) (k := 1) (i := i) (by kernel_rfl) rfl rfl Try.underlying23 (by kernel_rfl) hF (by omega) (by omega)), (rowX_load (x := (.tmp 16)) (j := i) (by kernel_rfl) rfl Try.underlying3 rfl hF (fun _ hx => List.mem_cons_of_mem _ (hx)) (by omega) rfl), a1, fun ac7 wd7 FF7 MM7 => then_n ?_⟩))
      refine wp_cond_true (FF7.ev 0 rfl) ?_
      refine wp_seq (rg_seq FF7 MM7 [o_] [4, 3, 0, 2] (fun Kt => Kt [(2, .bool false), (4, iN i), (3, .slice (some ⟨bs_, 0, none⟩) n n), (0, .slice p n c)] ((bs_, .cells (fc n (fun k9 => iN (seenN F i k9))) 3) :: O)) (by kernel_rfl) (fun _ => by kernel_rfl) (fun ac8 wd8 FF8 MM8 => then_n ?_))
      refine wp_ret ?_
      repeat first | refine then_ret ?_ | refine inb_ret ?_
      exact (ret_fr FF8 0 Try.results13 rfl ⟨congrArg (fun b => Ending.returned (Value.bool b)) (Bool.eq_false_iff.2 (fun h => hno (hb.1 h))).symm, MM8.belowN H (fun _ hx => List.mem_cons_of_mem _ (hx))⟩)
    · by_cases a2 : F i ≥ ((n : Nat) : Int)
      · skip
        have hno : ¬ OrdZ n F := fun h => by have := (h i hlt).1; omega
        refine wp_seq (rg_seq FF6 MM6 [o_, o_, f_ (.pointer (some ⟨gOf p, oOf p + i, none⟩)), f_ (.int .i64 (F i : Int)), u_ 4 (.bool false), o_, o_, o_, f_ (.pointer (some ⟨gOf p, oOf p + i, none⟩)), f_ (.int .i64 (F i : Int)), o_, o_, w_ 6, o_, o_, o_, o_, o_, o_, o_, o_, o_, o_, o_] [4, 3, 0, 37] (fun Kt => RunV Try.prog [(15, iN i), (14, .slice p n c), (11, .bool (decide (i < n))), (4, iN i), (3, .slice (some ⟨bs_, 0, none⟩) n n), (0, .slice p n c)] ((bs_, .cells (fc n (fun k9 => iN (seenN F i k9))) 3) :: O) (opAt Try.f13 5 2) (.pointer (some ⟨gOf p, oOf p + i, none⟩)) ∧ RunV Try.prog [(16, .pointer (some ⟨gOf p, oOf p + i, none⟩)), (15, iN i), (14, .slice p n c), (11, .bool (decide (i < n))), (4, iN i), (3, .slice (some ⟨bs_, 0, none⟩) n n), (0, .slice p n c)] ((bs_, .cells (fc n (fun k9 => iN (seenN F i k9))) 3) :: O) (opAt Try.f13 5 3) (.int .i64 (F i : Int)) ∧ Value.bool (decide ((F i) < ((0 : Nat) : Int))) = .bool false ∧ RunV Try.prog [(21, iN i), (20, .slice p n c), (19, .bool false), (18, .bool false), (17, .int .i64 (F i : Int)), (16, .pointer (some ⟨gOf p, oOf p + i, none⟩)), (15, iN i), (14, .slice p n c), (11, .bool (decide (i < n))), (4, iN i), (3, .slice (some ⟨bs_, 0, none⟩) n n), (0, .slice p n c)] ((bs_, .cells (fc n (fun k9 => iN (seenN F i k9))) 3) :: O) (opAt Try.f13 5 8) (.pointer (some ⟨gOf p, oOf p + i, none⟩)) ∧ RunV Try.prog [(22, .pointer (some ⟨gOf p, oOf p + i, none⟩)), (21, iN i), (20, .slice p n c), (19, .bool false), (18, .bool false), (17, .int .i64 (F i : Int)), (16, .pointer (some ⟨gOf p, oOf p + i, none⟩)), (15, iN i), (14, .slice p n c), (11, .bool (decide (i < n))), (4, iN i), (3, .slice (some ⟨bs_, 0, none⟩) n n), (0, .slice p n c)] ((bs_, .cells (fc n (fun k9 => iN (seenN F i k9))) 3) :: O) (opAt Try.f13 5 9) (.int .i64 (F i : Int)) ∧ (F i) ≥ ((n : Nat) : Int) ∧ Kt [(37, .bool true), (4, iN i), (3, .slice (some ⟨bs_, 0, none⟩) n n), (0, .slice p n c)] ((bs_, .cells (fc n (fun k9 => iN (seenN F i k9))) 3) :: O)) (by kernel_rfl) (fun _ => by kernel_rfl) (⟨(rowX_addr (x := (.tmp 14)) (y := (.tmp 15)) (k := 1) (i := i) (by kernel_rfl) rfl rfl Try.underlying23 (by kernel_rfl) hF (by omega) (by omega)), (rowX_load (x := (.tmp 16)) (j := i) (by kernel_rfl) rfl Try.underlying3 rfl hF (fun _ hx => List.mem_cons_of_mem _ (hx)) (by omega) rfl), (dec_f a1), (rowX_addr (x := (.tmp 20)) (y := (.tmp 21)) (k := 1) (i := i) (by kernel_rfl) rfl rfl Try.underlying23 (by kernel_rfl) hF (by omega) (by omega)), (rowX_load (x := (.tmp 22)) (j := i) (by kernel_rfl) rfl Try.underlying3 rfl hF (fun _ hx => List.mem_cons_of_mem _ (hx)) (by omega) rfl), a2, fun ac9 wd9 FF9 MM9 => then_n ?_⟩))
        refine wp_cond_true (FF9.ev 0 rfl) ?_
        refine wp_seq (rg_seq FF9 MM9 [o_] [4, 3, 0, 2] (fun Kt => Kt [(2, .bool false), (4, iN i), (3, .slice (some ⟨bs_, 0, none⟩) n n), (0, .slice p n c)] ((bs_, .cells (fc n (fun k9 => iN (seenN F i k9))) 3) :: O)) (by kernel_rfl) (fun _ => by kernel_rfl) (fun ac10 wd10 FF10 MM10 => then_n ?_))
        refine wp_ret ?_
        repeat first | refine then_ret ?_ | refine inb_ret ?_
        exact (ret_fr FF10 0 Try.results13 rfl ⟨congrArg (fun b => Ending.returned (Value.bool b)) (Bool.eq_false_iff.2 (fun h => hno (hb.1 h))).symm, MM10.belowN H (fun _ hx => List.mem_cons_of_mem _ (hx))⟩)
      · obtain ⟨m, hm⟩ := Int.eq_ofNat_of_zero_le (a := F i) (by omega)
        have hm : F i = (m : Int) := hm
        have hmn : m < n := by omega
        by_cases a3 : seenN F i m = 1
        · skip
          have hno := seen_yes hm a3 hlt
          refine wp_seq (rg_seq FF6 MM6 [o_, o_, f_ (.pointer (some ⟨gOf p, oOf p + i, none⟩)), f_ (.int .i64 (F i : Int)), u_ 4 (.bool false), o_, o_, o_, f_ (.pointer (some ⟨gOf p, oOf p + i, none⟩)), f_ (.int .i64 (F i : Int)), o_, o_, u_ 4 (.bool false), o_, o_, o_, o_, o_, f_ (.pointer (some ⟨gOf p, oOf p + i, none⟩)), f_ (iN m), w_ 1, l_ 0 (iN (seenN F i m)), w_ 2, o_] [4, 3, 0, 37] (fun Kt => RunV Try.prog [(15, iN i), (14, .slice p n c), (11, .bool (decide (i < n))), (4, iN i), (3, .slice (some ⟨bs_, 0, none⟩) n n), (0, .slice p n c)] ((bs_, .cells (fc n (fun k9 => iN (seenN F i k9))) 3) :: O) (opAt Try.f13 5 2) (.pointer (some ⟨gOf p, oOf p + i, none⟩)) ∧ RunV Try.prog [(16, .pointer (some ⟨gOf p, oOf p + i, none⟩)), (15, iN i), (14, .slice p n c), (11, .bool (decide (i < n))), (4, iN i), (3, .slice (some ⟨bs_, 0, none⟩) n n), (0, .slice p n c)] ((bs_, .cells (fc n (fun k9 => iN (seenN F i k9))) 3) :: O) (opAt Try.f13 5 3) (.int .i64 (F i : Int)) ∧ Value.bool (decide ((F i) < ((0 : Nat) : Int))) = .bool false ∧ RunV Try.prog [(21, iN i), (20, .slice p n c), (19, .bool false), (18, .bool false), (17, .int .i64 (F i : Int)), (16, .pointer (some ⟨gOf p, oOf p + i, none⟩)), (15, iN i), (14, .slice p n c), (11, .bool (decide (i < n))), (4, iN i), (3, .slice (some ⟨bs_, 0, none⟩) n n), (0, .slice p n c)] ((bs_, .cells (fc n (fun k9 => iN (seenN F i k9))) 3) :: O) (opAt Try.f13 5 8) (.pointer (some ⟨gOf p, oOf p + i, none⟩)) ∧ RunV Try.prog [(22, .pointer (some ⟨gOf p, oOf p + i, none⟩)), (21, iN i), (20, .slice p n c), (19, .bool false), (18, .bool false), (17, .int .i64 (F i : Int)), (16, .pointer (some ⟨gOf p, oOf p + i, none⟩)), (15, iN i), (14, .slice p n c), (11, .bool (decide (i < n))), (4, iN i), (3, .slice (some ⟨bs_, 0, none⟩) n n), (0, .slice p n c)] ((bs_, .cells (fc n (fun k9 => iN (seenN F i k9))) 3) :: O) (opAt Try.f13 5 9) (.int .i64 (F i : Int)) ∧ Value.bool (decide ((F i) ≥ ((n : Nat) : Int))) = .bool false ∧ RunV Try.prog [(31, iN i), (30, .slice p n c), (29, .slice (some ⟨bs_, 0, none⟩) n n), (28, .bool false), (27, .bool false), (26, .bool false), (25, iN n), (24, .slice p n c), (23, .int .i64 (F i : Int)), (22, .pointer (some ⟨gOf p, oOf p + i, none⟩)), (21, iN i), (20, .slice p n c), (19, .bool false), (18, .bool false), (17, .int .i64 (F i : Int)), (16, .pointer (some ⟨gOf p, oOf p + i, none⟩)), (15, iN i), (14, .slice p n c), (11, .bool (decide (i < n))), (4, iN i), (3, .slice (some ⟨bs_, 0, none⟩) n n), (0, .slice p n c)] ((bs_, .cells (fc n (fun k9 => iN (seenN F i k9))) 3) :: O) (opAt Try.f13 5 18) (.pointer (some ⟨gOf p, oOf p + i, none⟩)) ∧ RunV Try.prog [(32, .pointer (some ⟨gOf p, oOf p + i, none⟩)), (31, iN i), (30, .slice p n c), (29, .slice (some ⟨bs_, 0, none⟩) n n), (28, .bool false), (27, .bool false), (26, .bool false), (25, iN n), (24, .slice p n c), (23, .int .i64 (F i : Int)), (22, .pointer (some ⟨gOf p, oOf p + i, none⟩)), (21, iN i), (20, .slice p n c), (19, .bool false), (18, .bool false), (17, .int .i64 (F i : Int)), (16, .pointer (some ⟨gOf p, oOf p + i, none⟩)), (15, iN i), (14, .slice p n c), (11, .bool (decide (i < n))), (4, iN i), (3, .slice (some ⟨bs_, 0, none⟩) n n), (0, .slice p n c)] ((bs_, .cells (fc n (fun k9 => iN (seenN F i k9))) 3) :: O) (opAt Try.f13 5 19) (iN m) ∧ m < n ∧ bs_ = bs_ ∧ (fc n (fun k9 => iN (seenN F i k9)))[m]? = some (iN (seenN F i m)) ∧ (seenN F i m) > 0 ∧ Kt [(37, .bool true), (4, iN i), (3, .slice (some ⟨bs_, 0, none⟩) n n), (0, .slice p n c)] ((bs_, .cells (fc n (fun k9 => iN (seenN F i k9))) 3) :: O)) (by kernel_rfl) (fun _ => by kernel_rfl) (⟨(rowX_addr (x := (.tmp 14)) (y := (.tmp 15)) (k := 1) (i := i) (by kernel_rfl) rfl rfl Try.underlying23 (by kernel_rfl) hF (by omega) (by omega)), (rowX_load (x := (.tmp 16)) (j := i) (by kernel_rfl) rfl Try.underlying3 rfl hF (fun _ hx => List.mem_cons_of_mem _ (hx)) (by omega) rfl), (dec_f a1), (rowX_addr (x := (.tmp 20)) (y := (.tmp 21)) (k := 1) (i := i) (by kernel_rfl) rfl rfl Try.underlying23 (by kernel_rfl) hF (by omega) (by omega)), (rowX_load (x := (.tmp 22)) (j := i) (by kernel_rfl) rfl Try.underlying3 rfl hF (fun _ hx => List.mem_cons_of_mem _ (hx)) (by omega) rfl), (dec_f a2), (rowX_addr (x := (.tmp 30)) (y := (.tmp 31)) (k := 1) (i := i) (by kernel_rfl) rfl rfl Try.underlying23 (by kernel_rfl) hF (by omega) (by omega)), (rowX_load (x := (.tmp 32)) (j := i) (by kernel_rfl) rfl Try.underlying3 rfl hF (fun _ hx => List.mem_cons_of_mem _ (hx)) (by omega) (vZ hm)), hmn, rfl, (fc_get _ (by omega)), (by omega), fun ac11 wd11 FF11 MM11 => then_n ?_⟩))
          refine wp_cond_true (FF11.ev 0 rfl) ?_
          refine wp_seq (rg_seq FF11 MM11 [o_] [4, 3, 0, 2] (fun Kt => Kt [(2, .bool false), (4, iN i), (3, .slice (some ⟨bs_, 0, none⟩) n n), (0, .slice p n c)] ((bs_, .cells (fc n (fun k9 => iN (seenN F i k9))) 3) :: O)) (by kernel_rfl) (fun _ => by kernel_rfl) (fun ac12 wd12 FF12 MM12 => then_n ?_))
          refine wp_ret ?_
          repeat first | refine then_ret ?_ | refine inb_ret ?_
          exact (ret_fr FF12 0 Try.results13 rfl ⟨congrArg (fun b => Ending.returned (Value.bool b)) (Bool.eq_false_iff.2 (fun h => hno (hb.1 h))).symm, MM12.belowN H (fun _ hx => List.mem_cons_of_mem _ (hx))⟩)
        · skip
          have hgi := seen_no (n := n) hm a3 hmn; have hs0 : seenN F i m = 0 := by rcases seen_cases F i m with ⟨q, _⟩ | ⟨q, _⟩ <;> omega
          refine wp_seq (rg_seq FF6 MM6 [o_, o_, f_ (.pointer (some ⟨gOf p, oOf p + i, none⟩)), f_ (.int .i64 (F i : Int)), u_ 4 (.bool false), o_, o_, o_, f_ (.pointer (some ⟨gOf p, oOf p + i, none⟩)), f_ (.int .i64 (F i : Int)), o_, o_, u_ 4 (.bool false), o_, o_, o_, o_, o_, f_ (.pointer (some ⟨gOf p, oOf p + i, none⟩)), f_ (iN m), w_ 1, l_ 0 (iN (seenN F i m)), w_ 3, o_] [4, 3, 0, 37] (fun Kt => RunV Try.prog [(15, iN i), (14, .slice p n c), (11, .bool (decide (i < n))), (4, iN i), (3, .slice (some ⟨bs_, 0, none⟩) n n), (0, .slice p n c)] ((bs_, .cells (fc n (fun k9 => iN (seenN F i k9))) 3) :: O) (opAt Try.f13 5 2) (.pointer (some ⟨gOf p, oOf p + i, none⟩)) ∧ RunV Try.prog [(16, .pointer (some ⟨gOf p, oOf p + i, none⟩)), (15, iN i), (14, .slice p n c), (11, .bool (decide (i < n))), (4, iN i), (3, .slice (some ⟨bs_, 0, none⟩) n n), (0, .slice p n c)] ((bs_, .cells (fc n (fun k9 => iN (seenN F i k9))) 3) :: O) (opAt Try.f13 5 3) (.int .i64 (F i : Int)) ∧ Value.bool (decide ((F i) < ((0 : Nat) : Int))) = .bool false ∧ RunV Try.prog [(21, iN i), (20, .slice p n c), (19, .bool false), (18, .bool false), (17, .int .i64 (F i : Int)), (16, .pointer (some ⟨gOf p, oOf p + i, none⟩)), (15, iN i), (14, .slice p n c), (11, .bool (decide (i < n))), (4, iN i), (3, .slice (some ⟨bs_, 0, none⟩) n n), (0, .slice p n c)] ((bs_, .cells (fc n (fun k9 => iN (seenN F i k9))) 3) :: O) (opAt Try.f13 5 8) (.pointer (some ⟨gOf p, oOf p + i, none⟩)) ∧ RunV Try.prog [(22, .pointer (some ⟨gOf p, oOf p + i, none⟩)), (21, iN i), (20, .slice p n c), (19, .bool false), (18, .bool false), (17, .int .i64 (F i : Int)), (16, .pointer (some ⟨gOf p, oOf p + i, none⟩)), (15, iN i), (14, .slice p n c), (11, .bool (decide (i < n))), (4, iN i), (3, .slice (some ⟨bs_, 0, none⟩) n n), (0, .slice p n c)] ((bs_, .cells (fc n (fun k9 => iN (seenN F i k9))) 3) :: O) (opAt Try.f13 5 9) (.int .i64 (F i : Int)) ∧ Value.bool (decide ((F i) ≥ ((n : Nat) : Int))) = .bool false ∧ RunV Try.prog [(31, iN i), (30, .slice p n c), (29, .slice (some ⟨bs_, 0, none⟩) n n), (28, .bool false), (27, .bool false), (26, .bool false), (25, iN n), (24, .slice p n c), (23, .int .i64 (F i : Int)), (22, .pointer (some ⟨gOf p, oOf p + i, none⟩)), (21, iN i), (20, .slice p n c), (19, .bool false), (18, .bool false), (17, .int .i64 (F i : Int)), (16, .pointer (some ⟨gOf p, oOf p + i, none⟩)), (15, iN i), (14, .slice p n c), (11, .bool (decide (i < n))), (4, iN i), (3, .slice (some ⟨bs_, 0, none⟩) n n), (0, .slice p n c)] ((bs_, .cells (fc n (fun k9 => iN (seenN F i k9))) 3) :: O) (opAt Try.f13 5 18) (.pointer (some ⟨gOf p, oOf p + i, none⟩)) ∧ RunV Try.prog [(32, .pointer (some ⟨gOf p, oOf p + i, none⟩)), (31, iN i), (30, .slice p n c), (29, .slice (some ⟨bs_, 0, none⟩) n n), (28, .bool false), (27, .bool false), (26, .bool false), (25, iN n), (24, .slice p n c), (23, .int .i64 (F i : Int)), (22, .pointer (some ⟨gOf p, oOf p + i, none⟩)), (21, iN i), (20, .slice p n c), (19, .bool false), (18, .bool false), (17, .int .i64 (F i : Int)), (16, .pointer (some ⟨gOf p, oOf p + i, none⟩)), (15, iN i), (14, .slice p n c), (11, .bool (decide (i < n))), (4, iN i), (3, .slice (some ⟨bs_, 0, none⟩) n n), (0, .slice p n c)] ((bs_, .cells (fc n (fun k9 => iN (seenN F i k9))) 3) :: O) (opAt Try.f13 5 19) (iN m) ∧ m < n ∧ bs_ = bs_ ∧ (fc n (fun k9 => iN (seenN F i k9)))[m]? = some (iN (seenN F i m)) ∧ ¬ ((seenN F i m) > 0) ∧ Kt [(37, .bool false), (4, iN i), (3, .slice (some ⟨bs_, 0, none⟩) n n), (0, .slice p n c)] ((bs_, .cells (fc n (fun k9 => iN (seenN F i k9))) 3) :: O)) (by kernel_rfl) (fun _ => by kernel_rfl) (⟨(rowX_addr (x := (.tmp 14)) (y := (.tmp 15)) (k := 1) (i := i) (by kernel_rfl) rfl rfl Try.underlying23 (by kernel_rfl) hF (by omega) (by omega)), (rowX_load (x := (.tmp 16)) (j := i) (by kernel_rfl) rfl Try.underlying3 rfl hF (fun _ hx => List.mem_cons_of_mem _ (hx)) (by omega) rfl), (dec_f a1), (rowX_addr (x := (.tmp 20)) (y := (.tmp 21)) (k := 1) (i := i) (by kernel_rfl) rfl rfl Try.underlying23 (by kernel_rfl) hF (by omega) (by omega)), (rowX_load (x := (.tmp 22)) (j := i) (by kernel_rfl) rfl Try.underlying3 rfl hF (fun _ hx => List.mem_cons_of_mem _ (hx)) (by omega) rfl), (dec_f a2), (rowX_addr (x := (.tmp 30)) (y := (.tmp 31)) (k := 1) (i := i) (by kernel_rfl) rfl rfl Try.underlying23 (by kernel_rfl) hF (by omega) (by omega)), (rowX_load (x := (.tmp 32)) (j := i) (by kernel_rfl) rfl Try.underlying3 rfl hF (fun _ hx => List.mem_cons_of_mem _ (hx)) (by omega) (vZ hm)), hmn, rfl, (fc_get _ (by omega)), (by omega), fun ac13 wd13 FF13 MM13 => then_n ?_⟩))
          refine wp_cond_false (FF13.ev 0 rfl) ?_
          refine wp_skip ?_
          refine then_n ?_
          refine rg_seq FF13 MM13 [o_, o_, o_, f_ (.pointer (some ⟨gOf p, oOf p + i, none⟩)), f_ (iN m), w_ 1, s_ 0 (.cells (fc n (fun k9 => iN (seenN F (i + 1) k9))) 3)] [4, 3, 0] (fun Kt => RunV Try.prog [(40, iN i), (39, .slice p n c), (38, .slice (some ⟨bs_, 0, none⟩) n n), (37, .bool false), (4, iN i), (3, .slice (some ⟨bs_, 0, none⟩) n n), (0, .slice p n c)] ((bs_, .cells (fc n (fun k9 => iN (seenN F i k9))) 3) :: O) (opAt Try.f13 7 3) (.pointer (some ⟨gOf p, oOf p + i, none⟩)) ∧ RunV Try.prog [(41, .pointer (some ⟨gOf p, oOf p + i, none⟩)), (40, iN i), (39, .slice p n c), (38, .slice (some ⟨bs_, 0, none⟩) n n), (37, .bool false), (4, iN i), (3, .slice (some ⟨bs_, 0, none⟩) n n), (0, .slice p n c)] ((bs_, .cells (fc n (fun k9 => iN (seenN F i k9))) 3) :: O) (opAt Try.f13 7 4) (iN m) ∧ m < n ∧ bs_ = bs_ ∧ m < (fc n (fun k9 => iN (seenN F i k9))).size ∧ (((0, 0)).2 = 0 ∨ m < ((0, 0)).1) ∧ (fc n (fun k9 => iN (seenN F i k9))).setIfInBounds m (iN 1) = fc n (fun k9 => iN (seenN F (i + 1) k9)) ∧ Kt [(4, iN i), (3, .slice (some ⟨bs_, 0, none⟩) n n), (0, .slice p n c)] ((bs_, .cells (fc n (fun k9 => iN (seenN F (i + 1) k9))) 3) :: O)) (by kernel_rfl) (fun _ => by kernel_rfl) (⟨(rowX_addr (x := (.tmp 39)) (y := (.tmp 40)) (k := 1) (i := i) (by kernel_rfl) rfl rfl Try.underlying23 (by kernel_rfl) hF (by omega) (by omega)), (rowX_load (x := (.tmp 41)) (j := i) (by kernel_rfl) rfl Try.underlying3 rfl hF (fun _ hx => List.mem_cons_of_mem _ (hx)) (by omega) (vZ hm)), hmn, rfl, (by rw [fc_size]; exact hmn), (.inl rfl), ((fc_set _ _ _ _).trans (fc_cong fun k _ => ite_int.trans (vI (seen_set hm k)))), fun ac14 wd14 FF14 MM14 => ?_⟩)
          refine inb_n (then_n ?_)
          refine rg_seq FF14 MM14 [o_, o_, o_] [4, 3, 0] (fun Kt => i + 1 < 9223372036854775808 ∧ Kt [(4, iN (i + 1)), (3, .slice (some ⟨bs_, 0, none⟩) n n), (0, .slice p n c)] ((bs_, .cells (fc n (fun k9 => iN (seenN F (i + 1) k9))) 3) :: O)) (by kernel_rfl) (fun _ => by kernel_rfl) (⟨(by omega), fun ac15 wd15 FF15 MM15 => ?_⟩)
          have hd := cnt_of (FF15.get 0 rfl)
          refine then_n ⟨⟨i + 1, by omega, (fun j hj => (Nat.lt_or_ge j i).elim (hG j) (fun h => (show i = j by omega) ▸ hgi)), FF15.pick [0, 1, 2], MM15⟩, ?_⟩
          rw [hc, hd]; omega
  · skip
    refine then_n (.inr ⟨(FF6.ev 0 rfl).trans (dec_f hlt), ?_⟩)
    have hO : OrdZ n F := fun j hj => hG j (by omega)
    refine then_n ?_
    refine wp_seq (rg_seq FF6 MM6 [o_] [4, 3, 0, 2] (fun Kt => Kt [(2, .bool true), (4, iN i), (3, .slice (some ⟨bs_, 0, none⟩) n n), (0, .slice p n c)] ((bs_, .cells (fc n (fun k9 => iN (seenN F i k9))) 3) :: O)) (by kernel_rfl) (fun _ => by kernel_rfl) (fun ac16 wd16 FF16 MM16 => then_n ?_))
    refine wp_ret ?_
    repeat first | refine then_ret ?_ | refine inb_ret ?_
    exact (ret_fr FF16 0 Try.results13 rfl ⟨congrArg (fun b => Ending.returned (Value.bool b)) (hb.2 hO).symm, MM16.belowN H (fun _ hx => List.mem_cons_of_mem _ (hx))⟩)
theorem rmay_w (p : Option Addr) (n c : Nat) (F : Nat → Int) (hn : n ≤ 1000000) (b : Bool) (hb : b = true ↔ OrdZ n F) (w : World) (hF : RowIn w p n (fun k9 => .int .i64 (F k9))) :
    Calls Try.prog 13 #[.slice p n c] w fun e w' => e = .returned (.bool b) ∧ Below w.heap.size w w' := by
  obtain ⟨O, h1, h2, h3⟩ := row_O hF
  exact rmay_O O h2 p n c F hn b hb h3 w h1
end Go.Proofs.Ytdckihmiggcpfaa
