/- Several texts in one: Package curve: numbers; scalar. Package curve: swapped. Package curve: step. Calls that turn several blocks; rows that a walk owns, read for a while. Package curve: Mul. Package curve: Public, Shared. Numbers of Poly1305: words, products, what is beyond 2^130. No program in this text. A text in blocks: the numbers of Poly1305. No program in this text. Keys, byte by byte; sums with a carry. No program in this text. The answer of the document: keys in digits, blocks, the tag. No program in this text. -/
import Derived.Test.YtdjpacgjhcidpabGreatDoorZ4
import Derived.Test.YtdjpacgjhcidpabGreatDoorZ3
import Derived.OrdersHeld
namespace Go.Proofs.YtdjpacgjhcidpabGreatDoor
open Go.RowKit
theorem en_cmul : Enters Tryz.prog 25 := fun args w => by simp [go_sem]
theorem en_cscal : Enters Tryz.prog 46 := fun args w => by simp [go_sem]
theorem en_cswap : Enters Tryz.prog 49 := fun args w => by simp [go_sem]
theorem en_cstep : Enters Tryz.prog 50 := fun args w => by simp [go_sem]
theorem en_cpub : Enters Tryz.prog 7 := fun args w => by simp [go_sem]
theorem en_cshared : Enters Tryz.prog 22 := fun args w => by simp [go_sem]
theorem part_lit {cs ps : Array Value} {off : Nat} (h : (cs.toList.drop off).take ps.size = ps.toList) : PartAt cs off ps := fun j v hv => by
  rw [← Array.getElem?_toList, ← h, List.getElem?_take] at hv
  split at hv
  · rw [List.getElem?_drop, Array.getElem?_toList] at hv; exact hv
  · cases hv
theorem cn_at {X : List Nat} {j a n : Nat} (hn : X.length = n) (hj : j < n) (h : X.getD j 0 = a) : (cn .u8 X)[j]? = some (iB a) := by
  rw [cn_get _ _ _ (by omega), h]
def scal (ks : List Nat) : List Nat := (ks.set 0 (ks.getD 0 0 / 8 * 8)).set 31 (ks.getD 31 0 % 64 + 64)
theorem scal_bytes {ks : List Nat} (h : KBytes ks) : KBytes (scal ks) := by
  refine ⟨(by unfold scal; rw [List.length_set, List.length_set]; exact h.1), fun i => ?_⟩
  have h0 := h.2 0
  have hi := h.2 i
  unfold scal
  rw [getD_set, getD_set]
  split
  · omega
  · split
    · omega
    · exact hi
theorem and_7 : ∀ v : Fin 256, bits .andNot .u8 ((v.val : Nat) : Int) 7 = ((v.val / 8 * 8 : Nat) : Int) := by decide +kernel
theorem and_128 : ∀ v : Fin 256, bits .andNot .u8 ((v.val : Nat) : Int) 128 = ((v.val % 128 : Nat) : Int) := by decide +kernel
theorem or_64 : ∀ v : Fin 128, v.val ||| 64 = v.val % 64 + 64 := by decide +kernel
theorem scal_eq (ks : List Nat) : ((ks.set 0 (ks.getD 0 0 / 8 * 8)).set 31 (ks.getD 31 0 % 128)).set 31 (ks.getD 31 0 % 128 % 64 + 64) = scal ks := by
  rw [List.set_set, scal, show ks.getD 31 0 % 128 % 64 = ks.getD 31 0 % 64 by omega]
theorem set0_31 (ks : List Nat) (a : Nat) : (ks.set 0 a).getD 31 0 = ks.getD 31 0 := by rw [getD_set, if_neg (fun h => absurd h.1 (by decide))]
theorem set31_31 {ks : List Nat} (h : ks.length = 32) (a b : Nat) : ((ks.set 0 a).set 31 b).getD 31 0 = b := by rw [getD_set, if_pos ⟨rfl, by rw [List.length_set, h]; decide⟩]
def two (x y : Nat) (j : Nat) : Nat := if j = 0 then x else y
def thr (x y z : Nat) (j : Nat) : Nat := if j = 0 then x else if j = 1 then y else z
theorem two_lt {x y : Nat} (hx : x < pN) (hy : y < pN) (j : Nat) (_ : j < 2) : two x y j < pN := by unfold two; split <;> assumption
theorem thr_lt {x y z : Nat} (hx : x < pN) (hy : y < pN) (hz : z < pN) (j : Nat) (_ : j < 3) : thr x y z j < pN := by
  unfold thr; split
  · assumption
  · split <;> assumption
def aN (x y : Nat) : Nat := (x + y) % pN
def sN (x y : Nat) : Nat := (x + (pN - y)) % pN
def mN (x y : Nat) : Nat := x * y % pN
structure Lad where
  x2 : Nat
  z2 : Nat
  x3 : Nat
  z3 : Nat
def Lad.ok (l : Lad) : Prop := l.x2 < pN ∧ l.z2 < pN ∧ l.x3 < pN ∧ l.z3 < pN
def lA (l : Lad) : Nat := aN l.x2 l.z2
def lB (l : Lad) : Nat := sN l.x2 l.z2
def lAA (l : Lad) : Nat := mN (lA l) (lA l)
def lBB (l : Lad) : Nat := mN (lB l) (lB l)
def lE (l : Lad) : Nat := sN (lAA l) (lBB l)
def lDA (l : Lad) : Nat := mN (sN l.x3 l.z3) (lA l)
def lCB (l : Lad) : Nat := mN (aN l.x3 l.z3) (lB l)
def lS (l : Lad) : Nat := aN (lDA l) (lCB l)
def lL (l : Lad) : Nat := sN (lDA l) (lCB l)
def Lad.step (u : Nat) (l : Lad) : Lad := ⟨mN (lAA l) (lBB l), mN (lE l) (aN (lAA l) (mN 121665 (lE l))), mN (lS l) (lS l), mN (mN u (lL l)) (lL l)⟩
def Lad.swap (n : Nat) (l : Lad) : Lad := if n = 1 then ⟨l.x3, l.z3, l.x2, l.z2⟩ else l
def bitAt (ks : List Nat) (i : Nat) : Nat := ks.getD (i / 8) 0 / 2 ^ (i % 8) % 2
def ladTo (ks : List Nat) (u : Nat) : Nat → Lad
  | 0 => ⟨1, 0, u, 1⟩
  | j + 1 => (((ladTo ks u j).swap (bitAt ks (254 - j))).step u).swap (bitAt ks (254 - j))
/-- What comes of the ladder. -/
def curveN (ks us : List Nat) : Nat := mN (ladTo (scal ks) (numOf us % pN) 255).x2 (invTo (ladTo (scal ks) (numOf us % pN) 255).z2 255)
theorem mN_lt (x y : Nat) : mN x y < pN := Nat.mod_lt _ (by decide)
theorem aN_lt (x y : Nat) : aN x y < pN := Nat.mod_lt _ (by decide)
theorem sN_lt (x y : Nat) : sN x y < pN := Nat.mod_lt _ (by decide)
theorem step_ok (u : Nat) (l : Lad) : (l.step u).ok := ⟨mN_lt _ _, mN_lt _ _, mN_lt _ _, mN_lt _ _⟩
theorem swap_ok {n : Nat} {l : Lad} (h : l.ok) : (l.swap n).ok := by
  unfold Lad.swap
  split
  · exact ⟨h.2.2.1, h.2.2.2, h.1, h.2.1⟩
  · exact h
theorem ladTo_ok (ks : List Nat) (u : Nat) (hu : u < pN) : ∀ j, (ladTo ks u j).ok
  | 0 => ⟨(by decide : 1 < pN), (by decide : 0 < pN), hu, (by decide : 1 < pN)⟩
  | _ + 1 => swap_ok (step_ok _ _)
theorem bitAt_le (ks : List Nat) (i : Nat) : bitAt ks i ≤ 1 := by unfold bitAt; omega
theorem fadd2_part (x y : Nat) : ∀ j, j < 2 → PartAt #[iW (fw0 x), iW (fw1 x), iW (fw2 x), iW (fw3 x), iW (fw0 y), iW (fw1 y), iW (fw2 y), iW (fw3 y)] (j * 4) #[iW (fw0 (two x y j)), iW (fw1 (two x y j)), iW (fw2 (two x y j)), iW (fw3 (two x y j))] := fun j hj k v hv => by
  have hk : k = 0 ∨ k = 1 ∨ k = 2 ∨ k = 3 ∨ 4 ≤ k := by omega
  have hj' : j = 0 ∨ j = 1 := by omega
  rcases hj' with rfl | rfl <;> rcases hk with rfl | rfl | rfl | rfl | hk <;> first | exact hv | (rw [Array.getElem?_eq_none (by simpa using hk)] at hv; cases hv)
theorem fadd2 (x y r b : Nat) (fr : Nat × Nat) (hx : x < pN) (hy : y < pN) (hr : aN x y = r) (w : World) (hb : w.heap[b]? = some (.cells #[iW (fw0 x), iW (fw1 x), iW (fw2 x), iW (fw3 x), iW (fw0 y), iW (fw1 y), iW (fw2 y), iW (fw3 y)] 97 fr)) :
    Calls Tryz.prog 75 #[.slice (some ⟨b, 0, none⟩) 2 2] w fun e w' => e = .returned (.agg #[iW (fw0 r), iW (fw1 r), iW (fw2 r), iW (fw3 r)]) ∧ Below w.heap.size w w' := by
  subst hr
  exact fAdd_any (two x y) 2 2 b _ fr (by decide) (by decide) (Nat.le_refl _) (two_lt hx hy) (fadd2_part x y) w hb
theorem fmul2_part (x y : Nat) : ∀ j, j < 2 → PartAt #[iW (fw0 x), iW (fw1 x), iW (fw2 x), iW (fw3 x), iW (fw0 y), iW (fw1 y), iW (fw2 y), iW (fw3 y)] (j * 4) #[iW (fw0 (two x y j)), iW (fw1 (two x y j)), iW (fw2 (two x y j)), iW (fw3 (two x y j))] := fun j hj k v hv => by
  have hk : k = 0 ∨ k = 1 ∨ k = 2 ∨ k = 3 ∨ 4 ≤ k := by omega
  have hj' : j = 0 ∨ j = 1 := by omega
  rcases hj' with rfl | rfl <;> rcases hk with rfl | rfl | rfl | rfl | hk <;> first | exact hv | (rw [Array.getElem?_eq_none (by simpa using hk)] at hv; cases hv)
theorem fmul2 (x y r b : Nat) (fr : Nat × Nat) (hx : x < pN) (hy : y < pN) (hr : mN x y = r) (w : World) (hb : w.heap[b]? = some (.cells #[iW (fw0 x), iW (fw1 x), iW (fw2 x), iW (fw3 x), iW (fw0 y), iW (fw1 y), iW (fw2 y), iW (fw3 y)] 97 fr)) :
    Calls Tryz.prog 51 #[.slice (some ⟨b, 0, none⟩) 2 2] w fun e w' => e = .returned (.agg #[iW (fw0 r), iW (fw1 r), iW (fw2 r), iW (fw3 r)]) ∧ Below w.heap.size w w' := by
  subst hr
  exact fMul_any (two x y) 2 2 b _ fr (by decide) (by decide) (Nat.le_refl _) (two_lt hx hy) (fmul2_part x y) w hb
theorem fmul3_part (x y z : Nat) : ∀ j, j < 3 → PartAt #[iW (fw0 x), iW (fw1 x), iW (fw2 x), iW (fw3 x), iW (fw0 y), iW (fw1 y), iW (fw2 y), iW (fw3 y), iW (fw0 z), iW (fw1 z), iW (fw2 z), iW (fw3 z)] (j * 4) #[iW (fw0 (thr x y z j)), iW (fw1 (thr x y z j)), iW (fw2 (thr x y z j)), iW (fw3 (thr x y z j))] := fun j hj k v hv => by
  have hk : k = 0 ∨ k = 1 ∨ k = 2 ∨ k = 3 ∨ 4 ≤ k := by omega
  have hj' : j = 0 ∨ j = 1 ∨ j = 2 := by omega
  rcases hj' with rfl | rfl | rfl <;> rcases hk with rfl | rfl | rfl | rfl | hk <;> first | exact hv | (rw [Array.getElem?_eq_none (by simpa using hk)] at hv; cases hv)
theorem fmul3 (x y z r b : Nat) (fr : Nat × Nat) (hx : x < pN) (hy : y < pN) (hz : z < pN) (hr : mN (mN x y) z = r) (w : World) (hb : w.heap[b]? = some (.cells #[iW (fw0 x), iW (fw1 x), iW (fw2 x), iW (fw3 x), iW (fw0 y), iW (fw1 y), iW (fw2 y), iW (fw3 y), iW (fw0 z), iW (fw1 z), iW (fw2 z), iW (fw3 z)] 97 fr)) :
    Calls Tryz.prog 51 #[.slice (some ⟨b, 0, none⟩) 3 3] w fun e w' => e = .returned (.agg #[iW (fw0 r), iW (fw1 r), iW (fw2 r), iW (fw3 r)]) ∧ Below w.heap.size w w' := by
  subst hr
  exact fMul_any (thr x y z) 3 3 b _ fr (by decide) (by decide) (Nat.le_refl _) (thr_lt hx hy hz) (fmul3_part x y z) w hb
theorem fsub2 (x y r : Nat) (hx : x < pN) (hy : y < pN) (hr : sN x y = r) (w : World) : Calls Tryz.prog 76 #[.agg #[iW (fw0 x), iW (fw1 x), iW (fw2 x), iW (fw3 x)], .agg #[iW (fw0 y), iW (fw1 y), iW (fw2 y), iW (fw3 y)]] w fun e w' => e = .returned (.agg #[iW (fw0 r), iW (fw1 r), iW (fw2 r), iW (fw3 r)]) ∧ Below w.heap.size w w' := by
  subst hr
  exact fSub_any x y hx hy w
set_option maxRecDepth 100000 in
theorem cscal_any (ks : List Nat) (hk : KBytes ks) (w0 : World) :
    Calls Tryz.prog 46 #[.agg (cn .u8 ks)] w0 fun e w' => e = .returned (.agg (cn .u8 (scal ks))) ∧ Below w0.heap.size w0 w' := by
  refine enter_fr Tryz.func46 rfl Tryz.ntmps46 (by simp) fun ac (FF : Fr 16 ac [(0, .agg (cn .u8 ks))]) => ?_
  have MM := MemS.start w0
  have h0 := hk.2 0
  have h31 := hk.2 31
  refine wp_seq (rg_c FF MM [(0, s_ 0 (.cells (cn .u8 ks) 23)), (0, s_ 0 (.cells (cn .u8 (List.replicate 32 0)) 23))] 3 [] [0] (⟨(by kernel_rfl), fun bk => ⟨(by kernel_rfl), fun br => fun _ _ FF1 MM1 => then_n ?_⟩⟩))
  refine wp_seq (rg_c FF1 MM1 [(0, w_ 1), (0, l_ 1 (iB (ks.getD 0 0))), (0, f_ (iB (ks.getD 0 0 / 8 * 8))), (0, w_ 1), (0, s_ 1 (.cells (cn .u8 (ks.set 0 (ks.getD 0 0 / 8 * 8))) 23))] 3 [] [] (⟨by decide, rfl, (cn_get _ _ _ (by rw [hk.1]; decide)), (andNot_ok (t := 5) (t' := 5) (x := (.tmp 4)) (y := (.const (iB 7))) (k := .u8) (a := ks.getD 0 0) (b := 7) (r := ks.getD 0 0 / 8 * 8) (by kernel_rfl) rfl rfl (and_7 ⟨ks.getD 0 0, h0⟩)), by decide, rfl, (by rw [cn_size, hk.1]; decide), (.inl rfl), (cn_set _ _ _ _), fun _ _ FF2 MM2 => then_n ?_⟩))
  have e2 := set0_31 ks (ks.getD 0 0 / 8 * 8)
  refine wp_seq (rg_c FF2 MM2 [(0, w_ 1), (0, l_ 1 (iB (ks.getD 31 0))), (0, f_ (iB (ks.getD 31 0 % 128))), (0, w_ 1), (0, s_ 1 (.cells (cn .u8 ((ks.set 0 (ks.getD 0 0 / 8 * 8)).set 31 (ks.getD 31 0 % 128))) 23))] 3 [] [] (⟨by decide, rfl, (cn_at (by rw [List.length_set, hk.1]) (by decide) e2), (andNot_ok (t := 5) (t' := 5) (x := (.tmp 8)) (y := (.const (iB 128))) (k := .u8) (a := ks.getD 31 0) (b := 128) (r := ks.getD 31 0 % 128) (by kernel_rfl) rfl rfl (and_128 ⟨ks.getD 31 0, h31⟩)), by decide, rfl, (by rw [cn_size, (len_set hk.1)]; decide), (.inl rfl), (cn_set _ _ _ _), fun _ _ FF3 MM3 => then_n ?_⟩))
  have e3 := set31_31 hk.1 (ks.getD 0 0 / 8 * 8) (ks.getD 31 0 % 128)
  refine wp_seq (rg_c FF3 MM3 [(0, w_ 1), (0, l_ 1 (iB (ks.getD 31 0 % 128))), (0, t_ (iB (ks.getD 31 0 % 128 % 64 + 64))), (0, w_ 1), (0, s_ 1 (.cells (cn .u8 (((ks.set 0 (ks.getD 0 0 / 8 * 8)).set 31 (ks.getD 31 0 % 128)).set 31 (ks.getD 31 0 % 128 % 64 + 64))) 23))] 3 [] [] (⟨by decide, rfl, (cn_at (by rw [List.length_set, List.length_set, hk.1]) (by decide) e3), by omega, by decide, (vI (or_64 ⟨ks.getD 31 0 % 128, by omega⟩)), by decide, rfl, (by rw [cn_size, (len_set (len_set hk.1))]; decide), (.inl rfl), (cn_set _ _ _ _), fun _ _ FF4 MM4 => then_n ?_⟩))
  refine wp_seq (rg_c FF4 MM4 [(0, b_ 1), (0, b_ 0)] 3 [] [] (⟨rfl, ((cn_size _ _).trans (len_set (len_set (len_set hk.1)))), rfl, ((cn_size _ _).trans (List.length_replicate ..)), ((cn_size _ _).trans (len_set (len_set (len_set hk.1)))), (cn_one _ _), rfl, fun _ _ FF5 MM5 => then_n ?_⟩))
  refine wp_ret ?_
  repeat first | refine then_ret ?_ | refine inb_ret ?_
  exact (retc FF5 MM5 (k := 32) (i := 0) (j := 0) Tryz.results46 rfl rfl Tryz.underlying23 rfl (by kernel_rfl) ((cn_size _ _).trans (len_set (len_set (len_set hk.1)))) ⟨by rw [scal_eq], MM5.below⟩)
end Go.Proofs.YtdjpacgjhcidpabGreatDoor
namespace Go.Proofs.YtdjpacgjhcidpabGreatDoor
open Go.RowKit
set_option maxRecDepth 100000 in
theorem cswap_0 (a b c d : Nat) (w0 : World) :
    Calls Tryz.prog 49 #[aG #[iW (fw0 a), iW (fw1 a), iW (fw2 a), iW (fw3 a), iW (fw0 b), iW (fw1 b), iW (fw2 b), iW (fw3 b), iW (fw0 c), iW (fw1 c), iW (fw2 c), iW (fw3 c), iW (fw0 d), iW (fw1 d), iW (fw2 d), iW (fw3 d)], iN 0] w0 fun e w' => e = .returned (aG #[iW (fw0 a), iW (fw1 a), iW (fw2 a), iW (fw3 a), iW (fw0 b), iW (fw1 b), iW (fw2 b), iW (fw3 b), iW (fw0 c), iW (fw1 c), iW (fw2 c), iW (fw3 c), iW (fw0 d), iW (fw1 d), iW (fw2 d), iW (fw3 d)]) ∧ Below w0.heap.size w0 w' := by
  refine enter_fr Tryz.func49 rfl Tryz.ntmps49 (by simp) fun ac (FF : Fr 30 ac [(0, aG #[iW (fw0 a), iW (fw1 a), iW (fw2 a), iW (fw3 a), iW (fw0 b), iW (fw1 b), iW (fw2 b), iW (fw3 b), iW (fw0 c), iW (fw1 c), iW (fw2 c), iW (fw3 c), iW (fw0 d), iW (fw1 d), iW (fw2 d), iW (fw3 d)]), (1, iN 0)]) => ?_
  have MM := MemS.start w0
  refine wp_seq (rg_c FF MM [] 5 [] [0] (fun bl => fun br => fun _ _ FF1 MM1 => then_n ?_))
  refine wp_seq (rg_dc 25 FF1 MM1 [(2, l_ 1 (aG #[iW (fw0 a), iW (fw1 a), iW (fw2 a), iW (fw3 a)])), (1, l_ 1 (aG #[iW (fw0 c), iW (fw1 c), iW (fw2 c), iW (fw3 c)])), (0, t_ (aG #[iW (fw0 a), iW (fw1 a), iW (fw2 a), iW (fw3 a)])), (2, l_ 1 (aG #[iW (fw0 b), iW (fw1 b), iW (fw2 b), iW (fw3 b)])), (1, l_ 1 (aG #[iW (fw0 d), iW (fw1 d), iW (fw2 d), iW (fw3 d)])), (0, t_ (aG #[iW (fw0 b), iW (fw1 b), iW (fw2 b), iW (fw3 b)])), (2, l_ 1 (aG #[iW (fw0 c), iW (fw1 c), iW (fw2 c), iW (fw3 c)])), (1, l_ 1 (aG #[iW (fw0 a), iW (fw1 a), iW (fw2 a), iW (fw3 a)])), (0, t_ (aG #[iW (fw0 c), iW (fw1 c), iW (fw2 c), iW (fw3 c)])), (2, l_ 1 (aG #[iW (fw0 d), iW (fw1 d), iW (fw2 d), iW (fw3 d)])), (1, l_ 1 (aG #[iW (fw0 b), iW (fw1 b), iW (fw2 b), iW (fw3 b)])), (0, t_ (aG #[iW (fw0 d), iW (fw1 d), iW (fw2 d), iW (fw3 d)])), (0, t_ (aG #[iW (fw0 a), iW (fw1 a), iW (fw2 a), iW (fw3 a), iW (fw0 b), iW (fw1 b), iW (fw2 b), iW (fw3 b), iW (fw0 c), iW (fw1 c), iW (fw2 c), iW (fw3 c), iW (fw0 d), iW (fw1 d), iW (fw2 d), iW (fw3 d)]))] [(0, b_ 0)] 0 [4] [] (⟨rfl, (part_lit rfl), rfl, rfl, (part_lit rfl), rfl, (callP_of en_fPick (fPick_0 a c) _), rfl, (part_lit rfl), rfl, rfl, (part_lit rfl), rfl, (callP_of en_fPick (fPick_0 b d) _), rfl, (part_lit rfl), rfl, rfl, (part_lit rfl), rfl, (callP_of en_fPick (fPick_0 c a) _), rfl, (part_lit rfl), rfl, rfl, (part_lit rfl), rfl, (callP_of en_fPick (fPick_0 d b) _), (by kernel_rfl), rfl, rfl, rfl, (by kernel_rfl), rfl, fun _ _ FF2 MM2 => then_n ?_⟩))
  refine wp_ret ?_
  repeat first | refine then_ret ?_ | refine inb_ret ?_
  exact (retc FF2 MM2 (k := 16) (i := 0) (j := 0) Tryz.results49 rfl rfl Tryz.underlying101 rfl (by kernel_rfl) rfl ⟨rfl, MM2.below⟩)
set_option maxRecDepth 100000 in
theorem cswap_1 (a b c d : Nat) (w0 : World) :
    Calls Tryz.prog 49 #[aG #[iW (fw0 a), iW (fw1 a), iW (fw2 a), iW (fw3 a), iW (fw0 b), iW (fw1 b), iW (fw2 b), iW (fw3 b), iW (fw0 c), iW (fw1 c), iW (fw2 c), iW (fw3 c), iW (fw0 d), iW (fw1 d), iW (fw2 d), iW (fw3 d)], iN 1] w0 fun e w' => e = .returned (aG #[iW (fw0 c), iW (fw1 c), iW (fw2 c), iW (fw3 c), iW (fw0 d), iW (fw1 d), iW (fw2 d), iW (fw3 d), iW (fw0 a), iW (fw1 a), iW (fw2 a), iW (fw3 a), iW (fw0 b), iW (fw1 b), iW (fw2 b), iW (fw3 b)]) ∧ Below w0.heap.size w0 w' := by
  refine enter_fr Tryz.func49 rfl Tryz.ntmps49 (by simp) fun ac (FF : Fr 30 ac [(0, aG #[iW (fw0 a), iW (fw1 a), iW (fw2 a), iW (fw3 a), iW (fw0 b), iW (fw1 b), iW (fw2 b), iW (fw3 b), iW (fw0 c), iW (fw1 c), iW (fw2 c), iW (fw3 c), iW (fw0 d), iW (fw1 d), iW (fw2 d), iW (fw3 d)]), (1, iN 1)]) => ?_
  have MM := MemS.start w0
  refine wp_seq (rg_c FF MM [] 5 [] [0] (fun bl => fun br => fun _ _ FF1 MM1 => then_n ?_))
  refine wp_seq (rg_dc 25 FF1 MM1 [(2, l_ 1 (aG #[iW (fw0 a), iW (fw1 a), iW (fw2 a), iW (fw3 a)])), (1, l_ 1 (aG #[iW (fw0 c), iW (fw1 c), iW (fw2 c), iW (fw3 c)])), (0, t_ (aG #[iW (fw0 c), iW (fw1 c), iW (fw2 c), iW (fw3 c)])), (2, l_ 1 (aG #[iW (fw0 b), iW (fw1 b), iW (fw2 b), iW (fw3 b)])), (1, l_ 1 (aG #[iW (fw0 d), iW (fw1 d), iW (fw2 d), iW (fw3 d)])), (0, t_ (aG #[iW (fw0 d), iW (fw1 d), iW (fw2 d), iW (fw3 d)])), (2, l_ 1 (aG #[iW (fw0 c), iW (fw1 c), iW (fw2 c), iW (fw3 c)])), (1, l_ 1 (aG #[iW (fw0 a), iW (fw1 a), iW (fw2 a), iW (fw3 a)])), (0, t_ (aG #[iW (fw0 a), iW (fw1 a), iW (fw2 a), iW (fw3 a)])), (2, l_ 1 (aG #[iW (fw0 d), iW (fw1 d), iW (fw2 d), iW (fw3 d)])), (1, l_ 1 (aG #[iW (fw0 b), iW (fw1 b), iW (fw2 b), iW (fw3 b)])), (0, t_ (aG #[iW (fw0 b), iW (fw1 b), iW (fw2 b), iW (fw3 b)])), (0, t_ (aG #[iW (fw0 c), iW (fw1 c), iW (fw2 c), iW (fw3 c), iW (fw0 d), iW (fw1 d), iW (fw2 d), iW (fw3 d), iW (fw0 a), iW (fw1 a), iW (fw2 a), iW (fw3 a), iW (fw0 b), iW (fw1 b), iW (fw2 b), iW (fw3 b)]))] [(0, b_ 0)] 0 [4] [] (⟨rfl, (part_lit rfl), rfl, rfl, (part_lit rfl), rfl, (callP_of en_fPick (fPick_1 a c) _), rfl, (part_lit rfl), rfl, rfl, (part_lit rfl), rfl, (callP_of en_fPick (fPick_1 b d) _), rfl, (part_lit rfl), rfl, rfl, (part_lit rfl), rfl, (callP_of en_fPick (fPick_1 c a) _), rfl, (part_lit rfl), rfl, rfl, (part_lit rfl), rfl, (callP_of en_fPick (fPick_1 d b) _), (by kernel_rfl), rfl, rfl, rfl, (by kernel_rfl), rfl, fun _ _ FF2 MM2 => then_n ?_⟩))
  refine wp_ret ?_
  repeat first | refine then_ret ?_ | refine inb_ret ?_
  exact (retc FF2 MM2 (k := 16) (i := 0) (j := 0) Tryz.results49 rfl rfl Tryz.underlying101 rfl (by kernel_rfl) rfl ⟨rfl, MM2.below⟩)
theorem cswap_any (l : Lad) (n : Nat) (hn : n ≤ 1) (w : World) : Calls Tryz.prog 49 #[aG #[iW (fw0 l.x2), iW (fw1 l.x2), iW (fw2 l.x2), iW (fw3 l.x2), iW (fw0 l.z2), iW (fw1 l.z2), iW (fw2 l.z2), iW (fw3 l.z2), iW (fw0 l.x3), iW (fw1 l.x3), iW (fw2 l.x3), iW (fw3 l.x3), iW (fw0 l.z3), iW (fw1 l.z3), iW (fw2 l.z3), iW (fw3 l.z3)], iN n] w fun e w' => e = .returned (aG #[iW (fw0 (((l.swap n)).x2)), iW (fw1 (((l.swap n)).x2)), iW (fw2 (((l.swap n)).x2)), iW (fw3 (((l.swap n)).x2)), iW (fw0 (((l.swap n)).z2)), iW (fw1 (((l.swap n)).z2)), iW (fw2 (((l.swap n)).z2)), iW (fw3 (((l.swap n)).z2)), iW (fw0 (((l.swap n)).x3)), iW (fw1 (((l.swap n)).x3)), iW (fw2 (((l.swap n)).x3)), iW (fw3 (((l.swap n)).x3)), iW (fw0 (((l.swap n)).z3)), iW (fw1 (((l.swap n)).z3)), iW (fw2 (((l.swap n)).z3)), iW (fw3 (((l.swap n)).z3))]) ∧ Below w.heap.size w w' := by
  obtain rfl | rfl : n = 0 ∨ n = 1 := by omega
  · exact cswap_0 l.x2 l.z2 l.x3 l.z3 w
  · exact cswap_1 l.x2 l.z2 l.x3 l.z3 w
end Go.Proofs.YtdjpacgjhcidpabGreatDoor
namespace Go.Proofs.YtdjpacgjhcidpabGreatDoor
open Go.RowKit
set_option maxHeartbeats 2000000 in
set_option maxRecDepth 100000 in
theorem cstep_any (u : Nat) (l : Lad) (hu : u < pN) (hl : l.ok) (w0 : World) :
    Calls Tryz.prog 50 #[aG #[iW (fw0 l.x2), iW (fw1 l.x2), iW (fw2 l.x2), iW (fw3 l.x2), iW (fw0 l.z2), iW (fw1 l.z2), iW (fw2 l.z2), iW (fw3 l.z2), iW (fw0 l.x3), iW (fw1 l.x3), iW (fw2 l.x3), iW (fw3 l.x3), iW (fw0 l.z3), iW (fw1 l.z3), iW (fw2 l.z3), iW (fw3 l.z3)], .agg #[iW (fw0 u), iW (fw1 u), iW (fw2 u), iW (fw3 u)]] w0 fun e w' => e = .returned (aG #[iW (fw0 (((l.step u)).x2)), iW (fw1 (((l.step u)).x2)), iW (fw2 (((l.step u)).x2)), iW (fw3 (((l.step u)).x2)), iW (fw0 (((l.step u)).z2)), iW (fw1 (((l.step u)).z2)), iW (fw2 (((l.step u)).z2)), iW (fw3 (((l.step u)).z2)), iW (fw0 (((l.step u)).x3)), iW (fw1 (((l.step u)).x3)), iW (fw2 (((l.step u)).x3)), iW (fw3 (((l.step u)).x3)), iW (fw0 (((l.step u)).z3)), iW (fw1 (((l.step u)).z3)), iW (fw2 (((l.step u)).z3)), iW (fw3 (((l.step u)).z3))]) ∧ Below w0.heap.size w0 w' := by
  refine enter_fr Tryz.func50 rfl Tryz.ntmps50 (by simp) fun ac (FF : Fr 84 ac [(0, aG #[iW (fw0 l.x2), iW (fw1 l.x2), iW (fw2 l.x2), iW (fw3 l.x2), iW (fw0 l.z2), iW (fw1 l.z2), iW (fw2 l.z2), iW (fw3 l.z2), iW (fw0 l.x3), iW (fw1 l.x3), iW (fw2 l.x3), iW (fw3 l.x3), iW (fw0 l.z3), iW (fw1 l.z3), iW (fw2 l.z3), iW (fw3 l.z3)]), (1, aG #[iW (fw0 u), iW (fw1 u), iW (fw2 u), iW (fw3 u)])]) => ?_
  have MM := MemS.start w0
  refine wp_seq (rg_c FF MM [] 5 [] [0, 1] (fun bl => fun bu => fun br => fun _ _ FF1 MM1 => then_n ?_))
  refine wp_seq (rg_draw FF1 MM1 [.inl (pT bl), .inl (aG #[iW (fw0 l.x2), iW (fw1 l.x2), iW (fw2 l.x2), iW (fw3 l.x2)]), .inl (.pointer (some ⟨bl, 4, none⟩)), .inl (aG #[iW (fw0 l.z2), iW (fw1 l.z2), iW (fw2 l.z2), iW (fw3 l.z2)]), .inr (oC #[iW (fw0 l.x2), iW (fw1 l.x2), iW (fw2 l.x2), iW (fw3 l.x2), iW (fw0 l.z2), iW (fw1 l.z2), iW (fw2 l.z2), iW (fw3 l.z2)] 97, fun b => .slice (some ⟨b, 0, none⟩) 2 2), .inl (aG #[iW (fw0 (lA l)), iW (fw1 (lA l)), iW (fw2 (lA l)), iW (fw3 (lA l))]), .inl (pT bl), .inl (aG #[iW (fw0 l.x2), iW (fw1 l.x2), iW (fw2 l.x2), iW (fw3 l.x2)]), .inl (.pointer (some ⟨bl, 4, none⟩)), .inl (aG #[iW (fw0 l.z2), iW (fw1 l.z2), iW (fw2 l.z2), iW (fw3 l.z2)]), .inl (aG #[iW (fw0 (lB l)), iW (fw1 (lB l)), iW (fw2 (lB l)), iW (fw3 (lB l))]), .inr (oC #[iW 0, iW 0, iW 0, iW 0] 97, fun b => pT b), .inr (oC #[iW 0, iW 0, iW 0, iW 0] 97, fun b => pT b)] [11, 12] [o_, l_ 2 (aG #[iW (fw0 l.x2), iW (fw1 l.x2), iW (fw2 l.x2), iW (fw3 l.x2)]), o_, l_ 2 (aG #[iW (fw0 l.z2), iW (fw1 l.z2), iW (fw2 l.z2), iW (fw3 l.z2)]), o_, u_ 1 (aG #[iW (fw0 (lA l)), iW (fw1 (lA l)), iW (fw2 (lA l)), iW (fw3 (lA l))]), o_, l_ 2 (aG #[iW (fw0 l.x2), iW (fw1 l.x2), iW (fw2 l.x2), iW (fw3 l.x2)]), o_, l_ 2 (aG #[iW (fw0 l.z2), iW (fw1 l.z2), iW (fw2 l.z2), iW (fw3 l.z2)]), t_ (aG #[iW (fw0 (lB l)), iW (fw1 (lB l)), iW (fw2 (lB l)), iW (fw3 (lB l))]), o_, o_] [b_ 0, b_ 1] [4, 3, 2, 5, 6] (fun nb => [bl = bl, PartAt (#[iW (fw0 l.x2), iW (fw1 l.x2), iW (fw2 l.x2), iW (fw3 l.x2), iW (fw0 l.z2), iW (fw1 l.z2), iW (fw2 l.z2), iW (fw3 l.z2), iW (fw0 l.x3), iW (fw1 l.x3), iW (fw2 l.x3), iW (fw3 l.x3), iW (fw0 l.z3), iW (fw1 l.z3), iW (fw2 l.z3), iW (fw3 l.z3)] : Array Value) 0 (#[iW (fw0 l.x2), iW (fw1 l.x2), iW (fw2 l.x2), iW (fw3 l.x2)] : Array Value), (#[iW (fw0 l.x2), iW (fw1 l.x2), iW (fw2 l.x2), iW (fw3 l.x2)] : Array Value).size = 4, bl = bl, PartAt (#[iW (fw0 l.x2), iW (fw1 l.x2), iW (fw2 l.x2), iW (fw3 l.x2), iW (fw0 l.z2), iW (fw1 l.z2), iW (fw2 l.z2), iW (fw3 l.z2), iW (fw0 l.x3), iW (fw1 l.x3), iW (fw2 l.x3), iW (fw3 l.x3), iW (fw0 l.z3), iW (fw1 l.z3), iW (fw2 l.z3), iW (fw3 l.z3)] : Array Value) 4 (#[iW (fw0 l.z2), iW (fw1 l.z2), iW (fw2 l.z2), iW (fw3 l.z2)] : Array Value), (#[iW (fw0 l.z2), iW (fw1 l.z2), iW (fw2 l.z2), iW (fw3 l.z2)] : Array Value).size = 4, CallP Tryz.prog 75 [.slice (some ⟨(nb 4), 0, none⟩) 2 2] [((nb 4), oC #[iW (fw0 l.x2), iW (fw1 l.x2), iW (fw2 l.x2), iW (fw3 l.x2), iW (fw0 l.z2), iW (fw1 l.z2), iW (fw2 l.z2), iW (fw3 l.z2)] 97), (br, oC #[iW 0, iW 0, iW 0, iW 0, iW 0, iW 0, iW 0, iW 0, iW 0, iW 0, iW 0, iW 0, iW 0, iW 0, iW 0, iW 0] 101), (bu, oC #[iW (fw0 u), iW (fw1 u), iW (fw2 u), iW (fw3 u)] 97), (bl, oC #[iW (fw0 l.x2), iW (fw1 l.x2), iW (fw2 l.x2), iW (fw3 l.x2), iW (fw0 l.z2), iW (fw1 l.z2), iW (fw2 l.z2), iW (fw3 l.z2), iW (fw0 l.x3), iW (fw1 l.x3), iW (fw2 l.x3), iW (fw3 l.x3), iW (fw0 l.z3), iW (fw1 l.z3), iW (fw2 l.z3), iW (fw3 l.z3)] 101)] (aG #[iW (fw0 (lA l)), iW (fw1 (lA l)), iW (fw2 (lA l)), iW (fw3 (lA l))]), bl = bl, PartAt (#[iW (fw0 l.x2), iW (fw1 l.x2), iW (fw2 l.x2), iW (fw3 l.x2), iW (fw0 l.z2), iW (fw1 l.z2), iW (fw2 l.z2), iW (fw3 l.z2), iW (fw0 l.x3), iW (fw1 l.x3), iW (fw2 l.x3), iW (fw3 l.x3), iW (fw0 l.z3), iW (fw1 l.z3), iW (fw2 l.z3), iW (fw3 l.z3)] : Array Value) 0 (#[iW (fw0 l.x2), iW (fw1 l.x2), iW (fw2 l.x2), iW (fw3 l.x2)] : Array Value), (#[iW (fw0 l.x2), iW (fw1 l.x2), iW (fw2 l.x2), iW (fw3 l.x2)] : Array Value).size = 4, bl = bl, PartAt (#[iW (fw0 l.x2), iW (fw1 l.x2), iW (fw2 l.x2), iW (fw3 l.x2), iW (fw0 l.z2), iW (fw1 l.z2), iW (fw2 l.z2), iW (fw3 l.z2), iW (fw0 l.x3), iW (fw1 l.x3), iW (fw2 l.x3), iW (fw3 l.x3), iW (fw0 l.z3), iW (fw1 l.z3), iW (fw2 l.z3), iW (fw3 l.z3)] : Array Value) 4 (#[iW (fw0 l.z2), iW (fw1 l.z2), iW (fw2 l.z2), iW (fw3 l.z2)] : Array Value), (#[iW (fw0 l.z2), iW (fw1 l.z2), iW (fw2 l.z2), iW (fw3 l.z2)] : Array Value).size = 4, CallP Tryz.prog 76 [aG #[iW (fw0 l.x2), iW (fw1 l.x2), iW (fw2 l.x2), iW (fw3 l.x2)], aG #[iW (fw0 l.z2), iW (fw1 l.z2), iW (fw2 l.z2), iW (fw3 l.z2)]] [] (aG #[iW (fw0 (lB l)), iW (fw1 (lB l)), iW (fw2 (lB l)), iW (fw3 (lB l))])]) (fun nb Kt => (nb 11) = (nb 11) ∧ (#[iW 0, iW 0, iW 0, iW 0] : Array Value).size = 4 ∧ (#[iW (fw0 (lA l)), iW (fw1 (lA l)), iW (fw2 (lA l)), iW (fw3 (lA l))] : Array Value).size = 4 ∧ (#[iW (fw0 (lA l)), iW (fw1 (lA l)), iW (fw2 (lA l)), iW (fw3 (lA l))] : Array Value).all (·.oneCell') = true ∧ (0, 0).2 = 0 ∧ (nb 12) = (nb 12) ∧ (#[iW 0, iW 0, iW 0, iW 0] : Array Value).size = 4 ∧ (#[iW (fw0 (lB l)), iW (fw1 (lB l)), iW (fw2 (lB l)), iW (fw3 (lB l))] : Array Value).size = 4 ∧ (#[iW (fw0 (lB l)), iW (fw1 (lB l)), iW (fw2 (lB l)), iW (fw3 (lB l))] : Array Value).all (·.oneCell') = true ∧ (0, 0).2 = 0 ∧ Kt [(6, pT (nb 12)), (5, pT (nb 11)), (4, pT br), (3, pT bu), (2, pT bl)] [((nb 11), oC #[iW (fw0 (lA l)), iW (fw1 (lA l)), iW (fw2 (lA l)), iW (fw3 (lA l))] 97), ((nb 12), oC #[iW (fw0 (lB l)), iW (fw1 (lB l)), iW (fw2 (lB l)), iW (fw3 (lB l))] 97), (br, oC #[iW 0, iW 0, iW 0, iW 0, iW 0, iW 0, iW 0, iW 0, iW 0, iW 0, iW 0, iW 0, iW 0, iW 0, iW 0, iW 0] 101), (bu, oC #[iW (fw0 u), iW (fw1 u), iW (fw2 u), iW (fw3 u)] 97), (bl, oC #[iW (fw0 l.x2), iW (fw1 l.x2), iW (fw2 l.x2), iW (fw3 l.x2), iW (fw0 l.z2), iW (fw1 l.z2), iW (fw2 l.z2), iW (fw3 l.z2), iW (fw0 l.x3), iW (fw1 l.x3), iW (fw2 l.x3), iW (fw3 l.x3), iW (fw0 l.z3), iW (fw1 l.z3), iW (fw2 l.z3), iW (fw3 l.z3)] 101)]) (by kernel_rfl) (by kernel_rfl) (by kernel_rfl) (fun _ => by kernel_rfl) (fun _ _ => by kernel_rfl) ⟨⟨_, rfl⟩, rfl, ⟨⟨_, rfl⟩, rfl, trivial⟩⟩ (fun nb => ⟨rfl, (part_lit rfl), rfl, rfl, (part_lit rfl), rfl, ⟨en_fAdd, fun w Hw => fadd2 l.x2 l.z2 (lA l) (nb 4) _ hl.1 hl.2.1 rfl w (Hw 0 _ rfl)⟩, rfl, (part_lit rfl), rfl, rfl, (part_lit rfl), rfl, (callP_of en_fSub (fsub2 l.x2 l.z2 (lB l) hl.1 hl.2.1 rfl) _), trivial⟩) (fun nb => ⟨rfl, rfl, rfl, (by kernel_rfl), rfl, rfl, rfl, rfl, (by kernel_rfl), rfl, fun _ _ FF2 MM2 => then_n ?_⟩))
  generalize nb 11 = pa at *
  generalize nb 12 = pb at *
  refine wp_seq (rg_draw FF2 MM2 [.inl (aG #[iW (fw0 (lA l)), iW (fw1 (lA l)), iW (fw2 (lA l)), iW (fw3 (lA l))]), .inl (aG #[iW (fw0 (lA l)), iW (fw1 (lA l)), iW (fw2 (lA l)), iW (fw3 (lA l))]), .inr (oC #[iW (fw0 (lA l)), iW (fw1 (lA l)), iW (fw2 (lA l)), iW (fw3 (lA l)), iW (fw0 (lA l)), iW (fw1 (lA l)), iW (fw2 (lA l)), iW (fw3 (lA l))] 97, fun b => .slice (some ⟨b, 0, none⟩) 2 2), .inl (aG #[iW (fw0 (lAA l)), iW (fw1 (lAA l)), iW (fw2 (lAA l)), iW (fw3 (lAA l))]), .inl (aG #[iW (fw0 (lB l)), iW (fw1 (lB l)), iW (fw2 (lB l)), iW (fw3 (lB l))]), .inl (aG #[iW (fw0 (lB l)), iW (fw1 (lB l)), iW (fw2 (lB l)), iW (fw3 (lB l))]), .inr (oC #[iW (fw0 (lB l)), iW (fw1 (lB l)), iW (fw2 (lB l)), iW (fw3 (lB l)), iW (fw0 (lB l)), iW (fw1 (lB l)), iW (fw2 (lB l)), iW (fw3 (lB l))] 97, fun b => .slice (some ⟨b, 0, none⟩) 2 2), .inl (aG #[iW (fw0 (lBB l)), iW (fw1 (lBB l)), iW (fw2 (lBB l)), iW (fw3 (lBB l))]), .inr (oC #[iW 0, iW 0, iW 0, iW 0] 97, fun b => pT b), .inr (oC #[iW 0, iW 0, iW 0, iW 0] 97, fun b => pT b)] [8, 9] [b_ 0, b_ 0, o_, u_ 1 (aG #[iW (fw0 (lAA l)), iW (fw1 (lAA l)), iW (fw2 (lAA l)), iW (fw3 (lAA l))]), b_ 1, b_ 1, o_, u_ 1 (aG #[iW (fw0 (lBB l)), iW (fw1 (lBB l)), iW (fw2 (lBB l)), iW (fw3 (lBB l))]), o_, o_] [b_ 0, b_ 1] [6, 5, 4, 3, 2, 7, 8] (fun nb => [pa = pa, (#[iW (fw0 (lA l)), iW (fw1 (lA l)), iW (fw2 (lA l)), iW (fw3 (lA l))] : Array Value).size = 4, pa = pa, (#[iW (fw0 (lA l)), iW (fw1 (lA l)), iW (fw2 (lA l)), iW (fw3 (lA l))] : Array Value).size = 4, CallP Tryz.prog 51 [.slice (some ⟨(nb 2), 0, none⟩) 2 2] [((nb 2), oC #[iW (fw0 (lA l)), iW (fw1 (lA l)), iW (fw2 (lA l)), iW (fw3 (lA l)), iW (fw0 (lA l)), iW (fw1 (lA l)), iW (fw2 (lA l)), iW (fw3 (lA l))] 97), (pa, oC #[iW (fw0 (lA l)), iW (fw1 (lA l)), iW (fw2 (lA l)), iW (fw3 (lA l))] 97), (pb, oC #[iW (fw0 (lB l)), iW (fw1 (lB l)), iW (fw2 (lB l)), iW (fw3 (lB l))] 97), (br, oC #[iW 0, iW 0, iW 0, iW 0, iW 0, iW 0, iW 0, iW 0, iW 0, iW 0, iW 0, iW 0, iW 0, iW 0, iW 0, iW 0] 101), (bu, oC #[iW (fw0 u), iW (fw1 u), iW (fw2 u), iW (fw3 u)] 97), (bl, oC #[iW (fw0 l.x2), iW (fw1 l.x2), iW (fw2 l.x2), iW (fw3 l.x2), iW (fw0 l.z2), iW (fw1 l.z2), iW (fw2 l.z2), iW (fw3 l.z2), iW (fw0 l.x3), iW (fw1 l.x3), iW (fw2 l.x3), iW (fw3 l.x3), iW (fw0 l.z3), iW (fw1 l.z3), iW (fw2 l.z3), iW (fw3 l.z3)] 101)] (aG #[iW (fw0 (lAA l)), iW (fw1 (lAA l)), iW (fw2 (lAA l)), iW (fw3 (lAA l))]), pb = pb, (#[iW (fw0 (lB l)), iW (fw1 (lB l)), iW (fw2 (lB l)), iW (fw3 (lB l))] : Array Value).size = 4, pb = pb, (#[iW (fw0 (lB l)), iW (fw1 (lB l)), iW (fw2 (lB l)), iW (fw3 (lB l))] : Array Value).size = 4, CallP Tryz.prog 51 [.slice (some ⟨(nb 6), 0, none⟩) 2 2] [((nb 6), oC #[iW (fw0 (lB l)), iW (fw1 (lB l)), iW (fw2 (lB l)), iW (fw3 (lB l)), iW (fw0 (lB l)), iW (fw1 (lB l)), iW (fw2 (lB l)), iW (fw3 (lB l))] 97), (pa, oC #[iW (fw0 (lA l)), iW (fw1 (lA l)), iW (fw2 (lA l)), iW (fw3 (lA l))] 97), (pb, oC #[iW (fw0 (lB l)), iW (fw1 (lB l)), iW (fw2 (lB l)), iW (fw3 (lB l))] 97), (br, oC #[iW 0, iW 0, iW 0, iW 0, iW 0, iW 0, iW 0, iW 0, iW 0, iW 0, iW 0, iW 0, iW 0, iW 0, iW 0, iW 0] 101), (bu, oC #[iW (fw0 u), iW (fw1 u), iW (fw2 u), iW (fw3 u)] 97), (bl, oC #[iW (fw0 l.x2), iW (fw1 l.x2), iW (fw2 l.x2), iW (fw3 l.x2), iW (fw0 l.z2), iW (fw1 l.z2), iW (fw2 l.z2), iW (fw3 l.z2), iW (fw0 l.x3), iW (fw1 l.x3), iW (fw2 l.x3), iW (fw3 l.x3), iW (fw0 l.z3), iW (fw1 l.z3), iW (fw2 l.z3), iW (fw3 l.z3)] 101)] (aG #[iW (fw0 (lBB l)), iW (fw1 (lBB l)), iW (fw2 (lBB l)), iW (fw3 (lBB l))])]) (fun nb Kt => (nb 8) = (nb 8) ∧ (#[iW 0, iW 0, iW 0, iW 0] : Array Value).size = 4 ∧ (#[iW (fw0 (lAA l)), iW (fw1 (lAA l)), iW (fw2 (lAA l)), iW (fw3 (lAA l))] : Array Value).size = 4 ∧ (#[iW (fw0 (lAA l)), iW (fw1 (lAA l)), iW (fw2 (lAA l)), iW (fw3 (lAA l))] : Array Value).all (·.oneCell') = true ∧ (0, 0).2 = 0 ∧ (nb 9) = (nb 9) ∧ (#[iW 0, iW 0, iW 0, iW 0] : Array Value).size = 4 ∧ (#[iW (fw0 (lBB l)), iW (fw1 (lBB l)), iW (fw2 (lBB l)), iW (fw3 (lBB l))] : Array Value).size = 4 ∧ (#[iW (fw0 (lBB l)), iW (fw1 (lBB l)), iW (fw2 (lBB l)), iW (fw3 (lBB l))] : Array Value).all (·.oneCell') = true ∧ (0, 0).2 = 0 ∧ Kt [(8, pT (nb 9)), (7, pT (nb 8)), (6, pT pb), (5, pT pa), (4, pT br), (3, pT bu), (2, pT bl)] [((nb 8), oC #[iW (fw0 (lAA l)), iW (fw1 (lAA l)), iW (fw2 (lAA l)), iW (fw3 (lAA l))] 97), ((nb 9), oC #[iW (fw0 (lBB l)), iW (fw1 (lBB l)), iW (fw2 (lBB l)), iW (fw3 (lBB l))] 97), (pa, oC #[iW (fw0 (lA l)), iW (fw1 (lA l)), iW (fw2 (lA l)), iW (fw3 (lA l))] 97), (pb, oC #[iW (fw0 (lB l)), iW (fw1 (lB l)), iW (fw2 (lB l)), iW (fw3 (lB l))] 97), (br, oC #[iW 0, iW 0, iW 0, iW 0, iW 0, iW 0, iW 0, iW 0, iW 0, iW 0, iW 0, iW 0, iW 0, iW 0, iW 0, iW 0] 101), (bu, oC #[iW (fw0 u), iW (fw1 u), iW (fw2 u), iW (fw3 u)] 97), (bl, oC #[iW (fw0 l.x2), iW (fw1 l.x2), iW (fw2 l.x2), iW (fw3 l.x2), iW (fw0 l.z2), iW (fw1 l.z2), iW (fw2 l.z2), iW (fw3 l.z2), iW (fw0 l.x3), iW (fw1 l.x3), iW (fw2 l.x3), iW (fw3 l.x3), iW (fw0 l.z3), iW (fw1 l.z3), iW (fw2 l.z3), iW (fw3 l.z3)] 101)]) (by kernel_rfl) (by kernel_rfl) (by kernel_rfl) (fun _ => by kernel_rfl) (fun _ _ => by kernel_rfl) ⟨⟨_, rfl⟩, rfl, ⟨⟨_, rfl⟩, rfl, trivial⟩⟩ (fun nb => ⟨rfl, rfl, rfl, rfl, ⟨en_fMul, fun w Hw => fmul2 (lA l) (lA l) (lAA l) (nb 2) _ (aN_lt _ _) (aN_lt _ _) rfl w (Hw 0 _ rfl)⟩, rfl, rfl, rfl, rfl, ⟨en_fMul, fun w Hw => fmul2 (lB l) (lB l) (lBB l) (nb 6) _ (sN_lt _ _) (sN_lt _ _) rfl w (Hw 0 _ rfl)⟩, trivial⟩) (fun nb => ⟨rfl, rfl, rfl, (by kernel_rfl), rfl, rfl, rfl, rfl, (by kernel_rfl), rfl, fun _ _ FF3 MM3 => then_n ?_⟩))
  generalize nb 8 = paa at *
  generalize nb 9 = pbb at *
  refine wp_seq (rg_c FF3 MM3 [(0, b_ 0), (0, b_ 1), (0, t_ (aG #[iW (fw0 (lE l)), iW (fw1 (lE l)), iW (fw2 (lE l)), iW (fw3 (lE l))])), (1, b_ 0)] 9 [9] [] (⟨rfl, rfl, rfl, rfl, (callP_of en_fSub (fsub2 (lAA l) (lBB l) (lE l) (mN_lt _ _) (mN_lt _ _) rfl) _), fun pe => ⟨rfl, rfl, rfl, (by kernel_rfl), rfl, fun _ _ FF4 MM4 => then_n ?_⟩⟩))
  refine wp_seq (rg_draw FF4 MM4 [.inl (.pointer (some ⟨bl, 8, none⟩)), .inl (aG #[iW (fw0 l.x3), iW (fw1 l.x3), iW (fw2 l.x3), iW (fw3 l.x3)]), .inl (.pointer (some ⟨bl, 12, none⟩)), .inl (aG #[iW (fw0 l.z3), iW (fw1 l.z3), iW (fw2 l.z3), iW (fw3 l.z3)]), .inl (aG #[iW (fw0 (sN l.x3 l.z3)), iW (fw1 (sN l.x3 l.z3)), iW (fw2 (sN l.x3 l.z3)), iW (fw3 (sN l.x3 l.z3))]), .inl (aG #[iW (fw0 (lA l)), iW (fw1 (lA l)), iW (fw2 (lA l)), iW (fw3 (lA l))]), .inr (oC #[iW (fw0 (sN l.x3 l.z3)), iW (fw1 (sN l.x3 l.z3)), iW (fw2 (sN l.x3 l.z3)), iW (fw3 (sN l.x3 l.z3)), iW (fw0 (lA l)), iW (fw1 (lA l)), iW (fw2 (lA l)), iW (fw3 (lA l))] 97, fun b => .slice (some ⟨b, 0, none⟩) 2 2), .inl (aG #[iW (fw0 (lDA l)), iW (fw1 (lDA l)), iW (fw2 (lDA l)), iW (fw3 (lDA l))]), .inr (oC #[iW 0, iW 0, iW 0, iW 0] 97, fun b => pT b)] [8] [o_, l_ 7 (aG #[iW (fw0 l.x3), iW (fw1 l.x3), iW (fw2 l.x3), iW (fw3 l.x3)]), o_, l_ 7 (aG #[iW (fw0 l.z3), iW (fw1 l.z3), iW (fw2 l.z3), iW (fw3 l.z3)]), t_ (aG #[iW (fw0 (sN l.x3 l.z3)), iW (fw1 (sN l.x3 l.z3)), iW (fw2 (sN l.x3 l.z3)), iW (fw3 (sN l.x3 l.z3))]), b_ 3, o_, u_ 1 (aG #[iW (fw0 (lDA l)), iW (fw1 (lDA l)), iW (fw2 (lDA l)), iW (fw3 (lDA l))]), o_] [b_ 0] [9, 8, 7, 6, 5, 4, 3, 2, 10] (fun nb => [bl = bl, PartAt (#[iW (fw0 l.x2), iW (fw1 l.x2), iW (fw2 l.x2), iW (fw3 l.x2), iW (fw0 l.z2), iW (fw1 l.z2), iW (fw2 l.z2), iW (fw3 l.z2), iW (fw0 l.x3), iW (fw1 l.x3), iW (fw2 l.x3), iW (fw3 l.x3), iW (fw0 l.z3), iW (fw1 l.z3), iW (fw2 l.z3), iW (fw3 l.z3)] : Array Value) 8 (#[iW (fw0 l.x3), iW (fw1 l.x3), iW (fw2 l.x3), iW (fw3 l.x3)] : Array Value), (#[iW (fw0 l.x3), iW (fw1 l.x3), iW (fw2 l.x3), iW (fw3 l.x3)] : Array Value).size = 4, bl = bl, PartAt (#[iW (fw0 l.x2), iW (fw1 l.x2), iW (fw2 l.x2), iW (fw3 l.x2), iW (fw0 l.z2), iW (fw1 l.z2), iW (fw2 l.z2), iW (fw3 l.z2), iW (fw0 l.x3), iW (fw1 l.x3), iW (fw2 l.x3), iW (fw3 l.x3), iW (fw0 l.z3), iW (fw1 l.z3), iW (fw2 l.z3), iW (fw3 l.z3)] : Array Value) 12 (#[iW (fw0 l.z3), iW (fw1 l.z3), iW (fw2 l.z3), iW (fw3 l.z3)] : Array Value), (#[iW (fw0 l.z3), iW (fw1 l.z3), iW (fw2 l.z3), iW (fw3 l.z3)] : Array Value).size = 4, CallP Tryz.prog 76 [aG #[iW (fw0 l.x3), iW (fw1 l.x3), iW (fw2 l.x3), iW (fw3 l.x3)], aG #[iW (fw0 l.z3), iW (fw1 l.z3), iW (fw2 l.z3), iW (fw3 l.z3)]] [] (aG #[iW (fw0 (sN l.x3 l.z3)), iW (fw1 (sN l.x3 l.z3)), iW (fw2 (sN l.x3 l.z3)), iW (fw3 (sN l.x3 l.z3))]), pa = pa, (#[iW (fw0 (lA l)), iW (fw1 (lA l)), iW (fw2 (lA l)), iW (fw3 (lA l))] : Array Value).size = 4, CallP Tryz.prog 51 [.slice (some ⟨(nb 6), 0, none⟩) 2 2] [((nb 6), oC #[iW (fw0 (sN l.x3 l.z3)), iW (fw1 (sN l.x3 l.z3)), iW (fw2 (sN l.x3 l.z3)), iW (fw3 (sN l.x3 l.z3)), iW (fw0 (lA l)), iW (fw1 (lA l)), iW (fw2 (lA l)), iW (fw3 (lA l))] 97), (pe, oC #[iW (fw0 (lE l)), iW (fw1 (lE l)), iW (fw2 (lE l)), iW (fw3 (lE l))] 97), (paa, oC #[iW (fw0 (lAA l)), iW (fw1 (lAA l)), iW (fw2 (lAA l)), iW (fw3 (lAA l))] 97), (pbb, oC #[iW (fw0 (lBB l)), iW (fw1 (lBB l)), iW (fw2 (lBB l)), iW (fw3 (lBB l))] 97), (pa, oC #[iW (fw0 (lA l)), iW (fw1 (lA l)), iW (fw2 (lA l)), iW (fw3 (lA l))] 97), (pb, oC #[iW (fw0 (lB l)), iW (fw1 (lB l)), iW (fw2 (lB l)), iW (fw3 (lB l))] 97), (br, oC #[iW 0, iW 0, iW 0, iW 0, iW 0, iW 0, iW 0, iW 0, iW 0, iW 0, iW 0, iW 0, iW 0, iW 0, iW 0, iW 0] 101), (bu, oC #[iW (fw0 u), iW (fw1 u), iW (fw2 u), iW (fw3 u)] 97), (bl, oC #[iW (fw0 l.x2), iW (fw1 l.x2), iW (fw2 l.x2), iW (fw3 l.x2), iW (fw0 l.z2), iW (fw1 l.z2), iW (fw2 l.z2), iW (fw3 l.z2), iW (fw0 l.x3), iW (fw1 l.x3), iW (fw2 l.x3), iW (fw3 l.x3), iW (fw0 l.z3), iW (fw1 l.z3), iW (fw2 l.z3), iW (fw3 l.z3)] 101)] (aG #[iW (fw0 (lDA l)), iW (fw1 (lDA l)), iW (fw2 (lDA l)), iW (fw3 (lDA l))])]) (fun nb Kt => (nb 8) = (nb 8) ∧ (#[iW 0, iW 0, iW 0, iW 0] : Array Value).size = 4 ∧ (#[iW (fw0 (lDA l)), iW (fw1 (lDA l)), iW (fw2 (lDA l)), iW (fw3 (lDA l))] : Array Value).size = 4 ∧ (#[iW (fw0 (lDA l)), iW (fw1 (lDA l)), iW (fw2 (lDA l)), iW (fw3 (lDA l))] : Array Value).all (·.oneCell') = true ∧ (0, 0).2 = 0 ∧ Kt [(10, pT (nb 8)), (9, pT pe), (8, pT pbb), (7, pT paa), (6, pT pb), (5, pT pa), (4, pT br), (3, pT bu), (2, pT bl)] [((nb 8), oC #[iW (fw0 (lDA l)), iW (fw1 (lDA l)), iW (fw2 (lDA l)), iW (fw3 (lDA l))] 97), (pe, oC #[iW (fw0 (lE l)), iW (fw1 (lE l)), iW (fw2 (lE l)), iW (fw3 (lE l))] 97), (paa, oC #[iW (fw0 (lAA l)), iW (fw1 (lAA l)), iW (fw2 (lAA l)), iW (fw3 (lAA l))] 97), (pbb, oC #[iW (fw0 (lBB l)), iW (fw1 (lBB l)), iW (fw2 (lBB l)), iW (fw3 (lBB l))] 97), (pa, oC #[iW (fw0 (lA l)), iW (fw1 (lA l)), iW (fw2 (lA l)), iW (fw3 (lA l))] 97), (pb, oC #[iW (fw0 (lB l)), iW (fw1 (lB l)), iW (fw2 (lB l)), iW (fw3 (lB l))] 97), (br, oC #[iW 0, iW 0, iW 0, iW 0, iW 0, iW 0, iW 0, iW 0, iW 0, iW 0, iW 0, iW 0, iW 0, iW 0, iW 0, iW 0] 101), (bu, oC #[iW (fw0 u), iW (fw1 u), iW (fw2 u), iW (fw3 u)] 97), (bl, oC #[iW (fw0 l.x2), iW (fw1 l.x2), iW (fw2 l.x2), iW (fw3 l.x2), iW (fw0 l.z2), iW (fw1 l.z2), iW (fw2 l.z2), iW (fw3 l.z2), iW (fw0 l.x3), iW (fw1 l.x3), iW (fw2 l.x3), iW (fw3 l.x3), iW (fw0 l.z3), iW (fw1 l.z3), iW (fw2 l.z3), iW (fw3 l.z3)] 101)]) (by kernel_rfl) (by kernel_rfl) (by kernel_rfl) (fun _ => by kernel_rfl) (fun _ _ => by kernel_rfl) ⟨⟨_, rfl⟩, rfl, trivial⟩ (fun nb => ⟨rfl, (part_lit rfl), rfl, rfl, (part_lit rfl), rfl, (callP_of en_fSub (fsub2 l.x3 l.z3 (sN l.x3 l.z3) hl.2.2.1 hl.2.2.2 rfl) _), rfl, rfl, ⟨en_fMul, fun w Hw => fmul2 (sN l.x3 l.z3) (lA l) (lDA l) (nb 6) _ (sN_lt _ _) (aN_lt _ _) rfl w (Hw 0 _ rfl)⟩, trivial⟩) (fun nb => ⟨rfl, rfl, rfl, (by kernel_rfl), rfl, fun _ _ FF5 MM5 => then_n ?_⟩))
  generalize nb 8 = pda at *
  refine wp_seq (rg_draw FF5 MM5 [.inl (.pointer (some ⟨bl, 8, none⟩)), .inl (aG #[iW (fw0 l.x3), iW (fw1 l.x3), iW (fw2 l.x3), iW (fw3 l.x3)]), .inl (.pointer (some ⟨bl, 12, none⟩)), .inl (aG #[iW (fw0 l.z3), iW (fw1 l.z3), iW (fw2 l.z3), iW (fw3 l.z3)]), .inr (oC #[iW (fw0 l.x3), iW (fw1 l.x3), iW (fw2 l.x3), iW (fw3 l.x3), iW (fw0 l.z3), iW (fw1 l.z3), iW (fw2 l.z3), iW (fw3 l.z3)] 97, fun b => .slice (some ⟨b, 0, none⟩) 2 2), .inl (aG #[iW (fw0 (aN l.x3 l.z3)), iW (fw1 (aN l.x3 l.z3)), iW (fw2 (aN l.x3 l.z3)), iW (fw3 (aN l.x3 l.z3))]), .inl (aG #[iW (fw0 (lB l)), iW (fw1 (lB l)), iW (fw2 (lB l)), iW (fw3 (lB l))]), .inr (oC #[iW (fw0 (aN l.x3 l.z3)), iW (fw1 (aN l.x3 l.z3)), iW (fw2 (aN l.x3 l.z3)), iW (fw3 (aN l.x3 l.z3)), iW (fw0 (lB l)), iW (fw1 (lB l)), iW (fw2 (lB l)), iW (fw3 (lB l))] 97, fun b => .slice (some ⟨b, 0, none⟩) 2 2), .inl (aG #[iW (fw0 (lCB l)), iW (fw1 (lCB l)), iW (fw2 (lCB l)), iW (fw3 (lCB l))]), .inr (oC #[iW 0, iW 0, iW 0, iW 0] 97, fun b => pT b)] [9] [o_, l_ 8 (aG #[iW (fw0 l.x3), iW (fw1 l.x3), iW (fw2 l.x3), iW (fw3 l.x3)]), o_, l_ 8 (aG #[iW (fw0 l.z3), iW (fw1 l.z3), iW (fw2 l.z3), iW (fw3 l.z3)]), o_, u_ 1 (aG #[iW (fw0 (aN l.x3 l.z3)), iW (fw1 (aN l.x3 l.z3)), iW (fw2 (aN l.x3 l.z3)), iW (fw3 (aN l.x3 l.z3))]), b_ 5, o_, u_ 1 (aG #[iW (fw0 (lCB l)), iW (fw1 (lCB l)), iW (fw2 (lCB l)), iW (fw3 (lCB l))]), o_] [b_ 0] [10, 9, 8, 7, 6, 5, 4, 3, 2, 11] (fun nb => [bl = bl, PartAt (#[iW (fw0 l.x2), iW (fw1 l.x2), iW (fw2 l.x2), iW (fw3 l.x2), iW (fw0 l.z2), iW (fw1 l.z2), iW (fw2 l.z2), iW (fw3 l.z2), iW (fw0 l.x3), iW (fw1 l.x3), iW (fw2 l.x3), iW (fw3 l.x3), iW (fw0 l.z3), iW (fw1 l.z3), iW (fw2 l.z3), iW (fw3 l.z3)] : Array Value) 8 (#[iW (fw0 l.x3), iW (fw1 l.x3), iW (fw2 l.x3), iW (fw3 l.x3)] : Array Value), (#[iW (fw0 l.x3), iW (fw1 l.x3), iW (fw2 l.x3), iW (fw3 l.x3)] : Array Value).size = 4, bl = bl, PartAt (#[iW (fw0 l.x2), iW (fw1 l.x2), iW (fw2 l.x2), iW (fw3 l.x2), iW (fw0 l.z2), iW (fw1 l.z2), iW (fw2 l.z2), iW (fw3 l.z2), iW (fw0 l.x3), iW (fw1 l.x3), iW (fw2 l.x3), iW (fw3 l.x3), iW (fw0 l.z3), iW (fw1 l.z3), iW (fw2 l.z3), iW (fw3 l.z3)] : Array Value) 12 (#[iW (fw0 l.z3), iW (fw1 l.z3), iW (fw2 l.z3), iW (fw3 l.z3)] : Array Value), (#[iW (fw0 l.z3), iW (fw1 l.z3), iW (fw2 l.z3), iW (fw3 l.z3)] : Array Value).size = 4, CallP Tryz.prog 75 [.slice (some ⟨(nb 4), 0, none⟩) 2 2] [((nb 4), oC #[iW (fw0 l.x3), iW (fw1 l.x3), iW (fw2 l.x3), iW (fw3 l.x3), iW (fw0 l.z3), iW (fw1 l.z3), iW (fw2 l.z3), iW (fw3 l.z3)] 97), (pda, oC #[iW (fw0 (lDA l)), iW (fw1 (lDA l)), iW (fw2 (lDA l)), iW (fw3 (lDA l))] 97), (pe, oC #[iW (fw0 (lE l)), iW (fw1 (lE l)), iW (fw2 (lE l)), iW (fw3 (lE l))] 97), (paa, oC #[iW (fw0 (lAA l)), iW (fw1 (lAA l)), iW (fw2 (lAA l)), iW (fw3 (lAA l))] 97), (pbb, oC #[iW (fw0 (lBB l)), iW (fw1 (lBB l)), iW (fw2 (lBB l)), iW (fw3 (lBB l))] 97), (pa, oC #[iW (fw0 (lA l)), iW (fw1 (lA l)), iW (fw2 (lA l)), iW (fw3 (lA l))] 97), (pb, oC #[iW (fw0 (lB l)), iW (fw1 (lB l)), iW (fw2 (lB l)), iW (fw3 (lB l))] 97), (br, oC #[iW 0, iW 0, iW 0, iW 0, iW 0, iW 0, iW 0, iW 0, iW 0, iW 0, iW 0, iW 0, iW 0, iW 0, iW 0, iW 0] 101), (bu, oC #[iW (fw0 u), iW (fw1 u), iW (fw2 u), iW (fw3 u)] 97), (bl, oC #[iW (fw0 l.x2), iW (fw1 l.x2), iW (fw2 l.x2), iW (fw3 l.x2), iW (fw0 l.z2), iW (fw1 l.z2), iW (fw2 l.z2), iW (fw3 l.z2), iW (fw0 l.x3), iW (fw1 l.x3), iW (fw2 l.x3), iW (fw3 l.x3), iW (fw0 l.z3), iW (fw1 l.z3), iW (fw2 l.z3), iW (fw3 l.z3)] 101)] (aG #[iW (fw0 (aN l.x3 l.z3)), iW (fw1 (aN l.x3 l.z3)), iW (fw2 (aN l.x3 l.z3)), iW (fw3 (aN l.x3 l.z3))]), pb = pb, (#[iW (fw0 (lB l)), iW (fw1 (lB l)), iW (fw2 (lB l)), iW (fw3 (lB l))] : Array Value).size = 4, CallP Tryz.prog 51 [.slice (some ⟨(nb 7), 0, none⟩) 2 2] [((nb 7), oC #[iW (fw0 (aN l.x3 l.z3)), iW (fw1 (aN l.x3 l.z3)), iW (fw2 (aN l.x3 l.z3)), iW (fw3 (aN l.x3 l.z3)), iW (fw0 (lB l)), iW (fw1 (lB l)), iW (fw2 (lB l)), iW (fw3 (lB l))] 97), (pda, oC #[iW (fw0 (lDA l)), iW (fw1 (lDA l)), iW (fw2 (lDA l)), iW (fw3 (lDA l))] 97), (pe, oC #[iW (fw0 (lE l)), iW (fw1 (lE l)), iW (fw2 (lE l)), iW (fw3 (lE l))] 97), (paa, oC #[iW (fw0 (lAA l)), iW (fw1 (lAA l)), iW (fw2 (lAA l)), iW (fw3 (lAA l))] 97), (pbb, oC #[iW (fw0 (lBB l)), iW (fw1 (lBB l)), iW (fw2 (lBB l)), iW (fw3 (lBB l))] 97), (pa, oC #[iW (fw0 (lA l)), iW (fw1 (lA l)), iW (fw2 (lA l)), iW (fw3 (lA l))] 97), (pb, oC #[iW (fw0 (lB l)), iW (fw1 (lB l)), iW (fw2 (lB l)), iW (fw3 (lB l))] 97), (br, oC #[iW 0, iW 0, iW 0, iW 0, iW 0, iW 0, iW 0, iW 0, iW 0, iW 0, iW 0, iW 0, iW 0, iW 0, iW 0, iW 0] 101), (bu, oC #[iW (fw0 u), iW (fw1 u), iW (fw2 u), iW (fw3 u)] 97), (bl, oC #[iW (fw0 l.x2), iW (fw1 l.x2), iW (fw2 l.x2), iW (fw3 l.x2), iW (fw0 l.z2), iW (fw1 l.z2), iW (fw2 l.z2), iW (fw3 l.z2), iW (fw0 l.x3), iW (fw1 l.x3), iW (fw2 l.x3), iW (fw3 l.x3), iW (fw0 l.z3), iW (fw1 l.z3), iW (fw2 l.z3), iW (fw3 l.z3)] 101)] (aG #[iW (fw0 (lCB l)), iW (fw1 (lCB l)), iW (fw2 (lCB l)), iW (fw3 (lCB l))])]) (fun nb Kt => (nb 9) = (nb 9) ∧ (#[iW 0, iW 0, iW 0, iW 0] : Array Value).size = 4 ∧ (#[iW (fw0 (lCB l)), iW (fw1 (lCB l)), iW (fw2 (lCB l)), iW (fw3 (lCB l))] : Array Value).size = 4 ∧ (#[iW (fw0 (lCB l)), iW (fw1 (lCB l)), iW (fw2 (lCB l)), iW (fw3 (lCB l))] : Array Value).all (·.oneCell') = true ∧ (0, 0).2 = 0 ∧ Kt [(11, pT (nb 9)), (10, pT pda), (9, pT pe), (8, pT pbb), (7, pT paa), (6, pT pb), (5, pT pa), (4, pT br), (3, pT bu), (2, pT bl)] [((nb 9), oC #[iW (fw0 (lCB l)), iW (fw1 (lCB l)), iW (fw2 (lCB l)), iW (fw3 (lCB l))] 97), (pda, oC #[iW (fw0 (lDA l)), iW (fw1 (lDA l)), iW (fw2 (lDA l)), iW (fw3 (lDA l))] 97), (pe, oC #[iW (fw0 (lE l)), iW (fw1 (lE l)), iW (fw2 (lE l)), iW (fw3 (lE l))] 97), (paa, oC #[iW (fw0 (lAA l)), iW (fw1 (lAA l)), iW (fw2 (lAA l)), iW (fw3 (lAA l))] 97), (pbb, oC #[iW (fw0 (lBB l)), iW (fw1 (lBB l)), iW (fw2 (lBB l)), iW (fw3 (lBB l))] 97), (pa, oC #[iW (fw0 (lA l)), iW (fw1 (lA l)), iW (fw2 (lA l)), iW (fw3 (lA l))] 97), (pb, oC #[iW (fw0 (lB l)), iW (fw1 (lB l)), iW (fw2 (lB l)), iW (fw3 (lB l))] 97), (br, oC #[iW 0, iW 0, iW 0, iW 0, iW 0, iW 0, iW 0, iW 0, iW 0, iW 0, iW 0, iW 0, iW 0, iW 0, iW 0, iW 0] 101), (bu, oC #[iW (fw0 u), iW (fw1 u), iW (fw2 u), iW (fw3 u)] 97), (bl, oC #[iW (fw0 l.x2), iW (fw1 l.x2), iW (fw2 l.x2), iW (fw3 l.x2), iW (fw0 l.z2), iW (fw1 l.z2), iW (fw2 l.z2), iW (fw3 l.z2), iW (fw0 l.x3), iW (fw1 l.x3), iW (fw2 l.x3), iW (fw3 l.x3), iW (fw0 l.z3), iW (fw1 l.z3), iW (fw2 l.z3), iW (fw3 l.z3)] 101)]) (by kernel_rfl) (by kernel_rfl) (by kernel_rfl) (fun _ => by kernel_rfl) (fun _ _ => by kernel_rfl) ⟨⟨_, rfl⟩, rfl, trivial⟩ (fun nb => ⟨rfl, (part_lit rfl), rfl, rfl, (part_lit rfl), rfl, ⟨en_fAdd, fun w Hw => fadd2 l.x3 l.z3 (aN l.x3 l.z3) (nb 4) _ hl.2.2.1 hl.2.2.2 rfl w (Hw 0 _ rfl)⟩, rfl, rfl, ⟨en_fMul, fun w Hw => fmul2 (aN l.x3 l.z3) (lB l) (lCB l) (nb 7) _ (aN_lt _ _) (sN_lt _ _) rfl w (Hw 0 _ rfl)⟩, trivial⟩) (fun nb => ⟨rfl, rfl, rfl, (by kernel_rfl), rfl, fun _ _ FF6 MM6 => then_n ?_⟩))
  generalize nb 9 = pcb at *
  refine wp_seq (rg_draw FF6 MM6 [.inl (aG #[iW (fw0 (lDA l)), iW (fw1 (lDA l)), iW (fw2 (lDA l)), iW (fw3 (lDA l))]), .inl (aG #[iW (fw0 (lCB l)), iW (fw1 (lCB l)), iW (fw2 (lCB l)), iW (fw3 (lCB l))]), .inr (oC #[iW (fw0 (lDA l)), iW (fw1 (lDA l)), iW (fw2 (lDA l)), iW (fw3 (lDA l)), iW (fw0 (lCB l)), iW (fw1 (lCB l)), iW (fw2 (lCB l)), iW (fw3 (lCB l))] 97, fun b => .slice (some ⟨b, 0, none⟩) 2 2), .inl (aG #[iW (fw0 (lS l)), iW (fw1 (lS l)), iW (fw2 (lS l)), iW (fw3 (lS l))]), .inl (aG #[iW (fw0 (lDA l)), iW (fw1 (lDA l)), iW (fw2 (lDA l)), iW (fw3 (lDA l))]), .inl (aG #[iW (fw0 (lCB l)), iW (fw1 (lCB l)), iW (fw2 (lCB l)), iW (fw3 (lCB l))]), .inl (aG #[iW (fw0 (lL l)), iW (fw1 (lL l)), iW (fw2 (lL l)), iW (fw3 (lL l))]), .inr (oC #[iW 0, iW 0, iW 0, iW 0] 97, fun b => pT b), .inr (oC #[iW 0, iW 0, iW 0, iW 0] 97, fun b => pT b)] [7, 8] [b_ 1, b_ 0, o_, u_ 1 (aG #[iW (fw0 (lS l)), iW (fw1 (lS l)), iW (fw2 (lS l)), iW (fw3 (lS l))]), b_ 1, b_ 0, t_ (aG #[iW (fw0 (lL l)), iW (fw1 (lL l)), iW (fw2 (lL l)), iW (fw3 (lL l))]), o_, o_] [b_ 0, b_ 1] [11, 10, 9, 8, 7, 6, 5, 4, 3, 2, 12, 13] (fun nb => [pda = pda, (#[iW (fw0 (lDA l)), iW (fw1 (lDA l)), iW (fw2 (lDA l)), iW (fw3 (lDA l))] : Array Value).size = 4, pcb = pcb, (#[iW (fw0 (lCB l)), iW (fw1 (lCB l)), iW (fw2 (lCB l)), iW (fw3 (lCB l))] : Array Value).size = 4, CallP Tryz.prog 75 [.slice (some ⟨(nb 2), 0, none⟩) 2 2] [((nb 2), oC #[iW (fw0 (lDA l)), iW (fw1 (lDA l)), iW (fw2 (lDA l)), iW (fw3 (lDA l)), iW (fw0 (lCB l)), iW (fw1 (lCB l)), iW (fw2 (lCB l)), iW (fw3 (lCB l))] 97), (pcb, oC #[iW (fw0 (lCB l)), iW (fw1 (lCB l)), iW (fw2 (lCB l)), iW (fw3 (lCB l))] 97), (pda, oC #[iW (fw0 (lDA l)), iW (fw1 (lDA l)), iW (fw2 (lDA l)), iW (fw3 (lDA l))] 97), (pe, oC #[iW (fw0 (lE l)), iW (fw1 (lE l)), iW (fw2 (lE l)), iW (fw3 (lE l))] 97), (paa, oC #[iW (fw0 (lAA l)), iW (fw1 (lAA l)), iW (fw2 (lAA l)), iW (fw3 (lAA l))] 97), (pbb, oC #[iW (fw0 (lBB l)), iW (fw1 (lBB l)), iW (fw2 (lBB l)), iW (fw3 (lBB l))] 97), (pa, oC #[iW (fw0 (lA l)), iW (fw1 (lA l)), iW (fw2 (lA l)), iW (fw3 (lA l))] 97), (pb, oC #[iW (fw0 (lB l)), iW (fw1 (lB l)), iW (fw2 (lB l)), iW (fw3 (lB l))] 97), (br, oC #[iW 0, iW 0, iW 0, iW 0, iW 0, iW 0, iW 0, iW 0, iW 0, iW 0, iW 0, iW 0, iW 0, iW 0, iW 0, iW 0] 101), (bu, oC #[iW (fw0 u), iW (fw1 u), iW (fw2 u), iW (fw3 u)] 97), (bl, oC #[iW (fw0 l.x2), iW (fw1 l.x2), iW (fw2 l.x2), iW (fw3 l.x2), iW (fw0 l.z2), iW (fw1 l.z2), iW (fw2 l.z2), iW (fw3 l.z2), iW (fw0 l.x3), iW (fw1 l.x3), iW (fw2 l.x3), iW (fw3 l.x3), iW (fw0 l.z3), iW (fw1 l.z3), iW (fw2 l.z3), iW (fw3 l.z3)] 101)] (aG #[iW (fw0 (lS l)), iW (fw1 (lS l)), iW (fw2 (lS l)), iW (fw3 (lS l))]), pda = pda, (#[iW (fw0 (lDA l)), iW (fw1 (lDA l)), iW (fw2 (lDA l)), iW (fw3 (lDA l))] : Array Value).size = 4, pcb = pcb, (#[iW (fw0 (lCB l)), iW (fw1 (lCB l)), iW (fw2 (lCB l)), iW (fw3 (lCB l))] : Array Value).size = 4, CallP Tryz.prog 76 [aG #[iW (fw0 (lDA l)), iW (fw1 (lDA l)), iW (fw2 (lDA l)), iW (fw3 (lDA l))], aG #[iW (fw0 (lCB l)), iW (fw1 (lCB l)), iW (fw2 (lCB l)), iW (fw3 (lCB l))]] [] (aG #[iW (fw0 (lL l)), iW (fw1 (lL l)), iW (fw2 (lL l)), iW (fw3 (lL l))])]) (fun nb Kt => (nb 7) = (nb 7) ∧ (#[iW 0, iW 0, iW 0, iW 0] : Array Value).size = 4 ∧ (#[iW (fw0 (lS l)), iW (fw1 (lS l)), iW (fw2 (lS l)), iW (fw3 (lS l))] : Array Value).size = 4 ∧ (#[iW (fw0 (lS l)), iW (fw1 (lS l)), iW (fw2 (lS l)), iW (fw3 (lS l))] : Array Value).all (·.oneCell') = true ∧ (0, 0).2 = 0 ∧ (nb 8) = (nb 8) ∧ (#[iW 0, iW 0, iW 0, iW 0] : Array Value).size = 4 ∧ (#[iW (fw0 (lL l)), iW (fw1 (lL l)), iW (fw2 (lL l)), iW (fw3 (lL l))] : Array Value).size = 4 ∧ (#[iW (fw0 (lL l)), iW (fw1 (lL l)), iW (fw2 (lL l)), iW (fw3 (lL l))] : Array Value).all (·.oneCell') = true ∧ (0, 0).2 = 0 ∧ Kt [(13, pT (nb 8)), (12, pT (nb 7)), (11, pT pcb), (10, pT pda), (9, pT pe), (8, pT pbb), (7, pT paa), (6, pT pb), (5, pT pa), (4, pT br), (3, pT bu), (2, pT bl)] [((nb 7), oC #[iW (fw0 (lS l)), iW (fw1 (lS l)), iW (fw2 (lS l)), iW (fw3 (lS l))] 97), ((nb 8), oC #[iW (fw0 (lL l)), iW (fw1 (lL l)), iW (fw2 (lL l)), iW (fw3 (lL l))] 97), (pcb, oC #[iW (fw0 (lCB l)), iW (fw1 (lCB l)), iW (fw2 (lCB l)), iW (fw3 (lCB l))] 97), (pda, oC #[iW (fw0 (lDA l)), iW (fw1 (lDA l)), iW (fw2 (lDA l)), iW (fw3 (lDA l))] 97), (pe, oC #[iW (fw0 (lE l)), iW (fw1 (lE l)), iW (fw2 (lE l)), iW (fw3 (lE l))] 97), (paa, oC #[iW (fw0 (lAA l)), iW (fw1 (lAA l)), iW (fw2 (lAA l)), iW (fw3 (lAA l))] 97), (pbb, oC #[iW (fw0 (lBB l)), iW (fw1 (lBB l)), iW (fw2 (lBB l)), iW (fw3 (lBB l))] 97), (pa, oC #[iW (fw0 (lA l)), iW (fw1 (lA l)), iW (fw2 (lA l)), iW (fw3 (lA l))] 97), (pb, oC #[iW (fw0 (lB l)), iW (fw1 (lB l)), iW (fw2 (lB l)), iW (fw3 (lB l))] 97), (br, oC #[iW 0, iW 0, iW 0, iW 0, iW 0, iW 0, iW 0, iW 0, iW 0, iW 0, iW 0, iW 0, iW 0, iW 0, iW 0, iW 0] 101), (bu, oC #[iW (fw0 u), iW (fw1 u), iW (fw2 u), iW (fw3 u)] 97), (bl, oC #[iW (fw0 l.x2), iW (fw1 l.x2), iW (fw2 l.x2), iW (fw3 l.x2), iW (fw0 l.z2), iW (fw1 l.z2), iW (fw2 l.z2), iW (fw3 l.z2), iW (fw0 l.x3), iW (fw1 l.x3), iW (fw2 l.x3), iW (fw3 l.x3), iW (fw0 l.z3), iW (fw1 l.z3), iW (fw2 l.z3), iW (fw3 l.z3)] 101)]) (by kernel_rfl) (by kernel_rfl) (by kernel_rfl) (fun _ => by kernel_rfl) (fun _ _ => by kernel_rfl) ⟨⟨_, rfl⟩, rfl, ⟨⟨_, rfl⟩, rfl, trivial⟩⟩ (fun nb => ⟨rfl, rfl, rfl, rfl, ⟨en_fAdd, fun w Hw => fadd2 (lDA l) (lCB l) (lS l) (nb 2) _ (mN_lt _ _) (mN_lt _ _) rfl w (Hw 0 _ rfl)⟩, rfl, rfl, rfl, rfl, (callP_of en_fSub (fsub2 (lDA l) (lCB l) (lL l) (mN_lt _ _) (mN_lt _ _) rfl) _), trivial⟩) (fun nb => ⟨rfl, rfl, rfl, (by kernel_rfl), rfl, rfl, rfl, rfl, (by kernel_rfl), rfl, fun _ _ FF7 MM7 => then_n ?_⟩))
  generalize nb 7 = ps at *
  generalize nb 8 = pl at *
  refine wp_seq (rg_draw FF7 MM7 [.inl (aG #[iW (fw0 (lAA l)), iW (fw1 (lAA l)), iW (fw2 (lAA l)), iW (fw3 (lAA l))]), .inl (aG #[iW (fw0 (lBB l)), iW (fw1 (lBB l)), iW (fw2 (lBB l)), iW (fw3 (lBB l))]), .inr (oC #[iW (fw0 (lAA l)), iW (fw1 (lAA l)), iW (fw2 (lAA l)), iW (fw3 (lAA l)), iW (fw0 (lBB l)), iW (fw1 (lBB l)), iW (fw2 (lBB l)), iW (fw3 (lBB l))] 97, fun b => .slice (some ⟨b, 0, none⟩) 2 2), .inl (aG #[iW (fw0 (mN (lAA l) (lBB l))), iW (fw1 (mN (lAA l) (lBB l))), iW (fw2 (mN (lAA l) (lBB l))), iW (fw3 (mN (lAA l) (lBB l)))]), .inl (aG #[iW (fw0 (lE l)), iW (fw1 (lE l)), iW (fw2 (lE l)), iW (fw3 (lE l))]), .inl (aG #[iW (fw0 (lAA l)), iW (fw1 (lAA l)), iW (fw2 (lAA l)), iW (fw3 (lAA l))]), .inl (aG #[iW (fw0 121665), iW (fw1 121665), iW (fw2 121665), iW (fw3 121665)]), .inl (aG #[iW (fw0 (lE l)), iW (fw1 (lE l)), iW (fw2 (lE l)), iW (fw3 (lE l))]), .inr (oC #[iW (fw0 121665), iW (fw1 121665), iW (fw2 121665), iW (fw3 121665), iW (fw0 (lE l)), iW (fw1 (lE l)), iW (fw2 (lE l)), iW (fw3 (lE l))] 97, fun b => .slice (some ⟨b, 0, none⟩) 2 2), .inl (aG #[iW (fw0 (mN 121665 (lE l))), iW (fw1 (mN 121665 (lE l))), iW (fw2 (mN 121665 (lE l))), iW (fw3 (mN 121665 (lE l)))]), .inr (oC #[iW (fw0 (lAA l)), iW (fw1 (lAA l)), iW (fw2 (lAA l)), iW (fw3 (lAA l)), iW (fw0 (mN 121665 (lE l))), iW (fw1 (mN 121665 (lE l))), iW (fw2 (mN 121665 (lE l))), iW (fw3 (mN 121665 (lE l)))] 97, fun b => .slice (some ⟨b, 0, none⟩) 2 2), .inl (aG #[iW (fw0 (aN (lAA l) (mN 121665 (lE l)))), iW (fw1 (aN (lAA l) (mN 121665 (lE l)))), iW (fw2 (aN (lAA l) (mN 121665 (lE l)))), iW (fw3 (aN (lAA l) (mN 121665 (lE l))))]), .inr (oC #[iW (fw0 (lE l)), iW (fw1 (lE l)), iW (fw2 (lE l)), iW (fw3 (lE l)), iW (fw0 (aN (lAA l) (mN 121665 (lE l)))), iW (fw1 (aN (lAA l) (mN 121665 (lE l)))), iW (fw2 (aN (lAA l) (mN 121665 (lE l)))), iW (fw3 (aN (lAA l) (mN 121665 (lE l))))] 97, fun b => .slice (some ⟨b, 0, none⟩) 2 2), .inl (aG #[iW (fw0 (mN (lE l) (aN (lAA l) (mN 121665 (lE l))))), iW (fw1 (mN (lE l) (aN (lAA l) (mN 121665 (lE l))))), iW (fw2 (mN (lE l) (aN (lAA l) (mN 121665 (lE l))))), iW (fw3 (mN (lE l) (aN (lAA l) (mN 121665 (lE l)))))]), .inl (aG #[iW (fw0 (lS l)), iW (fw1 (lS l)), iW (fw2 (lS l)), iW (fw3 (lS l))]), .inl (aG #[iW (fw0 (lS l)), iW (fw1 (lS l)), iW (fw2 (lS l)), iW (fw3 (lS l))]), .inr (oC #[iW (fw0 (lS l)), iW (fw1 (lS l)), iW (fw2 (lS l)), iW (fw3 (lS l)), iW (fw0 (lS l)), iW (fw1 (lS l)), iW (fw2 (lS l)), iW (fw3 (lS l))] 97, fun b => .slice (some ⟨b, 0, none⟩) 2 2), .inl (aG #[iW (fw0 (mN (lS l) (lS l))), iW (fw1 (mN (lS l) (lS l))), iW (fw2 (mN (lS l) (lS l))), iW (fw3 (mN (lS l) (lS l)))]), .inl (aG #[iW (fw0 u), iW (fw1 u), iW (fw2 u), iW (fw3 u)]), .inl (aG #[iW (fw0 (lL l)), iW (fw1 (lL l)), iW (fw2 (lL l)), iW (fw3 (lL l))]), .inl (aG #[iW (fw0 (lL l)), iW (fw1 (lL l)), iW (fw2 (lL l)), iW (fw3 (lL l))]), .inr (oC #[iW (fw0 u), iW (fw1 u), iW (fw2 u), iW (fw3 u), iW (fw0 (lL l)), iW (fw1 (lL l)), iW (fw2 (lL l)), iW (fw3 (lL l)), iW (fw0 (lL l)), iW (fw1 (lL l)), iW (fw2 (lL l)), iW (fw3 (lL l))] 97, fun b => .slice (some ⟨b, 0, none⟩) 3 3), .inl (aG #[iW (fw0 (mN (mN u (lL l)) (lL l))), iW (fw1 (mN (mN u (lL l)) (lL l))), iW (fw2 (mN (mN u (lL l)) (lL l))), iW (fw3 (mN (mN u (lL l)) (lL l)))]), .inl (aG #[iW (fw0 (mN (lAA l) (lBB l))), iW (fw1 (mN (lAA l) (lBB l))), iW (fw2 (mN (lAA l) (lBB l))), iW (fw3 (mN (lAA l) (lBB l))), iW (fw0 (mN (lE l) (aN (lAA l) (mN 121665 (lE l))))), iW (fw1 (mN (lE l) (aN (lAA l) (mN 121665 (lE l))))), iW (fw2 (mN (lE l) (aN (lAA l) (mN 121665 (lE l))))), iW (fw3 (mN (lE l) (aN (lAA l) (mN 121665 (lE l))))), iW (fw0 (mN (lS l) (lS l))), iW (fw1 (mN (lS l) (lS l))), iW (fw2 (mN (lS l) (lS l))), iW (fw3 (mN (lS l) (lS l))), iW (fw0 (mN (mN u (lL l)) (lL l))), iW (fw1 (mN (mN u (lL l)) (lL l))), iW (fw2 (mN (mN u (lL l)) (lL l))), iW (fw3 (mN (mN u (lL l)) (lL l)))])] [] [b_ 5, b_ 6, o_, u_ 1 (aG #[iW (fw0 (mN (lAA l) (lBB l))), iW (fw1 (mN (lAA l) (lBB l))), iW (fw2 (mN (lAA l) (lBB l))), iW (fw3 (mN (lAA l) (lBB l)))]), b_ 4, b_ 5, t_ (aG #[iW (fw0 121665), iW (fw1 121665), iW (fw2 121665), iW (fw3 121665)]), b_ 4, o_, u_ 1 (aG #[iW (fw0 (mN 121665 (lE l))), iW (fw1 (mN 121665 (lE l))), iW (fw2 (mN 121665 (lE l))), iW (fw3 (mN 121665 (lE l)))]), o_, u_ 1 (aG #[iW (fw0 (aN (lAA l) (mN 121665 (lE l)))), iW (fw1 (aN (lAA l) (mN 121665 (lE l)))), iW (fw2 (aN (lAA l) (mN 121665 (lE l)))), iW (fw3 (aN (lAA l) (mN 121665 (lE l))))]), o_, u_ 1 (aG #[iW (fw0 (mN (lE l) (aN (lAA l) (mN 121665 (lE l))))), iW (fw1 (mN (lE l) (aN (lAA l) (mN 121665 (lE l))))), iW (fw2 (mN (lE l) (aN (lAA l) (mN 121665 (lE l))))), iW (fw3 (mN (lE l) (aN (lAA l) (mN 121665 (lE l)))))]), b_ 0, b_ 0, o_, u_ 1 (aG #[iW (fw0 (mN (lS l) (lS l))), iW (fw1 (mN (lS l) (lS l))), iW (fw2 (mN (lS l) (lS l))), iW (fw3 (mN (lS l) (lS l)))]), b_ 10, b_ 1, b_ 1, o_, u_ 1 (aG #[iW (fw0 (mN (mN u (lL l)) (lL l))), iW (fw1 (mN (mN u (lL l)) (lL l))), iW (fw2 (mN (mN u (lL l)) (lL l))), iW (fw3 (mN (mN u (lL l)) (lL l)))]), o_] [b_ 9] [13, 12, 11, 10, 9, 8, 7, 6, 5, 4, 2] (fun nb => [paa = paa, (#[iW (fw0 (lAA l)), iW (fw1 (lAA l)), iW (fw2 (lAA l)), iW (fw3 (lAA l))] : Array Value).size = 4, pbb = pbb, (#[iW (fw0 (lBB l)), iW (fw1 (lBB l)), iW (fw2 (lBB l)), iW (fw3 (lBB l))] : Array Value).size = 4, CallP Tryz.prog 51 [.slice (some ⟨(nb 2), 0, none⟩) 2 2] [((nb 2), oC #[iW (fw0 (lAA l)), iW (fw1 (lAA l)), iW (fw2 (lAA l)), iW (fw3 (lAA l)), iW (fw0 (lBB l)), iW (fw1 (lBB l)), iW (fw2 (lBB l)), iW (fw3 (lBB l))] 97), (ps, oC #[iW (fw0 (lS l)), iW (fw1 (lS l)), iW (fw2 (lS l)), iW (fw3 (lS l))] 97), (pl, oC #[iW (fw0 (lL l)), iW (fw1 (lL l)), iW (fw2 (lL l)), iW (fw3 (lL l))] 97), (pcb, oC #[iW (fw0 (lCB l)), iW (fw1 (lCB l)), iW (fw2 (lCB l)), iW (fw3 (lCB l))] 97), (pda, oC #[iW (fw0 (lDA l)), iW (fw1 (lDA l)), iW (fw2 (lDA l)), iW (fw3 (lDA l))] 97), (pe, oC #[iW (fw0 (lE l)), iW (fw1 (lE l)), iW (fw2 (lE l)), iW (fw3 (lE l))] 97), (paa, oC #[iW (fw0 (lAA l)), iW (fw1 (lAA l)), iW (fw2 (lAA l)), iW (fw3 (lAA l))] 97), (pbb, oC #[iW (fw0 (lBB l)), iW (fw1 (lBB l)), iW (fw2 (lBB l)), iW (fw3 (lBB l))] 97), (pa, oC #[iW (fw0 (lA l)), iW (fw1 (lA l)), iW (fw2 (lA l)), iW (fw3 (lA l))] 97), (pb, oC #[iW (fw0 (lB l)), iW (fw1 (lB l)), iW (fw2 (lB l)), iW (fw3 (lB l))] 97), (br, oC #[iW 0, iW 0, iW 0, iW 0, iW 0, iW 0, iW 0, iW 0, iW 0, iW 0, iW 0, iW 0, iW 0, iW 0, iW 0, iW 0] 101), (bu, oC #[iW (fw0 u), iW (fw1 u), iW (fw2 u), iW (fw3 u)] 97), (bl, oC #[iW (fw0 l.x2), iW (fw1 l.x2), iW (fw2 l.x2), iW (fw3 l.x2), iW (fw0 l.z2), iW (fw1 l.z2), iW (fw2 l.z2), iW (fw3 l.z2), iW (fw0 l.x3), iW (fw1 l.x3), iW (fw2 l.x3), iW (fw3 l.x3), iW (fw0 l.z3), iW (fw1 l.z3), iW (fw2 l.z3), iW (fw3 l.z3)] 101)] (aG #[iW (fw0 (mN (lAA l) (lBB l))), iW (fw1 (mN (lAA l) (lBB l))), iW (fw2 (mN (lAA l) (lBB l))), iW (fw3 (mN (lAA l) (lBB l)))]), pe = pe, (#[iW (fw0 (lE l)), iW (fw1 (lE l)), iW (fw2 (lE l)), iW (fw3 (lE l))] : Array Value).size = 4, paa = paa, (#[iW (fw0 (lAA l)), iW (fw1 (lAA l)), iW (fw2 (lAA l)), iW (fw3 (lAA l))] : Array Value).size = 4, CallP Tryz.prog 48 [iW 121665] [] (aG #[iW (fw0 121665), iW (fw1 121665), iW (fw2 121665), iW (fw3 121665)]), pe = pe, (#[iW (fw0 (lE l)), iW (fw1 (lE l)), iW (fw2 (lE l)), iW (fw3 (lE l))] : Array Value).size = 4, CallP Tryz.prog 51 [.slice (some ⟨(nb 8), 0, none⟩) 2 2] [((nb 8), oC #[iW (fw0 121665), iW (fw1 121665), iW (fw2 121665), iW (fw3 121665), iW (fw0 (lE l)), iW (fw1 (lE l)), iW (fw2 (lE l)), iW (fw3 (lE l))] 97), (ps, oC #[iW (fw0 (lS l)), iW (fw1 (lS l)), iW (fw2 (lS l)), iW (fw3 (lS l))] 97), (pl, oC #[iW (fw0 (lL l)), iW (fw1 (lL l)), iW (fw2 (lL l)), iW (fw3 (lL l))] 97), (pcb, oC #[iW (fw0 (lCB l)), iW (fw1 (lCB l)), iW (fw2 (lCB l)), iW (fw3 (lCB l))] 97), (pda, oC #[iW (fw0 (lDA l)), iW (fw1 (lDA l)), iW (fw2 (lDA l)), iW (fw3 (lDA l))] 97), (pe, oC #[iW (fw0 (lE l)), iW (fw1 (lE l)), iW (fw2 (lE l)), iW (fw3 (lE l))] 97), (paa, oC #[iW (fw0 (lAA l)), iW (fw1 (lAA l)), iW (fw2 (lAA l)), iW (fw3 (lAA l))] 97), (pbb, oC #[iW (fw0 (lBB l)), iW (fw1 (lBB l)), iW (fw2 (lBB l)), iW (fw3 (lBB l))] 97), (pa, oC #[iW (fw0 (lA l)), iW (fw1 (lA l)), iW (fw2 (lA l)), iW (fw3 (lA l))] 97), (pb, oC #[iW (fw0 (lB l)), iW (fw1 (lB l)), iW (fw2 (lB l)), iW (fw3 (lB l))] 97), (br, oC #[iW 0, iW 0, iW 0, iW 0, iW 0, iW 0, iW 0, iW 0, iW 0, iW 0, iW 0, iW 0, iW 0, iW 0, iW 0, iW 0] 101), (bu, oC #[iW (fw0 u), iW (fw1 u), iW (fw2 u), iW (fw3 u)] 97), (bl, oC #[iW (fw0 l.x2), iW (fw1 l.x2), iW (fw2 l.x2), iW (fw3 l.x2), iW (fw0 l.z2), iW (fw1 l.z2), iW (fw2 l.z2), iW (fw3 l.z2), iW (fw0 l.x3), iW (fw1 l.x3), iW (fw2 l.x3), iW (fw3 l.x3), iW (fw0 l.z3), iW (fw1 l.z3), iW (fw2 l.z3), iW (fw3 l.z3)] 101)] (aG #[iW (fw0 (mN 121665 (lE l))), iW (fw1 (mN 121665 (lE l))), iW (fw2 (mN 121665 (lE l))), iW (fw3 (mN 121665 (lE l)))]), CallP Tryz.prog 75 [.slice (some ⟨(nb 10), 0, none⟩) 2 2] [((nb 10), oC #[iW (fw0 (lAA l)), iW (fw1 (lAA l)), iW (fw2 (lAA l)), iW (fw3 (lAA l)), iW (fw0 (mN 121665 (lE l))), iW (fw1 (mN 121665 (lE l))), iW (fw2 (mN 121665 (lE l))), iW (fw3 (mN 121665 (lE l)))] 97), (ps, oC #[iW (fw0 (lS l)), iW (fw1 (lS l)), iW (fw2 (lS l)), iW (fw3 (lS l))] 97), (pl, oC #[iW (fw0 (lL l)), iW (fw1 (lL l)), iW (fw2 (lL l)), iW (fw3 (lL l))] 97), (pcb, oC #[iW (fw0 (lCB l)), iW (fw1 (lCB l)), iW (fw2 (lCB l)), iW (fw3 (lCB l))] 97), (pda, oC #[iW (fw0 (lDA l)), iW (fw1 (lDA l)), iW (fw2 (lDA l)), iW (fw3 (lDA l))] 97), (pe, oC #[iW (fw0 (lE l)), iW (fw1 (lE l)), iW (fw2 (lE l)), iW (fw3 (lE l))] 97), (paa, oC #[iW (fw0 (lAA l)), iW (fw1 (lAA l)), iW (fw2 (lAA l)), iW (fw3 (lAA l))] 97), (pbb, oC #[iW (fw0 (lBB l)), iW (fw1 (lBB l)), iW (fw2 (lBB l)), iW (fw3 (lBB l))] 97), (pa, oC #[iW (fw0 (lA l)), iW (fw1 (lA l)), iW (fw2 (lA l)), iW (fw3 (lA l))] 97), (pb, oC #[iW (fw0 (lB l)), iW (fw1 (lB l)), iW (fw2 (lB l)), iW (fw3 (lB l))] 97), (br, oC #[iW 0, iW 0, iW 0, iW 0, iW 0, iW 0, iW 0, iW 0, iW 0, iW 0, iW 0, iW 0, iW 0, iW 0, iW 0, iW 0] 101), (bu, oC #[iW (fw0 u), iW (fw1 u), iW (fw2 u), iW (fw3 u)] 97), (bl, oC #[iW (fw0 l.x2), iW (fw1 l.x2), iW (fw2 l.x2), iW (fw3 l.x2), iW (fw0 l.z2), iW (fw1 l.z2), iW (fw2 l.z2), iW (fw3 l.z2), iW (fw0 l.x3), iW (fw1 l.x3), iW (fw2 l.x3), iW (fw3 l.x3), iW (fw0 l.z3), iW (fw1 l.z3), iW (fw2 l.z3), iW (fw3 l.z3)] 101)] (aG #[iW (fw0 (aN (lAA l) (mN 121665 (lE l)))), iW (fw1 (aN (lAA l) (mN 121665 (lE l)))), iW (fw2 (aN (lAA l) (mN 121665 (lE l)))), iW (fw3 (aN (lAA l) (mN 121665 (lE l))))]), CallP Tryz.prog 51 [.slice (some ⟨(nb 12), 0, none⟩) 2 2] [((nb 12), oC #[iW (fw0 (lE l)), iW (fw1 (lE l)), iW (fw2 (lE l)), iW (fw3 (lE l)), iW (fw0 (aN (lAA l) (mN 121665 (lE l)))), iW (fw1 (aN (lAA l) (mN 121665 (lE l)))), iW (fw2 (aN (lAA l) (mN 121665 (lE l)))), iW (fw3 (aN (lAA l) (mN 121665 (lE l))))] 97), (ps, oC #[iW (fw0 (lS l)), iW (fw1 (lS l)), iW (fw2 (lS l)), iW (fw3 (lS l))] 97), (pl, oC #[iW (fw0 (lL l)), iW (fw1 (lL l)), iW (fw2 (lL l)), iW (fw3 (lL l))] 97), (pcb, oC #[iW (fw0 (lCB l)), iW (fw1 (lCB l)), iW (fw2 (lCB l)), iW (fw3 (lCB l))] 97), (pda, oC #[iW (fw0 (lDA l)), iW (fw1 (lDA l)), iW (fw2 (lDA l)), iW (fw3 (lDA l))] 97), (pe, oC #[iW (fw0 (lE l)), iW (fw1 (lE l)), iW (fw2 (lE l)), iW (fw3 (lE l))] 97), (paa, oC #[iW (fw0 (lAA l)), iW (fw1 (lAA l)), iW (fw2 (lAA l)), iW (fw3 (lAA l))] 97), (pbb, oC #[iW (fw0 (lBB l)), iW (fw1 (lBB l)), iW (fw2 (lBB l)), iW (fw3 (lBB l))] 97), (pa, oC #[iW (fw0 (lA l)), iW (fw1 (lA l)), iW (fw2 (lA l)), iW (fw3 (lA l))] 97), (pb, oC #[iW (fw0 (lB l)), iW (fw1 (lB l)), iW (fw2 (lB l)), iW (fw3 (lB l))] 97), (br, oC #[iW 0, iW 0, iW 0, iW 0, iW 0, iW 0, iW 0, iW 0, iW 0, iW 0, iW 0, iW 0, iW 0, iW 0, iW 0, iW 0] 101), (bu, oC #[iW (fw0 u), iW (fw1 u), iW (fw2 u), iW (fw3 u)] 97), (bl, oC #[iW (fw0 l.x2), iW (fw1 l.x2), iW (fw2 l.x2), iW (fw3 l.x2), iW (fw0 l.z2), iW (fw1 l.z2), iW (fw2 l.z2), iW (fw3 l.z2), iW (fw0 l.x3), iW (fw1 l.x3), iW (fw2 l.x3), iW (fw3 l.x3), iW (fw0 l.z3), iW (fw1 l.z3), iW (fw2 l.z3), iW (fw3 l.z3)] 101)] (aG #[iW (fw0 (mN (lE l) (aN (lAA l) (mN 121665 (lE l))))), iW (fw1 (mN (lE l) (aN (lAA l) (mN 121665 (lE l))))), iW (fw2 (mN (lE l) (aN (lAA l) (mN 121665 (lE l))))), iW (fw3 (mN (lE l) (aN (lAA l) (mN 121665 (lE l)))))]), ps = ps, (#[iW (fw0 (lS l)), iW (fw1 (lS l)), iW (fw2 (lS l)), iW (fw3 (lS l))] : Array Value).size = 4, ps = ps, (#[iW (fw0 (lS l)), iW (fw1 (lS l)), iW (fw2 (lS l)), iW (fw3 (lS l))] : Array Value).size = 4, CallP Tryz.prog 51 [.slice (some ⟨(nb 16), 0, none⟩) 2 2] [((nb 16), oC #[iW (fw0 (lS l)), iW (fw1 (lS l)), iW (fw2 (lS l)), iW (fw3 (lS l)), iW (fw0 (lS l)), iW (fw1 (lS l)), iW (fw2 (lS l)), iW (fw3 (lS l))] 97), (ps, oC #[iW (fw0 (lS l)), iW (fw1 (lS l)), iW (fw2 (lS l)), iW (fw3 (lS l))] 97), (pl, oC #[iW (fw0 (lL l)), iW (fw1 (lL l)), iW (fw2 (lL l)), iW (fw3 (lL l))] 97), (pcb, oC #[iW (fw0 (lCB l)), iW (fw1 (lCB l)), iW (fw2 (lCB l)), iW (fw3 (lCB l))] 97), (pda, oC #[iW (fw0 (lDA l)), iW (fw1 (lDA l)), iW (fw2 (lDA l)), iW (fw3 (lDA l))] 97), (pe, oC #[iW (fw0 (lE l)), iW (fw1 (lE l)), iW (fw2 (lE l)), iW (fw3 (lE l))] 97), (paa, oC #[iW (fw0 (lAA l)), iW (fw1 (lAA l)), iW (fw2 (lAA l)), iW (fw3 (lAA l))] 97), (pbb, oC #[iW (fw0 (lBB l)), iW (fw1 (lBB l)), iW (fw2 (lBB l)), iW (fw3 (lBB l))] 97), (pa, oC #[iW (fw0 (lA l)), iW (fw1 (lA l)), iW (fw2 (lA l)), iW (fw3 (lA l))] 97), (pb, oC #[iW (fw0 (lB l)), iW (fw1 (lB l)), iW (fw2 (lB l)), iW (fw3 (lB l))] 97), (br, oC #[iW 0, iW 0, iW 0, iW 0, iW 0, iW 0, iW 0, iW 0, iW 0, iW 0, iW 0, iW 0, iW 0, iW 0, iW 0, iW 0] 101), (bu, oC #[iW (fw0 u), iW (fw1 u), iW (fw2 u), iW (fw3 u)] 97), (bl, oC #[iW (fw0 l.x2), iW (fw1 l.x2), iW (fw2 l.x2), iW (fw3 l.x2), iW (fw0 l.z2), iW (fw1 l.z2), iW (fw2 l.z2), iW (fw3 l.z2), iW (fw0 l.x3), iW (fw1 l.x3), iW (fw2 l.x3), iW (fw3 l.x3), iW (fw0 l.z3), iW (fw1 l.z3), iW (fw2 l.z3), iW (fw3 l.z3)] 101)] (aG #[iW (fw0 (mN (lS l) (lS l))), iW (fw1 (mN (lS l) (lS l))), iW (fw2 (mN (lS l) (lS l))), iW (fw3 (mN (lS l) (lS l)))]), bu = bu, (#[iW (fw0 u), iW (fw1 u), iW (fw2 u), iW (fw3 u)] : Array Value).size = 4, pl = pl, (#[iW (fw0 (lL l)), iW (fw1 (lL l)), iW (fw2 (lL l)), iW (fw3 (lL l))] : Array Value).size = 4, pl = pl, (#[iW (fw0 (lL l)), iW (fw1 (lL l)), iW (fw2 (lL l)), iW (fw3 (lL l))] : Array Value).size = 4, CallP Tryz.prog 51 [.slice (some ⟨(nb 21), 0, none⟩) 3 3] [((nb 21), oC #[iW (fw0 u), iW (fw1 u), iW (fw2 u), iW (fw3 u), iW (fw0 (lL l)), iW (fw1 (lL l)), iW (fw2 (lL l)), iW (fw3 (lL l)), iW (fw0 (lL l)), iW (fw1 (lL l)), iW (fw2 (lL l)), iW (fw3 (lL l))] 97), (ps, oC #[iW (fw0 (lS l)), iW (fw1 (lS l)), iW (fw2 (lS l)), iW (fw3 (lS l))] 97), (pl, oC #[iW (fw0 (lL l)), iW (fw1 (lL l)), iW (fw2 (lL l)), iW (fw3 (lL l))] 97), (pcb, oC #[iW (fw0 (lCB l)), iW (fw1 (lCB l)), iW (fw2 (lCB l)), iW (fw3 (lCB l))] 97), (pda, oC #[iW (fw0 (lDA l)), iW (fw1 (lDA l)), iW (fw2 (lDA l)), iW (fw3 (lDA l))] 97), (pe, oC #[iW (fw0 (lE l)), iW (fw1 (lE l)), iW (fw2 (lE l)), iW (fw3 (lE l))] 97), (paa, oC #[iW (fw0 (lAA l)), iW (fw1 (lAA l)), iW (fw2 (lAA l)), iW (fw3 (lAA l))] 97), (pbb, oC #[iW (fw0 (lBB l)), iW (fw1 (lBB l)), iW (fw2 (lBB l)), iW (fw3 (lBB l))] 97), (pa, oC #[iW (fw0 (lA l)), iW (fw1 (lA l)), iW (fw2 (lA l)), iW (fw3 (lA l))] 97), (pb, oC #[iW (fw0 (lB l)), iW (fw1 (lB l)), iW (fw2 (lB l)), iW (fw3 (lB l))] 97), (br, oC #[iW 0, iW 0, iW 0, iW 0, iW 0, iW 0, iW 0, iW 0, iW 0, iW 0, iW 0, iW 0, iW 0, iW 0, iW 0, iW 0] 101), (bu, oC #[iW (fw0 u), iW (fw1 u), iW (fw2 u), iW (fw3 u)] 97), (bl, oC #[iW (fw0 l.x2), iW (fw1 l.x2), iW (fw2 l.x2), iW (fw3 l.x2), iW (fw0 l.z2), iW (fw1 l.z2), iW (fw2 l.z2), iW (fw3 l.z2), iW (fw0 l.x3), iW (fw1 l.x3), iW (fw2 l.x3), iW (fw3 l.x3), iW (fw0 l.z3), iW (fw1 l.z3), iW (fw2 l.z3), iW (fw3 l.z3)] 101)] (aG #[iW (fw0 (mN (mN u (lL l)) (lL l))), iW (fw1 (mN (mN u (lL l)) (lL l))), iW (fw2 (mN (mN u (lL l)) (lL l))), iW (fw3 (mN (mN u (lL l)) (lL l)))])]) (fun nb Kt => br = br ∧ (#[iW 0, iW 0, iW 0, iW 0, iW 0, iW 0, iW 0, iW 0, iW 0, iW 0, iW 0, iW 0, iW 0, iW 0, iW 0, iW 0] : Array Value).size = 16 ∧ (#[iW (fw0 (mN (lAA l) (lBB l))), iW (fw1 (mN (lAA l) (lBB l))), iW (fw2 (mN (lAA l) (lBB l))), iW (fw3 (mN (lAA l) (lBB l))), iW (fw0 (mN (lE l) (aN (lAA l) (mN 121665 (lE l))))), iW (fw1 (mN (lE l) (aN (lAA l) (mN 121665 (lE l))))), iW (fw2 (mN (lE l) (aN (lAA l) (mN 121665 (lE l))))), iW (fw3 (mN (lE l) (aN (lAA l) (mN 121665 (lE l))))), iW (fw0 (mN (lS l) (lS l))), iW (fw1 (mN (lS l) (lS l))), iW (fw2 (mN (lS l) (lS l))), iW (fw3 (mN (lS l) (lS l))), iW (fw0 (mN (mN u (lL l)) (lL l))), iW (fw1 (mN (mN u (lL l)) (lL l))), iW (fw2 (mN (mN u (lL l)) (lL l))), iW (fw3 (mN (mN u (lL l)) (lL l)))] : Array Value).size = 16 ∧ (#[iW (fw0 (mN (lAA l) (lBB l))), iW (fw1 (mN (lAA l) (lBB l))), iW (fw2 (mN (lAA l) (lBB l))), iW (fw3 (mN (lAA l) (lBB l))), iW (fw0 (mN (lE l) (aN (lAA l) (mN 121665 (lE l))))), iW (fw1 (mN (lE l) (aN (lAA l) (mN 121665 (lE l))))), iW (fw2 (mN (lE l) (aN (lAA l) (mN 121665 (lE l))))), iW (fw3 (mN (lE l) (aN (lAA l) (mN 121665 (lE l))))), iW (fw0 (mN (lS l) (lS l))), iW (fw1 (mN (lS l) (lS l))), iW (fw2 (mN (lS l) (lS l))), iW (fw3 (mN (lS l) (lS l))), iW (fw0 (mN (mN u (lL l)) (lL l))), iW (fw1 (mN (mN u (lL l)) (lL l))), iW (fw2 (mN (mN u (lL l)) (lL l))), iW (fw3 (mN (mN u (lL l)) (lL l)))] : Array Value).all (·.oneCell') = true ∧ (0, 0).2 = 0 ∧ Kt [(13, pT pl), (12, pT ps), (11, pT pcb), (10, pT pda), (9, pT pe), (8, pT pbb), (7, pT paa), (6, pT pb), (5, pT pa), (4, pT br), (2, pT bl)] [(ps, oC #[iW (fw0 (lS l)), iW (fw1 (lS l)), iW (fw2 (lS l)), iW (fw3 (lS l))] 97), (pl, oC #[iW (fw0 (lL l)), iW (fw1 (lL l)), iW (fw2 (lL l)), iW (fw3 (lL l))] 97), (pcb, oC #[iW (fw0 (lCB l)), iW (fw1 (lCB l)), iW (fw2 (lCB l)), iW (fw3 (lCB l))] 97), (pda, oC #[iW (fw0 (lDA l)), iW (fw1 (lDA l)), iW (fw2 (lDA l)), iW (fw3 (lDA l))] 97), (pe, oC #[iW (fw0 (lE l)), iW (fw1 (lE l)), iW (fw2 (lE l)), iW (fw3 (lE l))] 97), (paa, oC #[iW (fw0 (lAA l)), iW (fw1 (lAA l)), iW (fw2 (lAA l)), iW (fw3 (lAA l))] 97), (pbb, oC #[iW (fw0 (lBB l)), iW (fw1 (lBB l)), iW (fw2 (lBB l)), iW (fw3 (lBB l))] 97), (pa, oC #[iW (fw0 (lA l)), iW (fw1 (lA l)), iW (fw2 (lA l)), iW (fw3 (lA l))] 97), (pb, oC #[iW (fw0 (lB l)), iW (fw1 (lB l)), iW (fw2 (lB l)), iW (fw3 (lB l))] 97), (br, oC #[iW (fw0 (mN (lAA l) (lBB l))), iW (fw1 (mN (lAA l) (lBB l))), iW (fw2 (mN (lAA l) (lBB l))), iW (fw3 (mN (lAA l) (lBB l))), iW (fw0 (mN (lE l) (aN (lAA l) (mN 121665 (lE l))))), iW (fw1 (mN (lE l) (aN (lAA l) (mN 121665 (lE l))))), iW (fw2 (mN (lE l) (aN (lAA l) (mN 121665 (lE l))))), iW (fw3 (mN (lE l) (aN (lAA l) (mN 121665 (lE l))))), iW (fw0 (mN (lS l) (lS l))), iW (fw1 (mN (lS l) (lS l))), iW (fw2 (mN (lS l) (lS l))), iW (fw3 (mN (lS l) (lS l))), iW (fw0 (mN (mN u (lL l)) (lL l))), iW (fw1 (mN (mN u (lL l)) (lL l))), iW (fw2 (mN (mN u (lL l)) (lL l))), iW (fw3 (mN (mN u (lL l)) (lL l)))] 101), (bu, oC #[iW (fw0 u), iW (fw1 u), iW (fw2 u), iW (fw3 u)] 97), (bl, oC #[iW (fw0 l.x2), iW (fw1 l.x2), iW (fw2 l.x2), iW (fw3 l.x2), iW (fw0 l.z2), iW (fw1 l.z2), iW (fw2 l.z2), iW (fw3 l.z2), iW (fw0 l.x3), iW (fw1 l.x3), iW (fw2 l.x3), iW (fw3 l.x3), iW (fw0 l.z3), iW (fw1 l.z3), iW (fw2 l.z3), iW (fw3 l.z3)] 101)]) (by kernel_rfl) (by kernel_rfl) (by kernel_rfl) (fun _ => by kernel_rfl) (fun _ _ => by kernel_rfl) trivial (fun nb => ⟨rfl, rfl, rfl, rfl, ⟨en_fMul, fun w Hw => fmul2 (lAA l) (lBB l) (mN (lAA l) (lBB l)) (nb 2) _ (mN_lt _ _) (mN_lt _ _) rfl w (Hw 0 _ rfl)⟩, rfl, rfl, rfl, rfl, (callP_of en_fNum (fNum_any 121665 (by decide)) _), rfl, rfl, ⟨en_fMul, fun w Hw => fmul2 121665 (lE l) (mN 121665 (lE l)) (nb 8) _ (by decide) (sN_lt _ _) rfl w (Hw 0 _ rfl)⟩, ⟨en_fAdd, fun w Hw => fadd2 (lAA l) (mN 121665 (lE l)) (aN (lAA l) (mN 121665 (lE l))) (nb 10) _ (mN_lt _ _) (mN_lt _ _) rfl w (Hw 0 _ rfl)⟩, ⟨en_fMul, fun w Hw => fmul2 (lE l) (aN (lAA l) (mN 121665 (lE l))) (mN (lE l) (aN (lAA l) (mN 121665 (lE l)))) (nb 12) _ (sN_lt _ _) (aN_lt _ _) rfl w (Hw 0 _ rfl)⟩, rfl, rfl, rfl, rfl, ⟨en_fMul, fun w Hw => fmul2 (lS l) (lS l) (mN (lS l) (lS l)) (nb 16) _ (aN_lt _ _) (aN_lt _ _) rfl w (Hw 0 _ rfl)⟩, rfl, rfl, rfl, rfl, rfl, rfl, ⟨en_fMul, fun w Hw => fmul3 u (lL l) (lL l) (mN (mN u (lL l)) (lL l)) (nb 21) _ hu (sN_lt _ _) (sN_lt _ _) rfl w (Hw 0 _ rfl)⟩, trivial⟩) (fun nb => ⟨rfl, rfl, rfl, (by kernel_rfl), rfl, fun _ _ FF8 MM8 => then_n ?_⟩))
  refine wp_ret ?_
  repeat first | refine then_ret ?_ | refine inb_ret ?_
  exact (retc FF8 MM8 (k := 16) (i := 9) (j := 9) Tryz.results50 rfl rfl Tryz.underlying101 rfl (by kernel_rfl) rfl ⟨rfl, MM8.below⟩)
end Go.Proofs.YtdjpacgjhcidpabGreatDoor
namespace Go.Proofs.YtdjpacgjhcidpabGreatDoor
open Go.RowKit
section
variable {P : Program} {ops : Array Oper} {rest : List Oper} {op o : Oper} {a : Act} {w0 w w' : World} {Q : Exit → Act → World → Prop} {n m : Nat} {l : Slots} {L O : Blks} {S : Nat → Prop} {R : List Row}
/-- These blocks hold what is told; no other one has turned. -/
structure TurnB (N : Blks) (w w' : World) : Prop where
  os : w'.os = w.os
  tape : w'.tape = w.tape
  output : w'.output = w.output
  size : w.heap.size ≤ w'.heap.size
  block : ∀ k, k < w.heap.size → (∀ x ∈ N, x.1 ≠ k) → w'.heap[k]? = w.heap[k]?
  now : ∀ x ∈ N, w'.heap[x.1]? = some x.2
/-- Of the blocks that came in those in N may have turned, the others are in the list as they were. -/
theorem MemS.turnB {L0 : Blks} (N : Blks) (M : MemS (fun k => k < w0.heap.size ∧ ∀ x ∈ L0, x.1 ≠ k) w0 w L R) (H : Has w0 L0) (hN : ∀ x ∈ N, x ∈ L) (hO : ∀ x ∈ L0, x ∈ L ∨ ∃ y ∈ N, y.1 = x.1) : TurnB N w0 w := by
  refine ⟨M.os, M.tape, M.output, M.size, fun k hk hne => ?_, fun x hx => Has.mem M.hasL (hN x hx)⟩
  by_cases h : ∃ x ∈ L0, x.1 = k
  · obtain ⟨x, hx, rfl⟩ := h
    rcases hO x hx with h1 | ⟨y, hy, e⟩
    · rw [Has.mem M.hasL h1, Has.mem H hx]
    · exact (hne y hy e).elim
  · exact M.block k ⟨hk, fun x hx e => h ⟨x, hx, e⟩⟩
theorem TurnB.of_below {N : Blks} (h : Below w.heap.size w w') (hN : Has w N) : TurnB N w w' := ⟨h.os, h.tape, h.output, h.size, fun k hk _ => h.block k hk, fun x hx => by
  have := Has.mem hN hx
  exact (h.block x.1 (lt_of_block this)).trans this⟩
theorem TurnB.below (h : TurnB [] w w') : Below w.heap.size w w' := ⟨h.os, h.tape, h.output, h.size, fun k hk => h.block k hk fun _ hx => (nomatch hx)⟩
theorem turnB_post {N : Blks} {us : List (Nat × Obj)} {v : Nat → Value} (t : TurnB N w w') (h1 : ∀ u ∈ us, ∀ y, L[u.1]? = some y → (y.1, u.2) ∈ N) (h2 : ∀ x ∈ N, ∃ u ∈ us, ∃ y, L[u.1]? = some y ∧ y.1 = x.1) : Post w w' L ⟨v, none, us⟩ 0 :=
  ⟨t.os, t.tape, t.output, t.size, fun k hk hn => t.block k hk fun x hx e => by
    obtain ⟨u, hu, y, hy, e'⟩ := h2 x hx
    exact hn u hu y hy (e'.trans e), fun _ h => (nomatch h), fun _ => rfl, fun u hu y hy => t.now _ (h1 u hu y hy)⟩
def nowAt (L : Blks) : List (Nat × Obj) → Option Blks
  | [] => some []
  | u :: r => match L[u.1]?, nowAt L r with | some y, some N => some ((y.1, u.2) :: N) | _, _ => none
theorem nowAt_1 : ∀ {us : List (Nat × Obj)} {N : Blks}, nowAt L us = some N → ∀ u ∈ us, ∀ y, L[u.1]? = some y → (y.1, u.2) ∈ N
  | [], _, _, _, hu, _, _ => (nomatch hu)
  | v :: r, N, h, u, hu, y, hy => by
    unfold nowAt at h
    split at h
    · rename_i z N' hz hN'
      obtain rfl := Option.some.inj h
      rcases List.mem_cons.1 hu with rfl | hu
      · rw [hz] at hy
        obtain rfl := Option.some.inj hy
        exact List.mem_cons_self ..
      · exact List.mem_cons_of_mem _ (nowAt_1 hN' u hu y hy)
    · cases h
theorem nowAt_2 : ∀ {us : List (Nat × Obj)} {N : Blks}, nowAt L us = some N → ∀ x ∈ N, ∃ u ∈ us, ∃ y, L[u.1]? = some y ∧ y.1 = x.1
  | [], N, h, x, hx => by
    obtain rfl := Option.some.inj h
    exact (nomatch hx)
  | v :: r, N, h, x, hx => by
    unfold nowAt at h
    split at h
    · rename_i z N' hz hN'
      obtain rfl := Option.some.inj h
      rcases List.mem_cons.1 hx with rfl | hx
      · exact ⟨v, List.mem_cons_self .., z, hz, rfl⟩
      · obtain ⟨u, hu, q⟩ := nowAt_2 hN' x hx
        exact ⟨u, List.mem_cons_of_mem _ hu, q⟩
    · cases h
/-- Blocks of the list, by their places. -/
def atL (L : Blks) : List Nat → Option Blks
  | [] => some []
  | i :: r => match L[i]?, atL L r with | some y, some N => some (y :: N) | _, _ => none
theorem atL_has : ∀ {is : List Nat} {K : Blks}, atL L is = some K → Has w L → Has w K
  | [], K, h, _ => by
    obtain rfl := Option.some.inj h
    exact fun i x hx => by simp at hx
  | i :: r, K, h, H => by
    unfold atL at h
    split at h
    · rename_i y N hy hN
      obtain rfl := Option.some.inj h
      intro j x hx
      cases j with
      | zero => simp at hx; subst hx; exact H i _ hy
      | succ j => exact atL_has hN H j x (by simpa using hx)
    · cases h
/-- A call that turns several blocks, wherever they stand. -/
theorem callU_B {f : FuncId} {args : List Value} {v : Value} {us : List (Nat × Obj)} (is : List Nat) {K N : Blks} (hE : Enters P f) (hK : atL L is = some K) (hN : nowAt L us = some N) (h : ∀ w, Has w K → Calls P f args.toArray w fun e w' => e = .returned v ∧ TurnB N w w') : CallU P f args L v us :=
  ⟨hE, fun w H => (h w (atL_has hK H)).mono fun _ _ ⟨h1, t⟩ => ⟨h1, turnB_post t (nowAt_1 hN) (nowAt_2 hN)⟩⟩
/-- .. that turns none. -/
theorem callP_B {f : FuncId} {args : List Value} {v : Value} (is : List Nat) {K : Blks} (hE : Enters P f) (hK : atL L is = some K) (h : ∀ w, Has w K → Calls P f args.toArray w fun e w' => e = .returned v ∧ TurnB [] w w') : CallP P f args L v :=
  ⟨hE, fun w H => (h w (atL_has hK H)).mono fun _ _ ⟨h1, t⟩ => ⟨h1, t.below⟩⟩
theorem MemS.distinct (M : MemS S w0 w L R) : Distinct L := by
  have : ∀ L : Blks, (∀ (i j : Nat) (x y : Nat × Obj), L[i]? = some x → L[j]? = some y → i ≠ j → x.1 ≠ y.1) → Distinct L := fun L => by
    induction L with
    | nil => exact fun _ => trivial
    | cons x r ih =>
      refine fun h => ⟨fun y hy => ?_, ih fun i j a b ha hb hij => h (i + 1) (j + 1) a b (by simpa using ha) (by simpa using hb) (by omega)⟩
      obtain ⟨i, hi⟩ := List.mem_iff_getElem?.1 hy
      exact h (i + 1) 0 y x (by simpa using hi) rfl (by omega)
  exact this L M.apart
theorem atL_mem : ∀ {is : List Nat} {K : Blks}, atL L is = some K → ∀ y ∈ K, ∃ i ∈ is, L[i]? = some y
  | [], K, h, y, hy => by
    obtain rfl := Option.some.inj h
    exact (nomatch hy)
  | i :: r, K, h, y, hy => by
    unfold atL at h
    split at h
    · rename_i z N hz hN
      obtain rfl := Option.some.inj h
      rcases List.mem_cons.1 hy with rfl | hy
      · exact ⟨i, List.mem_cons_self .., hz⟩
      · obtain ⟨j, hj, q⟩ := atL_mem hN y hy
        exact ⟨j, List.mem_cons_of_mem _ hj, q⟩
    · cases h
def apartB : List Nat → Bool
  | [] => true
  | i :: r => (r.all fun j => !(Nat.beq i j)) && apartB r
theorem distinct_at (hd : Distinct L) : ∀ {is : List Nat} {K : Blks}, apartB is = true → atL L is = some K → Distinct K
  | [], K, _, h => by
    obtain rfl := Option.some.inj h
    trivial
  | i :: r, K, hn, h => by
    rw [apartB, Bool.and_eq_true, List.all_eq_true] at hn
    unfold atL at h
    split at h
    · rename_i z N hz hN
      obtain rfl := Option.some.inj h
      refine ⟨fun y hy => ?_, distinct_at hd hn.2 hN⟩
      obtain ⟨j, hj, q⟩ := atL_mem hN y hy
      refine hd.get j i y z q hz fun e => ?_
      subst e
      simpa using hn.1 j hj
    · cases h
theorem distinct_names : ∀ {K K' : Blks}, K.map (·.1) = K'.map (·.1) → Distinct K → Distinct K'
  | [], [], _, _ => trivial
  | [], _ :: _, h, _ => by cases h
  | _ :: _, [], h, _ => by cases h
  | x :: r, y :: s, h, ⟨h1, h2⟩ => by
    simp only [List.map_cons, List.cons.injEq] at h
    refine ⟨fun z hz => ?_, distinct_names h.2 h2⟩
    have hm : z.1 ∈ r.map (·.1) := h.2 ▸ List.mem_map_of_mem hz
    obtain ⟨u, hu, e⟩ := List.mem_map.1 hm
    rw [← h.1, ← e]
    exact h1 u hu
/-- Blocks that a call has made. -/
theorem MemS.addAll (M : MemS S w0 w L R) (hB : Below w.heap.size w w') : ∀ {K : Blks}, Has w' K → Distinct K → (∀ x ∈ K, w.heap.size ≤ x.1) → MemS S w0 w' (K ++ L) R
  | [], _, _, _ => M.keep hB
  | x :: r, H, hd, hf => by
    have M' := MemS.addAll M hB (K := r) (Has.tl H) hd.2 fun y hy => hf y (List.mem_cons_of_mem _ hy)
    have h0 := hf x (List.mem_cons_self ..)
    refine M'.addBlk (H 0 x rfl) (fun y hy => ?_) (fun hs => ?_) (fun q hq g hg => ?_)
    · rcases List.mem_append.1 hy with h | h
      · exact hd.1 y h
      · have := lt_of_block (Has.mem M.hasL h)
        omega
    · have := M.old _ hs
      have := M.size
      omega
    · have := (ownsRow_lt (M.rows q hq) hg).2
      omega
/-- What a row was while it lies among the blocks. -/
def Froz (base : Nat) (O' O : Blks) (v : Value) (e : TypeId) (k n : Nat) (X : List Value) : Prop :=
  (v = .slice none 0 0 ∧ n = 0 ∧ X = [] ∧ O' = O) ∨ ∃ (g cap : Nat) (cur : Array Value), v = .slice (some ⟨g, 0, none⟩) n cap ∧ base ≤ g ∧ n ≤ cap ∧ cap ≤ maxLen ∧ cur.size = cap * k ∧ cur.toList.take (n * k) = X ∧ X.length = n * k ∧ O' = (g, .cells cur e) :: O
theorem Froz.mono {base k n : Nat} {O' : Blks} {v : Value} {e : TypeId} {X : List Value} (h : Froz base O' O v e k n X) : ∀ x ∈ O, x ∈ O' := by
  rcases h with ⟨_, _, _, rfl⟩ | ⟨g, cap, cur, _, _, _, _, _, _, _, rfl⟩
  · exact fun _ h => h
  · exact fun _ h => List.mem_cons_of_mem _ h
end
section
variable {P : Program} {ops : Array Oper} {oi : Oper} {a : Act} {w0 w w' : World} {Q : Exit → Act → World → Prop} {n : Nat} {l : Slots} {L : Blks} {S : Nat → Prop} {R : List Row} {T : List Nat} {Z : World → Prop}
def wpLate (P : Program) (ops : Array Oper) (Q : Exit → Act → World → Prop) (Z : World → Prop) (T : List Nat) : Nat → Array Bool → Act → World → Prop
  | 0, listed, a, w => Region.ready .any ops listed = [] ∧ Q .normal a w
  | fuel + 1, listed, a, w => (Region.ready .any ops listed = [] → Q .normal a w) ∧
    ∀ i ∈ Region.ready .any ops listed, wpOp P ops Q i (fun a' w' => (i ∉ T → Z w') ∧ wpLate P ops Q Z T fuel (listed.setIfInBounds i true) a' w') a w
theorem wpAny_late : ∀ (fuel : Nat) (listed : Array Bool) (a : Act) (w : World), wpLate P ops Q Z T fuel listed a w → wpAny P .any ops Q fuel listed a w
  | 0, _, _, _, h => h
  | fuel + 1, _, _, _, h => ⟨h.1, fun i hi => wpOp_mono (fun a' w' h' => wpAny_late fuel _ a' w' h'.2) (h.2 i hi)⟩
/-- Each late operation waits for that one. -/
def waitsB (ops : Array Oper) (i : Nat) : List Nat → Bool
  | [] => true
  | j :: r => (match ops[j]? with | some o => o.after.any fun e => Region.binds .any e && Nat.beq e.on i | none => true) && waitsB ops i r
theorem waits_of {i : Nat} : ∀ {T : List Nat}, waitsB ops i T = true → ∀ j ∈ T, ∀ o, ops[j]? = some o → ∃ e ∈ o.after, Region.binds .any e = true ∧ e.on = i
  | [], _, _, hj, _, _ => (nomatch hj)
  | k :: r, h, j, hj, o, ho => by
    rw [waitsB, Bool.and_eq_true] at h
    rcases List.mem_cons.1 hj with rfl | hj
    · have h1 := h.1
      rw [ho] at h1
      obtain ⟨e, he, hb⟩ := Array.any_eq_true'.1 h1
      rw [Bool.and_eq_true] at hb
      exact ⟨e, he, hb.1, Nat.eq_of_beq_eq_true hb.2⟩
    · exact waits_of h.2 j hj o ho
theorem wpLate_first {i : Nat} {v : Value} (hi : ops[i]? = some oi) (hsel : ∀ (j : Nat) (o : Oper) cs b, ops[j]? = some o → o.op ≠ .select cs b) (hT : waitsB ops i T = true)
    (hQ : ∀ c a w, Q (.panic c) (a.put oi.dst v) w → Q (.panic c) a w) : ∀ (fuel : Nat) (listed : Array Bool) (a : Act) (w : World),
      (∀ j oj, ops[j]? = some oj → j ≠ i → listed.getD j true = false → (∀ e ∈ oj.after, Region.binds .any e = true → e.on ≠ i) → oi.apart ops oj = true) →
      i ∈ Region.ready .any ops listed → YieldsIf P ops Z oi v a → Z w → wpLate P ops Q Z T fuel (listed.setIfInBounds i true) (a.put oi.dst v) w → wpLate P ops Q Z T (fuel + 1) listed a w := by
  intro fuel
  induction fuel with
  | zero =>
    intro listed a w _ hr hy hZ H
    refine ⟨fun h => (by rw [h] at hr; cases hr), fun j hj => ?_⟩
    by_cases e : j = i
    · subst e
      exact hy.wpOp hi hZ ⟨fun _ => hZ, H⟩
    · have q := ready_mono hj e
      rw [H.1] at q
      cases q
  | succ fuel ih =>
    intro listed a w hfree hr hy hZ H
    refine ⟨fun h => (by rw [h] at hr; cases hr), fun j hj => ?_⟩
    by_cases e : j = i
    · subst e
      exact hy.wpOp hi hZ ⟨fun _ => hZ, H⟩
    · obtain ⟨hu, oj, hoj, hall⟩ := mem_ready.1 hj
      have hno : ∀ x ∈ oj.after, Region.binds .any x = true → x.on ≠ i := fun x hx hb q => by
        have h1 := hall x hx hb
        have h0 := (mem_ready.1 hr).1
        rw [q] at h1
        rcases Nat.lt_or_ge i listed.size with h' | h'
        · simp [h'] at h0 h1
          rw [h0] at h1
          cases h1
        · simp [Array.getElem?_eq_none h'] at h1
      have hjT : j ∉ T := fun q => by
        obtain ⟨x, hx, hb, q'⟩ := waits_of hT j q oj hoj
        exact hno x hx hb q'
      have h2 := wpOp_putIf hoj (hfree j oj hoj e hu hno) (fun cs b => hsel i oi cs b hi) (fun cs b => hsel j oj cs b hoj) hQ hy (H.2 j (ready_mono hj e))
      refine wpOp_mono (fun a' w' h3 => ⟨fun _ => h3.2.1 hjT, ih (listed.setIfInBounds j true) a' w' (fun k ok hk hki hun hn => hfree k ok hk hki ?_ hn) (ready_mono hr (Ne.symm e)) h3.1 (h3.2.1 hjT) ?_⟩) h2
      · by_cases q : j = k
        · subst q; exact hu
        · rw [getD_set_ne true q] at hun; exact hun
      · rw [Array.setIfInBounds_comm _ _ e]
        exact h3.2.2
/-- .. with what stands throughout alone. -/
theorem late_stand {id N : Nat} (K : Blks) (hm : P.follows .mixedOrders = true) (hN : ops.size = N) (M : MemS S w0 w L R) (H : ∀ w', MemS S w0 w' L R → wpLate P ops Q (fun w => Has w K) [] N (Array.replicate N false) a w') : (Code.region id ops true).wp P Q a w := by
  refine wp_region_any hm (wpAny_late (Z := fun w => Has w K) (T := []) _ _ _ _ ?_)
  rw [hN]
  exact H _ (M.keep (w' := { w with drawn := w.drawn + 1 }) ⟨rfl, rfl, rfl, Nat.le_refl _, fun _ _ => rfl⟩)
theorem late_take (F : Fr n a l) {i : Nat} {v : Value} {d fuel : Nat} {listed : Array Bool} (H : Has w L) (hi : ops[i]? = some oi) (hs : Region.noSelect ops = true) (hT : waitsB ops i T = true) (hf : Region.free .any ops listed i = true) (hr : (Region.ready .any ops listed).contains i = true)
    (hQ : ∀ c a (d : Nat) v w, Q (.panic c) (a.put (some d) v) w → Q (.panic c) a w) (hd : oi.dst = some d) (hn : d < n) (hg : wantOf ops.toList l oi = some true) (hrun : RunV P l L oi v)
    (K : ∀ a', Fr n a' (upd d v l) → wpLate P ops Q (fun w => Has w L) T fuel (listed.setIfInBounds i true) a' w) : wpLate P ops Q (fun w => Has w L) T (fuel + 1) listed a w := by
  refine wpLate_first hi (Region.noSelect_spec hs) hT (fun c a w h => by rw [hd] at h; exact hQ c a d v w h) fuel listed a w (Region.free_spec hi hf) (by simpa using hr) (.inl ⟨wanted_iff hg F.lk, fun w hw => hrun a.eval w F.agr hw⟩) H ?_
  rw [hd]
  exact K _ (F.put _ hn)
theorem late_one {i fuel : Nat} {listed : Array Bool} (hr : Region.ready .any ops listed = [i]) (hi : ops[i]? = some oi) (h : wpList P ops (onN (fun a' w' => (i ∉ T → Z w') ∧ wpLate P ops Q Z T fuel (listed.setIfInBounds i true) a' w') Q) [oi] a w) : wpLate P ops Q Z T (fuel + 1) listed a w :=
  ⟨fun h0 => (by rw [hr] at h0; cases h0), fun k hk => by
    rw [hr, List.mem_singleton] at hk
    subst hk
    exact op_row hi h⟩
theorem late_none {listed : Array Bool} {fuel : Nat} (hr : Region.ready .any ops listed = []) (h : Q .normal a w) : wpLate P ops Q Z T fuel listed a w := by
  cases fuel with
  | zero => exact ⟨hr, h⟩
  | succ k => exact ⟨fun _ => h, fun i hi => (by rw [hr] at hi; cases hi)⟩
theorem loadVi {o : Oper} {x : Operand} {t : TypeId} {g i k : Nat} {cs : Array Value} {e : TypeId} {fr : Nat × Nat} {v : Value} {d : TypeDesc} (ho : o.op = .load t x) (hx : evO l x = some (.pointer (some ⟨g, i, none⟩))) (ht : P.underlying t = some d) (hd : d.isRow = false) (hL : L[k]? = some (g, .cells cs e fr)) (hc : cs[i]? = some v) : RunV P l L o v :=
  loadV ho hx ht hd (List.mem_of_getElem? hL) hc
theorem loadRi {o : Oper} {x : Operand} {t : TypeId} {g k m : Nat} {cs : Array Value} {e : TypeId} {fr : Nat × Nat} {d : TypeDesc} (ho : o.op = .load t x) (hx : evO l x = some (.pointer (some ⟨g, 0, none⟩))) (ht : P.underlying t = some d) (hd : d.isRow = true) (hi : (P.info? t).map (·.size) = some m) (hL : L[k]? = some (g, .cells cs e fr)) (hm : cs.size = m) : RunV P l L o (.agg cs) := fun ρ w A H => by
  have e1 : ρ x = .pointer (some ⟨g, 0, none⟩) := A x _ hx
  have := run_loadAt_mid (P := P) w g 0 t cs.toList d (fun j v hv => by rw [cell_of (H k _ hL), Nat.zero_add]; simpa using hv) ht hd (by rw [hi, ← hm]; simp)
  simp only [execOp, ho, e1, Sem.run_bind, this, Result.andThen_ok, Sem.run_pure]
end
section
def placesOf (P : Program) (t : TypeId) : Option (List (Nat × Nat)) := match P.underlying t with | some (.struct fs) => fs.toList.mapM fun f => (P.info? f.type).map fun i => (f.offset, i.size) | _ => none
def zeroSize (P : Program) (t : TypeId) : Option Nat := match P.info? t with | some it => it.zero.map (·.cells.size) | none => none
def FitsP (pl : Nat → Option (Nat × Nat)) : Nat → List (Nat × Value) → List Nat → Nat → Prop
  | off, [], [], tot => off = tot
  | off, p :: ps, n :: ns, tot => pl p.1 = some (off, n) ∧ p.2.cells.size = n ∧ FitsP pl (off + n) ps ns tot
  | _, _, _, _ => False
def catA : Array Value → List (Nat × Value) → Array Value
  | a, [] => a
  | a, p :: r => catA (a ++ p.2.cells) r
def catP : List (Nat × Value) → Array Value
  | [] => #[]
  | p :: r => catA p.2.cells r
theorem fold_set (vs : List (Value × Nat)) (off : Nat) : ∀ (cs : Array Value), (vs.foldl (fun cs (x : Value × Nat) => cs.setIfInBounds (off + x.2) x.1) cs).size = cs.size := by
  induction vs with
  | nil => exact fun _ => rfl
  | cons x r ih => exact fun cs => by rw [List.foldl_cons, ih, Array.size_setIfInBounds]
theorem fold_at (off : Nat) : ∀ (vs : List Value) (k : Nat) (cs : Array Value), off + k + vs.length ≤ cs.size → ∀ j, ((vs.zipIdx k).foldl (fun cs (x : Value × Nat) => cs.setIfInBounds (off + x.2) x.1) cs)[j]? = if off + k ≤ j ∧ j < off + k + vs.length then vs[j - (off + k)]? else cs[j]?
  | [], k, cs, _, j => by
    rw [if_neg (by simp only [List.length_nil]; omega)]
    rfl
  | v :: r, k, cs, h, j => by
    simp only [List.length_cons] at h
    rw [List.zipIdx_cons, List.foldl_cons, fold_at off r (k + 1) _ (by rw [Array.size_setIfInBounds]; omega) j]
    simp only [List.length_cons]
    by_cases e : j = off + k
    · subst e
      rw [if_neg (by omega), if_pos (by omega), Nat.sub_self, Array.getElem?_setIfInBounds, if_pos rfl, if_pos (by omega)]
      rfl
    · rw [Array.getElem?_setIfInBounds_ne (fun q => e q.symm)]
      by_cases h1 : off + k ≤ j ∧ j < off + k + (r.length + 1)
      · rw [if_pos h1, if_pos (by omega), show j - (off + k) = j - (off + (k + 1)) + 1 by omega, List.getElem?_cons_succ]
      · rw [if_neg h1, if_neg (by omega)]
theorem fill_fits {pl : Nat → Option (Nat × Nat)} : ∀ (ps : List (Nat × Value)) (ns : List Nat) (tot : Nat) (pre cs : Array Value), FitsP pl pre.size ps ns tot → cs.size = tot → (∀ j, j < pre.size → cs[j]? = pre[j]?) → pre.size ≤ tot → Instr.fill pl cs ps = some (catA pre ps)
  | [], ns, tot, pre, cs, h, hs, hp, _ => by
    cases ns with
    | cons _ _ => exact h.elim
    | nil =>
      have h : pre.size = tot := h
      refine congrArg some (Array.ext_getElem? fun j => ?_)
      rcases Nat.lt_or_ge j pre.size with q | q
      · exact hp j q
      · show cs[j]? = pre[j]?
        rw [Array.getElem?_eq_none (by omega), Array.getElem?_eq_none q]
  | p :: r, ns, tot, pre, cs, h, hs, hp, hle => by
    cases ns with
    | nil => exact h.elim
    | cons n ns =>
      obtain ⟨h1, h2, h3⟩ := h
      have tot_le : ∀ (ps : List (Nat × Value)) (ns : List Nat) (off : Nat), FitsP pl off ps ns tot → off ≤ tot := fun ps => by
        induction ps with
        | nil => intro ns off q; cases ns with
          | nil => exact Nat.le_of_eq q
          | cons _ _ => exact q.elim
        | cons x r ih => intro ns off q; cases ns with
          | nil => exact q.elim
          | cons m ms => exact Nat.le_trans (Nat.le_add_right _ _) (ih ms _ q.2.2)
      have ht := tot_le r ns _ h3
      unfold Instr.fill
      simp only [h1]
      have hl : p.2.cells.toList.length = n := by rw [Array.length_toList]; exact h2
      have ef : p.2.cells.zipIdx.foldl (fun cs (x : Value × Nat) => cs.setIfInBounds (pre.size + x.2) x.1) cs = (p.2.cells.toList.zipIdx 0).foldl (fun cs (x : Value × Nat) => cs.setIfInBounds (pre.size + x.2) x.1) cs := by
        rw [← Array.foldl_toList, Array.toList_zipIdx]
      have hno : ¬ ((decide (p.2.cells.size ≠ n) || decide (pre.size + p.2.cells.size > cs.size)) = true) := by
        rw [h2, hs]
        simp
        omega
      rw [if_neg hno]
      refine (congrArg (fun z => Instr.fill pl z r) ef).trans ?_
      refine fill_fits r ns tot (pre ++ p.2.cells) _ (by rw [Array.size_append, h2]; exact h3) ?_ (fun j hj => ?_) (by rw [Array.size_append, h2]; exact ht)
      · rw [fold_set, hs]
      · rw [Array.size_append, h2] at hj
        rw [fold_at pre.size p.2.cells.toList 0 cs (by rw [hl]; omega) j, hl, Nat.add_zero]
        rcases Nat.lt_or_ge j pre.size with q | q
        · rw [if_neg (by omega), hp j q, Array.getElem?_append_left q]
        · rw [if_pos ⟨q, by omega⟩, Array.getElem?_append_right q, Array.getElem?_toList]
theorem built_fits {P : Program} {t : TypeId} {pl : List (Nat × Nat)} {tot n : Nat} {p : Nat × Value} {r : List (Nat × Value)} {ns : List Nat} {c : Array Value} (hp : placesOf P t = some pl) (hz : zeroSize P t = some tot) (h : FitsP (pl.toArray[·]?) 0 (p :: r) (n :: ns) tot) (hc : catP (p :: r) = c) : P.built t (p :: r) = some c := by
  unfold placesOf at hp
  unfold zeroSize at hz
  unfold Program.built
  split at hp
  · rename_i fs hu
    split at hz
    · rename_i it hi
      obtain ⟨z, hz1, hz2⟩ := Option.map_eq_some_iff.1 hz
      simp only [hi, hu, hz1, hp]
      have := fill_fits (pl := (pl.toArray[·]?)) (p :: r) (n :: ns) tot #[] z.cells h hz2 (fun j hj => by simp at hj) (Nat.zero_le _)
      rw [this, ← hc]
      simp [catA, catP]
    · cases hz
  · cases hp
theorem evParts_rho {ρ : Operand → Value} {l : Slots} (A : Agr ρ l) : ∀ (xs : List (Nat × Operand)) (us : List (Nat × Value)), evParts l xs = some us → xs.map (fun (i, x) => (i, ρ x)) = us
  | [], us, h => by
    obtain rfl := Option.some.inj h
    rfl
  | x :: r, us, h => by
    unfold evParts at h
    split at h
    · rename_i v vs h1 h2
      obtain rfl := Option.some.inj h
      simp [A x.2 v h1, evParts_rho A r vs h2]
    · cases h
theorem build_ok {P : Program} {l : Slots} {L : Blks} {o : Oper} {t : TypeId} {ps : Array (Nat × Operand)} {xs : List (Nat × Value)} {c : Array Value} (ho : o.op = .build t ps) (hx : evParts l ps.toList = some xs) (hb : P.built t xs = some c) : RunV P l L o (.agg c) := fun ρ w A _ => by
  have hp := evParts_rho A _ _ hx
  have hq := run_build' (P := P) (w := w) (t := t) (ps := xs.toArray) (z := .agg c) (cs := []) (by simp [aBuild, hb])
  have hm : (ps.map fun (i, x) => (i, ρ x)) = xs.toArray := by
    apply Array.toList_inj.1
    rw [Array.toList_map]
    exact hp
  simp [execOp, ho, hm, hq]
end
end Go.Proofs.YtdjpacgjhcidpabGreatDoor
namespace Go.Proofs.YtdjpacgjhcidpabGreatDoor
open Go.RowKit
theorem keyL_len (x : Nat) : (keyL x).length = 32 := by simp [keyL]
theorem keyL_get (x j : Nat) (h : j < 32) : (keyL x).getD j 0 = kb x j := by simp [keyL, h]
theorem keyL_bytes (x : Nat) : KBytes (keyL x) := by
  refine ⟨keyL_len x, fun i => ?_⟩
  rcases Nat.lt_or_ge i 32 with h | h
  · rw [keyL_get x i h]; exact Nat.mod_lt _ (by decide)
  · simp [keyL, h]
theorem bytes8 (v : Nat) (h : v < 18446744073709551616) :
    v / 256 ^ 0 % 256 * 256 ^ 0 + v / 256 ^ 1 % 256 * 256 ^ 1 + v / 256 ^ 2 % 256 * 256 ^ 2 + v / 256 ^ 3 % 256 * 256 ^ 3 + v / 256 ^ 4 % 256 * 256 ^ 4 + v / 256 ^ 5 % 256 * 256 ^ 5 + v / 256 ^ 6 % 256 * 256 ^ 6 + v / 256 ^ 7 % 256 * 256 ^ 7 = v := by
  simp only [Nat.reducePow]
  omega
theorem word_key (x q : Nat) (hq : q ≤ 3) (hw : wq x q < 18446744073709551616) : wordTo (keyL x) (8 * q) 8 = wq x q := by
  have g : ∀ k, k < 8 → (keyL x).getD (8 * q + k) 0 = wq x q / 256 ^ k % 256 := fun k hk => by
    rw [keyL_get x _ (by omega)]
    unfold kb
    rw [show (8 * q + k) / 8 = q by omega, show (8 * q + k) % 8 = k by omega]
  have e := bytes8 (wq x q) hw
  simp only [wordTo]
  rw [g 0 (by omega), g 1 (by omega), g 2 (by omega), g 3 (by omega), g 4 (by omega), g 5 (by omega), g 6 (by omega), g 7 (by omega), Nat.zero_add]
  exact e
theorem words_key (x : Nat) : wordTo (keyL x) 0 8 = fw0 x ∧ wordTo (keyL x) 8 8 = fw1 x ∧ wordTo (keyL x) 16 8 = fw2 x ∧ wordTo (keyL x) 24 8 = fw3 x :=
  ⟨word_key x 0 (by omega) (fw0_lt x), word_key x 1 (by omega) (fw1_lt x), word_key x 2 (by omega) (fw2_lt x), word_key x 3 (by omega) (fw3_lt x)⟩
theorem numOf_key (x : Nat) (hx : x < b255) : numOf (keyL x) = x := by
  obtain ⟨h0, h1, h2, h3⟩ := words_key x
  unfold numOf
  rw [h0, h1, h2, h3]
  have hh := fw3_half x (by unfold b255 top4 at *; omega)
  have : x / b255 = 0 := Nat.div_eq_of_lt hx
  rw [this] at hh
  have h4 : fw3 x % 9223372036854775808 = fw3 x := by omega
  rw [h4]
  exact mk4_w x (by unfold b255 top4 at *; omega)
theorem keyL_inj {x y : Nat} (hx : x < b255) (hy : y < b255) (h : keyL x = keyL y) : x = y := by
  rw [← numOf_key x hx, ← numOf_key y hy, h]
theorem pN_255 : pN < b255 := by decide
def zero32 : List Nat := [0, 0, 0, 0, 0, 0, 0, 0, 0, 0, 0, 0, 0, 0, 0, 0, 0, 0, 0, 0, 0, 0, 0, 0, 0, 0, 0, 0, 0, 0, 0, 0]
def nine32 : List Nat := [9, 0, 0, 0, 0, 0, 0, 0, 0, 0, 0, 0, 0, 0, 0, 0, 0, 0, 0, 0, 0, 0, 0, 0, 0, 0, 0, 0, 0, 0, 0, 0]
theorem zero32_ok : KBytes zero32 := ⟨rfl, lit_lt (by kernel_rfl)⟩
theorem nine32_ok : KBytes nine32 := ⟨rfl, lit_lt (by kernel_rfl)⟩
theorem keyL_zero : keyL 0 = zero32 := by decide +kernel
theorem keyL_ne {r : Nat} (h : r < pN) (h0 : r ≠ 0) : keyL r ≠ zero32 := fun e => h0 (keyL_inj (Nat.lt_trans h pN_255) (by decide) (e.trans keyL_zero.symm))
theorem curveN_lt (ks us : List Nat) : curveN ks us < pN := mN_lt _ _
theorem invTo_pN (x : Nat) : invTo x 255 < pN := by
  show invTo x (254 + 1) < pN
  unfold invTo
  split <;> exact Nat.mod_lt _ (by decide)
theorem lad_down (ks : List Nat) (u : Nat) {k : Nat} (hk : k < 255) : ladTo ks u (255 - k) = (((ladTo ks u (255 - (k + 1))).swap (bitAt ks k)).step u).swap (bitAt ks k) := by
  rw [show 255 - k = 255 - (k + 1) + 1 by omega, ladTo, show 254 - (255 - (k + 1)) = k by omega]
/-- The public key of a secret. -/
def pubN (ks : List Nat) : Nat := curveN ks nine32
theorem lad_start (ks : List Nat) (u : Nat) : Value.agg #[iW (fw0 1), iW (fw1 1), iW (fw2 1), iW (fw3 1), .int .u64 0, .int .u64 0, .int .u64 0, .int .u64 0, iW (fw0 u), iW (fw1 u), iW (fw2 u), iW (fw3 u), iW (fw0 1), iW (fw1 1), iW (fw2 1), iW (fw3 1)] = aG #[iW (fw0 (((ladTo ks u 0)).x2)), iW (fw1 (((ladTo ks u 0)).x2)), iW (fw2 (((ladTo ks u 0)).x2)), iW (fw3 (((ladTo ks u 0)).x2)), iW (fw0 (((ladTo ks u 0)).z2)), iW (fw1 (((ladTo ks u 0)).z2)), iW (fw2 (((ladTo ks u 0)).z2)), iW (fw3 (((ladTo ks u 0)).z2)), iW (fw0 (((ladTo ks u 0)).x3)), iW (fw1 (((ladTo ks u 0)).x3)), iW (fw2 (((ladTo ks u 0)).x3)), iW (fw3 (((ladTo ks u 0)).x3)), iW (fw0 (((ladTo ks u 0)).z3)), iW (fw1 (((ladTo ks u 0)).z3)), iW (fw2 (((ladTo ks u 0)).z3)), iW (fw3 (((ladTo ks u 0)).z3))] := by simp [ladTo, fw0, fw1, fw2, fw3]
set_option maxHeartbeats 2000000 in
set_option maxRecDepth 100000 in
theorem cmul_any (ks us : List Nat) (hk : KBytes ks) (hu : KBytes us) (w0 : World) :
    Calls Tryz.prog 25 #[.agg (cn .u8 ks), .agg (cn .u8 us)] w0 fun e w' => e = .returned (.agg (cn .u8 (keyL (curveN ks us)))) ∧ Below w0.heap.size w0 w' := by
  refine enter_fr Tryz.func25 rfl Tryz.ntmps25 (by simp) fun ac (FF : Fr 45 ac [(0, .agg (cn .u8 ks)), (1, .agg (cn .u8 us))]) => ?_
  have MM := MemS.start w0
  have hul : numOf us % pN < pN := Nat.mod_lt _ (by decide)
  refine wp_seq (rg_c FF MM [(0, s_ 0 (.cells (cn .u8 ks) 23)), (0, s_ 0 (.cells (cn .u8 us) 23)), (0, s_ 0 (.cells (cn .u8 (List.replicate 32 0)) 23))] 5 [] [0, 1] (⟨(by kernel_rfl), fun bk => ⟨(by kernel_rfl), fun bu => ⟨(by kernel_rfl), fun br => fun _ _ FF1 MM1 => then_n ?_⟩⟩⟩))
  refine wp_seq (rg_c FF1 MM1 [(0, b_ 2), (0, t_ (.agg (cn .u8 (scal ks)))), (0, b_ 2)] 5 [] [] (⟨rfl, ((cn_size _ _).trans hk.1), (callP_of en_cscal (cscal_any ks hk) _), rfl, ((cn_size _ _).trans hk.1), ((cn_size _ _).trans (scal_bytes hk).1), (cn_one _ _), rfl, fun _ _ FF2 MM2 => then_n ?_⟩))
  refine wp_seq (rg_c FF2 MM2 [(0, b_ 1), (0, t_ (aG #[iW (fw0 (numOf us % pN)), iW (fw1 (numOf us % pN)), iW (fw2 (numOf us % pN)), iW (fw3 (numOf us % pN))])), (1, b_ 0)] 6 [] [3] (⟨rfl, ((cn_size _ _).trans hu.1), (callP_of en_fOf (fOf_any us ⟨hu.1, hu.2⟩) _), fun bp => ⟨rfl, rfl, rfl, (by kernel_rfl), rfl, fun _ _ FF3 MM3 => then_n ?_⟩⟩))
  refine wp_seq (rg_draw FF3 MM3 [.inl (aG #[iW (fw0 1), iW (fw1 1), iW (fw2 1), iW (fw3 1)]), .inl (aG #[iW (fw0 (numOf us % pN)), iW (fw1 (numOf us % pN)), iW (fw2 (numOf us % pN)), iW (fw3 (numOf us % pN))]), .inl (aG #[iW (fw0 1), iW (fw1 1), iW (fw2 1), iW (fw3 1)]), .inl (aG #[iW (fw0 (((ladTo (scal ks) (numOf us % pN) 0)).x2)), iW (fw1 (((ladTo (scal ks) (numOf us % pN) 0)).x2)), iW (fw2 (((ladTo (scal ks) (numOf us % pN) 0)).x2)), iW (fw3 (((ladTo (scal ks) (numOf us % pN) 0)).x2)), iW (fw0 (((ladTo (scal ks) (numOf us % pN) 0)).z2)), iW (fw1 (((ladTo (scal ks) (numOf us % pN) 0)).z2)), iW (fw2 (((ladTo (scal ks) (numOf us % pN) 0)).z2)), iW (fw3 (((ladTo (scal ks) (numOf us % pN) 0)).z2)), iW (fw0 (((ladTo (scal ks) (numOf us % pN) 0)).x3)), iW (fw1 (((ladTo (scal ks) (numOf us % pN) 0)).x3)), iW (fw2 (((ladTo (scal ks) (numOf us % pN) 0)).x3)), iW (fw3 (((ladTo (scal ks) (numOf us % pN) 0)).x3)), iW (fw0 (((ladTo (scal ks) (numOf us % pN) 0)).z3)), iW (fw1 (((ladTo (scal ks) (numOf us % pN) 0)).z3)), iW (fw2 (((ladTo (scal ks) (numOf us % pN) 0)).z3)), iW (fw3 (((ladTo (scal ks) (numOf us % pN) 0)).z3))]), .inr (oC #[iW 0, iW 0, iW 0, iW 0, iW 0, iW 0, iW 0, iW 0, iW 0, iW 0, iW 0, iW 0, iW 0, iW 0, iW 0, iW 0] 101, fun b => pT b)] [4] [t_ (aG #[iW (fw0 1), iW (fw1 1), iW (fw2 1), iW (fw3 1)]), b_ 0, t_ (aG #[iW (fw0 1), iW (fw1 1), iW (fw2 1), iW (fw3 1)]), t_ (aG #[iW (fw0 (((ladTo (scal ks) (numOf us % pN) 0)).x2)), iW (fw1 (((ladTo (scal ks) (numOf us % pN) 0)).x2)), iW (fw2 (((ladTo (scal ks) (numOf us % pN) 0)).x2)), iW (fw3 (((ladTo (scal ks) (numOf us % pN) 0)).x2)), iW (fw0 (((ladTo (scal ks) (numOf us % pN) 0)).z2)), iW (fw1 (((ladTo (scal ks) (numOf us % pN) 0)).z2)), iW (fw2 (((ladTo (scal ks) (numOf us % pN) 0)).z2)), iW (fw3 (((ladTo (scal ks) (numOf us % pN) 0)).z2)), iW (fw0 (((ladTo (scal ks) (numOf us % pN) 0)).x3)), iW (fw1 (((ladTo (scal ks) (numOf us % pN) 0)).x3)), iW (fw2 (((ladTo (scal ks) (numOf us % pN) 0)).x3)), iW (fw3 (((ladTo (scal ks) (numOf us % pN) 0)).x3)), iW (fw0 (((ladTo (scal ks) (numOf us % pN) 0)).z3)), iW (fw1 (((ladTo (scal ks) (numOf us % pN) 0)).z3)), iW (fw2 (((ladTo (scal ks) (numOf us % pN) 0)).z3)), iW (fw3 (((ladTo (scal ks) (numOf us % pN) 0)).z3))]), o_] [b_ 0] [5, 4, 2, 6] (fun nb => [CallP Tryz.prog 48 [iW 1] [] (aG #[iW (fw0 1), iW (fw1 1), iW (fw2 1), iW (fw3 1)]), bp = bp, (#[iW (fw0 (numOf us % pN)), iW (fw1 (numOf us % pN)), iW (fw2 (numOf us % pN)), iW (fw3 (numOf us % pN))] : Array Value).size = 4, CallP Tryz.prog 48 [iW 1] [] (aG #[iW (fw0 1), iW (fw1 1), iW (fw2 1), iW (fw3 1)]), aG #[iW (fw0 1), iW (fw1 1), iW (fw2 1), iW (fw3 1), iW 0, iW 0, iW 0, iW 0, iW (fw0 (numOf us % pN)), iW (fw1 (numOf us % pN)), iW (fw2 (numOf us % pN)), iW (fw3 (numOf us % pN)), iW (fw0 1), iW (fw1 1), iW (fw2 1), iW (fw3 1)] = aG #[iW (fw0 (((ladTo (scal ks) (numOf us % pN) 0)).x2)), iW (fw1 (((ladTo (scal ks) (numOf us % pN) 0)).x2)), iW (fw2 (((ladTo (scal ks) (numOf us % pN) 0)).x2)), iW (fw3 (((ladTo (scal ks) (numOf us % pN) 0)).x2)), iW (fw0 (((ladTo (scal ks) (numOf us % pN) 0)).z2)), iW (fw1 (((ladTo (scal ks) (numOf us % pN) 0)).z2)), iW (fw2 (((ladTo (scal ks) (numOf us % pN) 0)).z2)), iW (fw3 (((ladTo (scal ks) (numOf us % pN) 0)).z2)), iW (fw0 (((ladTo (scal ks) (numOf us % pN) 0)).x3)), iW (fw1 (((ladTo (scal ks) (numOf us % pN) 0)).x3)), iW (fw2 (((ladTo (scal ks) (numOf us % pN) 0)).x3)), iW (fw3 (((ladTo (scal ks) (numOf us % pN) 0)).x3)), iW (fw0 (((ladTo (scal ks) (numOf us % pN) 0)).z3)), iW (fw1 (((ladTo (scal ks) (numOf us % pN) 0)).z3)), iW (fw2 (((ladTo (scal ks) (numOf us % pN) 0)).z3)), iW (fw3 (((ladTo (scal ks) (numOf us % pN) 0)).z3))]]) (fun nb Kt => (nb 4) = (nb 4) ∧ (#[iW 0, iW 0, iW 0, iW 0, iW 0, iW 0, iW 0, iW 0, iW 0, iW 0, iW 0, iW 0, iW 0, iW 0, iW 0, iW 0] : Array Value).size = 16 ∧ (#[iW (fw0 (((ladTo (scal ks) (numOf us % pN) 0)).x2)), iW (fw1 (((ladTo (scal ks) (numOf us % pN) 0)).x2)), iW (fw2 (((ladTo (scal ks) (numOf us % pN) 0)).x2)), iW (fw3 (((ladTo (scal ks) (numOf us % pN) 0)).x2)), iW (fw0 (((ladTo (scal ks) (numOf us % pN) 0)).z2)), iW (fw1 (((ladTo (scal ks) (numOf us % pN) 0)).z2)), iW (fw2 (((ladTo (scal ks) (numOf us % pN) 0)).z2)), iW (fw3 (((ladTo (scal ks) (numOf us % pN) 0)).z2)), iW (fw0 (((ladTo (scal ks) (numOf us % pN) 0)).x3)), iW (fw1 (((ladTo (scal ks) (numOf us % pN) 0)).x3)), iW (fw2 (((ladTo (scal ks) (numOf us % pN) 0)).x3)), iW (fw3 (((ladTo (scal ks) (numOf us % pN) 0)).x3)), iW (fw0 (((ladTo (scal ks) (numOf us % pN) 0)).z3)), iW (fw1 (((ladTo (scal ks) (numOf us % pN) 0)).z3)), iW (fw2 (((ladTo (scal ks) (numOf us % pN) 0)).z3)), iW (fw3 (((ladTo (scal ks) (numOf us % pN) 0)).z3))] : Array Value).size = 16 ∧ (#[iW (fw0 (((ladTo (scal ks) (numOf us % pN) 0)).x2)), iW (fw1 (((ladTo (scal ks) (numOf us % pN) 0)).x2)), iW (fw2 (((ladTo (scal ks) (numOf us % pN) 0)).x2)), iW (fw3 (((ladTo (scal ks) (numOf us % pN) 0)).x2)), iW (fw0 (((ladTo (scal ks) (numOf us % pN) 0)).z2)), iW (fw1 (((ladTo (scal ks) (numOf us % pN) 0)).z2)), iW (fw2 (((ladTo (scal ks) (numOf us % pN) 0)).z2)), iW (fw3 (((ladTo (scal ks) (numOf us % pN) 0)).z2)), iW (fw0 (((ladTo (scal ks) (numOf us % pN) 0)).x3)), iW (fw1 (((ladTo (scal ks) (numOf us % pN) 0)).x3)), iW (fw2 (((ladTo (scal ks) (numOf us % pN) 0)).x3)), iW (fw3 (((ladTo (scal ks) (numOf us % pN) 0)).x3)), iW (fw0 (((ladTo (scal ks) (numOf us % pN) 0)).z3)), iW (fw1 (((ladTo (scal ks) (numOf us % pN) 0)).z3)), iW (fw2 (((ladTo (scal ks) (numOf us % pN) 0)).z3)), iW (fw3 (((ladTo (scal ks) (numOf us % pN) 0)).z3))] : Array Value).all (·.oneCell') = true ∧ (0, 0).2 = 0 ∧ Kt [(6, pT (nb 4)), (5, pT bp), (4, pT br), (2, pT bk)] [((nb 4), oC #[iW (fw0 (((ladTo (scal ks) (numOf us % pN) 0)).x2)), iW (fw1 (((ladTo (scal ks) (numOf us % pN) 0)).x2)), iW (fw2 (((ladTo (scal ks) (numOf us % pN) 0)).x2)), iW (fw3 (((ladTo (scal ks) (numOf us % pN) 0)).x2)), iW (fw0 (((ladTo (scal ks) (numOf us % pN) 0)).z2)), iW (fw1 (((ladTo (scal ks) (numOf us % pN) 0)).z2)), iW (fw2 (((ladTo (scal ks) (numOf us % pN) 0)).z2)), iW (fw3 (((ladTo (scal ks) (numOf us % pN) 0)).z2)), iW (fw0 (((ladTo (scal ks) (numOf us % pN) 0)).x3)), iW (fw1 (((ladTo (scal ks) (numOf us % pN) 0)).x3)), iW (fw2 (((ladTo (scal ks) (numOf us % pN) 0)).x3)), iW (fw3 (((ladTo (scal ks) (numOf us % pN) 0)).x3)), iW (fw0 (((ladTo (scal ks) (numOf us % pN) 0)).z3)), iW (fw1 (((ladTo (scal ks) (numOf us % pN) 0)).z3)), iW (fw2 (((ladTo (scal ks) (numOf us % pN) 0)).z3)), iW (fw3 (((ladTo (scal ks) (numOf us % pN) 0)).z3))] 101), (bp, oC #[iW (fw0 (numOf us % pN)), iW (fw1 (numOf us % pN)), iW (fw2 (numOf us % pN)), iW (fw3 (numOf us % pN))] 97), (br, .cells (cn .u8 (List.replicate 32 0)) 23), (bu, .cells (cn .u8 us) 23), (bk, .cells (cn .u8 (scal ks)) 23)]) (by kernel_rfl) (by kernel_rfl) (by kernel_rfl) (fun _ => by kernel_rfl) (fun _ _ => by kernel_rfl) ⟨⟨_, rfl⟩, rfl, trivial⟩ (fun nb => ⟨(callP_of en_fNum (fNum_any 1 (by decide)) _), rfl, rfl, (callP_of en_fNum (fNum_any 1 (by decide)) _), (lad_start (scal ks) _), trivial⟩) (fun nb => ⟨rfl, rfl, rfl, (by kernel_rfl), rfl, fun _ _ FF4 MM4 => then_n ?_⟩))
  generalize nb 4 = bl at *
  have MMr5 : MemS _ _ _ [(bl, oC #[iW (fw0 (((ladTo (scal ks) (numOf us % pN) (255 - 255))).x2)), iW (fw1 (((ladTo (scal ks) (numOf us % pN) (255 - 255))).x2)), iW (fw2 (((ladTo (scal ks) (numOf us % pN) (255 - 255))).x2)), iW (fw3 (((ladTo (scal ks) (numOf us % pN) (255 - 255))).x2)), iW (fw0 (((ladTo (scal ks) (numOf us % pN) (255 - 255))).z2)), iW (fw1 (((ladTo (scal ks) (numOf us % pN) (255 - 255))).z2)), iW (fw2 (((ladTo (scal ks) (numOf us % pN) (255 - 255))).z2)), iW (fw3 (((ladTo (scal ks) (numOf us % pN) (255 - 255))).z2)), iW (fw0 (((ladTo (scal ks) (numOf us % pN) (255 - 255))).x3)), iW (fw1 (((ladTo (scal ks) (numOf us % pN) (255 - 255))).x3)), iW (fw2 (((ladTo (scal ks) (numOf us % pN) (255 - 255))).x3)), iW (fw3 (((ladTo (scal ks) (numOf us % pN) (255 - 255))).x3)), iW (fw0 (((ladTo (scal ks) (numOf us % pN) (255 - 255))).z3)), iW (fw1 (((ladTo (scal ks) (numOf us % pN) (255 - 255))).z3)), iW (fw2 (((ladTo (scal ks) (numOf us % pN) (255 - 255))).z3)), iW (fw3 (((ladTo (scal ks) (numOf us % pN) (255 - 255))).z3))] 101), _, _, _, _] _ := MM4
  refine wp_seq ?_
  refine wp_seq (rg_c FF4 MMr5 [] 8 [] [] (fun _ _ FF6 MM6 => then_n ?_))
  refine wp_for2 (fun a' w' => ∃ k : Nat, k ≤ 255 ∧ Fr 45 a' [(7, .int .i64 (((k : Nat) : Int) - 1 : Int)), (6, pT bl), (5, pT bp), (4, pT br), (2, pT bk)] ∧ MemS (fun k => k < w0.heap.size) w0 w' [(bl, oC #[iW (fw0 (((ladTo (scal ks) (numOf us % pN) (255 - k))).x2)), iW (fw1 (((ladTo (scal ks) (numOf us % pN) (255 - k))).x2)), iW (fw2 (((ladTo (scal ks) (numOf us % pN) (255 - k))).x2)), iW (fw3 (((ladTo (scal ks) (numOf us % pN) (255 - k))).x2)), iW (fw0 (((ladTo (scal ks) (numOf us % pN) (255 - k))).z2)), iW (fw1 (((ladTo (scal ks) (numOf us % pN) (255 - k))).z2)), iW (fw2 (((ladTo (scal ks) (numOf us % pN) (255 - k))).z2)), iW (fw3 (((ladTo (scal ks) (numOf us % pN) (255 - k))).z2)), iW (fw0 (((ladTo (scal ks) (numOf us % pN) (255 - k))).x3)), iW (fw1 (((ladTo (scal ks) (numOf us % pN) (255 - k))).x3)), iW (fw2 (((ladTo (scal ks) (numOf us % pN) (255 - k))).x3)), iW (fw3 (((ladTo (scal ks) (numOf us % pN) (255 - k))).x3)), iW (fw0 (((ladTo (scal ks) (numOf us % pN) (255 - k))).z3)), iW (fw1 (((ladTo (scal ks) (numOf us % pN) (255 - k))).z3)), iW (fw2 (((ladTo (scal ks) (numOf us % pN) (255 - k))).z3)), iW (fw3 (((ladTo (scal ks) (numOf us % pN) (255 - k))).z3))] 101), (bp, oC #[iW (fw0 (numOf us % pN)), iW (fw1 (numOf us % pN)), iW (fw2 (numOf us % pN)), iW (fw3 (numOf us % pN))] 97), (br, .cells (cn .u8 (List.replicate 32 0)) 23), (bu, .cells (cn .u8 us) 23), (bk, .cells (cn .u8 (scal ks)) 23)] []) (fun a' _ => (cnt 7 a' + 1).toNat) ⟨255, Nat.le_refl _, FF6.pick [0, 1, 2, 3, 4], MM6⟩ ?_
  rintro ac7 wd7 ⟨k, hk5, FF7, MM7⟩
  have hc := cnt_of (FF7.get 0 rfl)
  refine rg_c FF7 MM7 [(1, w_ 4)] 8 [18] [] (fun _ _ FF8 MM8 => ?_)
  by_cases hlt : (((k : Nat) : Int) - 1) ≥ ((0 : Nat) : Int)
  · skip
    refine then_n (.inl ⟨(FF8.ev 0 rfl).trans (dec_t hlt), ?_⟩)
    obtain ⟨k, rfl⟩ : ∃ z, k = z + 1 := ⟨k - 1, by omega⟩
    have hsb := (scal_bytes hk).2 (k / 8)
    have hsd := Nat.div_le_self ((scal ks).getD (k / 8) 0) (2 ^ (k % 8))
    refine wp_seq (rg_c FF8 MM8 [(0, t_ (iN k)), (1, w_ 1), (0, l_ 4 (iB ((scal ks).getD (k / 8) 0))), (0, t_ (iN k)), (2, w_ 1), (0, t_ (iN (bitAt (scal ks) k)))] 9 [] [] (⟨(vZ (by omega)), by decide, by omega, by omega, rfl, (cn_get _ _ _ (by rw [(scal_bytes hk).1]; omega)), (vZ (by omega)), by decide, (by show _ ≤ 8; have := (scal_bytes hk).2 (k / 8); omega), (by have := (scal_bytes hk).2 (k / 8); omega), by omega, by decide, (vI (Nat.and_one_is_mod _)), fun _ _ FF9 MM9 => then_n ?_⟩))
    refine rg_dc 7 FF9 MM9 [(0, b_ 0), (1, t_ (aG #[iW (fw0 (((((ladTo (scal ks) (numOf us % pN) (255 - (k + 1)))).swap (bitAt (scal ks) k))).x2)), iW (fw1 (((((ladTo (scal ks) (numOf us % pN) (255 - (k + 1)))).swap (bitAt (scal ks) k))).x2)), iW (fw2 (((((ladTo (scal ks) (numOf us % pN) (255 - (k + 1)))).swap (bitAt (scal ks) k))).x2)), iW (fw3 (((((ladTo (scal ks) (numOf us % pN) (255 - (k + 1)))).swap (bitAt (scal ks) k))).x2)), iW (fw0 (((((ladTo (scal ks) (numOf us % pN) (255 - (k + 1)))).swap (bitAt (scal ks) k))).z2)), iW (fw1 (((((ladTo (scal ks) (numOf us % pN) (255 - (k + 1)))).swap (bitAt (scal ks) k))).z2)), iW (fw2 (((((ladTo (scal ks) (numOf us % pN) (255 - (k + 1)))).swap (bitAt (scal ks) k))).z2)), iW (fw3 (((((ladTo (scal ks) (numOf us % pN) (255 - (k + 1)))).swap (bitAt (scal ks) k))).z2)), iW (fw0 (((((ladTo (scal ks) (numOf us % pN) (255 - (k + 1)))).swap (bitAt (scal ks) k))).x3)), iW (fw1 (((((ladTo (scal ks) (numOf us % pN) (255 - (k + 1)))).swap (bitAt (scal ks) k))).x3)), iW (fw2 (((((ladTo (scal ks) (numOf us % pN) (255 - (k + 1)))).swap (bitAt (scal ks) k))).x3)), iW (fw3 (((((ladTo (scal ks) (numOf us % pN) (255 - (k + 1)))).swap (bitAt (scal ks) k))).x3)), iW (fw0 (((((ladTo (scal ks) (numOf us % pN) (255 - (k + 1)))).swap (bitAt (scal ks) k))).z3)), iW (fw1 (((((ladTo (scal ks) (numOf us % pN) (255 - (k + 1)))).swap (bitAt (scal ks) k))).z3)), iW (fw2 (((((ladTo (scal ks) (numOf us % pN) (255 - (k + 1)))).swap (bitAt (scal ks) k))).z3)), iW (fw3 (((((ladTo (scal ks) (numOf us % pN) (255 - (k + 1)))).swap (bitAt (scal ks) k))).z3))])), (0, b_ 1), (0, t_ (aG #[iW (fw0 (((((((ladTo (scal ks) (numOf us % pN) (255 - (k + 1)))).swap (bitAt (scal ks) k))).step (numOf us % pN))).x2)), iW (fw1 (((((((ladTo (scal ks) (numOf us % pN) (255 - (k + 1)))).swap (bitAt (scal ks) k))).step (numOf us % pN))).x2)), iW (fw2 (((((((ladTo (scal ks) (numOf us % pN) (255 - (k + 1)))).swap (bitAt (scal ks) k))).step (numOf us % pN))).x2)), iW (fw3 (((((((ladTo (scal ks) (numOf us % pN) (255 - (k + 1)))).swap (bitAt (scal ks) k))).step (numOf us % pN))).x2)), iW (fw0 (((((((ladTo (scal ks) (numOf us % pN) (255 - (k + 1)))).swap (bitAt (scal ks) k))).step (numOf us % pN))).z2)), iW (fw1 (((((((ladTo (scal ks) (numOf us % pN) (255 - (k + 1)))).swap (bitAt (scal ks) k))).step (numOf us % pN))).z2)), iW (fw2 (((((((ladTo (scal ks) (numOf us % pN) (255 - (k + 1)))).swap (bitAt (scal ks) k))).step (numOf us % pN))).z2)), iW (fw3 (((((((ladTo (scal ks) (numOf us % pN) (255 - (k + 1)))).swap (bitAt (scal ks) k))).step (numOf us % pN))).z2)), iW (fw0 (((((((ladTo (scal ks) (numOf us % pN) (255 - (k + 1)))).swap (bitAt (scal ks) k))).step (numOf us % pN))).x3)), iW (fw1 (((((((ladTo (scal ks) (numOf us % pN) (255 - (k + 1)))).swap (bitAt (scal ks) k))).step (numOf us % pN))).x3)), iW (fw2 (((((((ladTo (scal ks) (numOf us % pN) (255 - (k + 1)))).swap (bitAt (scal ks) k))).step (numOf us % pN))).x3)), iW (fw3 (((((((ladTo (scal ks) (numOf us % pN) (255 - (k + 1)))).swap (bitAt (scal ks) k))).step (numOf us % pN))).x3)), iW (fw0 (((((((ladTo (scal ks) (numOf us % pN) (255 - (k + 1)))).swap (bitAt (scal ks) k))).step (numOf us % pN))).z3)), iW (fw1 (((((((ladTo (scal ks) (numOf us % pN) (255 - (k + 1)))).swap (bitAt (scal ks) k))).step (numOf us % pN))).z3)), iW (fw2 (((((((ladTo (scal ks) (numOf us % pN) (255 - (k + 1)))).swap (bitAt (scal ks) k))).step (numOf us % pN))).z3)), iW (fw3 (((((((ladTo (scal ks) (numOf us % pN) (255 - (k + 1)))).swap (bitAt (scal ks) k))).step (numOf us % pN))).z3))])), (1, t_ (aG #[iW (fw0 (((((((((ladTo (scal ks) (numOf us % pN) (255 - (k + 1)))).swap (bitAt (scal ks) k))).step (numOf us % pN))).swap (bitAt (scal ks) k))).x2)), iW (fw1 (((((((((ladTo (scal ks) (numOf us % pN) (255 - (k + 1)))).swap (bitAt (scal ks) k))).step (numOf us % pN))).swap (bitAt (scal ks) k))).x2)), iW (fw2 (((((((((ladTo (scal ks) (numOf us % pN) (255 - (k + 1)))).swap (bitAt (scal ks) k))).step (numOf us % pN))).swap (bitAt (scal ks) k))).x2)), iW (fw3 (((((((((ladTo (scal ks) (numOf us % pN) (255 - (k + 1)))).swap (bitAt (scal ks) k))).step (numOf us % pN))).swap (bitAt (scal ks) k))).x2)), iW (fw0 (((((((((ladTo (scal ks) (numOf us % pN) (255 - (k + 1)))).swap (bitAt (scal ks) k))).step (numOf us % pN))).swap (bitAt (scal ks) k))).z2)), iW (fw1 (((((((((ladTo (scal ks) (numOf us % pN) (255 - (k + 1)))).swap (bitAt (scal ks) k))).step (numOf us % pN))).swap (bitAt (scal ks) k))).z2)), iW (fw2 (((((((((ladTo (scal ks) (numOf us % pN) (255 - (k + 1)))).swap (bitAt (scal ks) k))).step (numOf us % pN))).swap (bitAt (scal ks) k))).z2)), iW (fw3 (((((((((ladTo (scal ks) (numOf us % pN) (255 - (k + 1)))).swap (bitAt (scal ks) k))).step (numOf us % pN))).swap (bitAt (scal ks) k))).z2)), iW (fw0 (((((((((ladTo (scal ks) (numOf us % pN) (255 - (k + 1)))).swap (bitAt (scal ks) k))).step (numOf us % pN))).swap (bitAt (scal ks) k))).x3)), iW (fw1 (((((((((ladTo (scal ks) (numOf us % pN) (255 - (k + 1)))).swap (bitAt (scal ks) k))).step (numOf us % pN))).swap (bitAt (scal ks) k))).x3)), iW (fw2 (((((((((ladTo (scal ks) (numOf us % pN) (255 - (k + 1)))).swap (bitAt (scal ks) k))).step (numOf us % pN))).swap (bitAt (scal ks) k))).x3)), iW (fw3 (((((((((ladTo (scal ks) (numOf us % pN) (255 - (k + 1)))).swap (bitAt (scal ks) k))).step (numOf us % pN))).swap (bitAt (scal ks) k))).x3)), iW (fw0 (((((((((ladTo (scal ks) (numOf us % pN) (255 - (k + 1)))).swap (bitAt (scal ks) k))).step (numOf us % pN))).swap (bitAt (scal ks) k))).z3)), iW (fw1 (((((((((ladTo (scal ks) (numOf us % pN) (255 - (k + 1)))).swap (bitAt (scal ks) k))).step (numOf us % pN))).swap (bitAt (scal ks) k))).z3)), iW (fw2 (((((((((ladTo (scal ks) (numOf us % pN) (255 - (k + 1)))).swap (bitAt (scal ks) k))).step (numOf us % pN))).swap (bitAt (scal ks) k))).z3)), iW (fw3 (((((((((ladTo (scal ks) (numOf us % pN) (255 - (k + 1)))).swap (bitAt (scal ks) k))).step (numOf us % pN))).swap (bitAt (scal ks) k))).z3))]))] [(0, b_ 0)] 9 [] [] (⟨rfl, rfl, (callP_of en_cswap (cswap_any ((ladTo (scal ks) (numOf us % pN) (255 - (k + 1)))) (bitAt (scal ks) k) (bitAt_le _ _)) _), rfl, rfl, (callP_of en_cstep (cstep_any (numOf us % pN) ((((ladTo (scal ks) (numOf us % pN) (255 - (k + 1)))).swap (bitAt (scal ks) k))) (Nat.mod_lt _ (by decide)) (swap_ok (ladTo_ok _ _ hul _))) _), (callP_of en_cswap (cswap_any ((((((ladTo (scal ks) (numOf us % pN) (255 - (k + 1)))).swap (bitAt (scal ks) k))).step (numOf us % pN))) (bitAt (scal ks) k) (bitAt_le _ _)) _), rfl, rfl, rfl, (by kernel_rfl), rfl, fun _ _ FF10 MM10 => ?_⟩)
    have MMr23 : MemS _ _ _ [(bl, oC #[iW (fw0 (((ladTo (scal ks) (numOf us % pN) (255 - k))).x2)), iW (fw1 (((ladTo (scal ks) (numOf us % pN) (255 - k))).x2)), iW (fw2 (((ladTo (scal ks) (numOf us % pN) (255 - k))).x2)), iW (fw3 (((ladTo (scal ks) (numOf us % pN) (255 - k))).x2)), iW (fw0 (((ladTo (scal ks) (numOf us % pN) (255 - k))).z2)), iW (fw1 (((ladTo (scal ks) (numOf us % pN) (255 - k))).z2)), iW (fw2 (((ladTo (scal ks) (numOf us % pN) (255 - k))).z2)), iW (fw3 (((ladTo (scal ks) (numOf us % pN) (255 - k))).z2)), iW (fw0 (((ladTo (scal ks) (numOf us % pN) (255 - k))).x3)), iW (fw1 (((ladTo (scal ks) (numOf us % pN) (255 - k))).x3)), iW (fw2 (((ladTo (scal ks) (numOf us % pN) (255 - k))).x3)), iW (fw3 (((ladTo (scal ks) (numOf us % pN) (255 - k))).x3)), iW (fw0 (((ladTo (scal ks) (numOf us % pN) (255 - k))).z3)), iW (fw1 (((ladTo (scal ks) (numOf us % pN) (255 - k))).z3)), iW (fw2 (((ladTo (scal ks) (numOf us % pN) (255 - k))).z3)), iW (fw3 (((ladTo (scal ks) (numOf us % pN) (255 - k))).z3))] 101), _, _, _, _] _ := MM10.eqA 0 rfl (by rw [lad_down (scal ks) (numOf us % pN) (k := k) (by omega)] <;> rfl)
    refine inb_n (then_n ?_)
    refine rg_c FF10 MMr23 [(1, u_ 4 (.int .i64 (((k : Nat) : Int) - 1 : Int)))] 9 [] [] (⟨by omega, by omega, (vZ (by omega)), fun _ _ FF11 MM11 => ?_⟩)
    have hd := cnt_of (FF11.get 0 rfl)
    refine then_n ⟨⟨k, by omega, FF11.pick [0, 2, 3, 4, 5], MM11⟩, ?_⟩
    rw [hc, hd]; omega
  · skip
    refine then_n (.inr ⟨(FF8.ev 0 rfl).trans (dec_f hlt), ?_⟩)
    obtain rfl : k = 0 := by omega
    refine then_n ?_
    refine wp_seq (rg_draw FF8 MM8 [.inl (pT bl), .inl (aG #[iW (fw0 (((ladTo (scal ks) (numOf us % pN) (255 - 0))).x2)), iW (fw1 (((ladTo (scal ks) (numOf us % pN) (255 - 0))).x2)), iW (fw2 (((ladTo (scal ks) (numOf us % pN) (255 - 0))).x2)), iW (fw3 (((ladTo (scal ks) (numOf us % pN) (255 - 0))).x2))]), .inl (.pointer (some ⟨bl, 4, none⟩)), .inl (aG #[iW (fw0 (((ladTo (scal ks) (numOf us % pN) (255 - 0))).z2)), iW (fw1 (((ladTo (scal ks) (numOf us % pN) (255 - 0))).z2)), iW (fw2 (((ladTo (scal ks) (numOf us % pN) (255 - 0))).z2)), iW (fw3 (((ladTo (scal ks) (numOf us % pN) (255 - 0))).z2))]), .inl (aG #[iW (fw0 (invTo (((ladTo (scal ks) (numOf us % pN) (255 - 0))).z2) 255)), iW (fw1 (invTo (((ladTo (scal ks) (numOf us % pN) (255 - 0))).z2) 255)), iW (fw2 (invTo (((ladTo (scal ks) (numOf us % pN) (255 - 0))).z2) 255)), iW (fw3 (invTo (((ladTo (scal ks) (numOf us % pN) (255 - 0))).z2) 255))]), .inr (oC #[iW (fw0 (((ladTo (scal ks) (numOf us % pN) (255 - 0))).x2)), iW (fw1 (((ladTo (scal ks) (numOf us % pN) (255 - 0))).x2)), iW (fw2 (((ladTo (scal ks) (numOf us % pN) (255 - 0))).x2)), iW (fw3 (((ladTo (scal ks) (numOf us % pN) (255 - 0))).x2)), iW (fw0 (invTo (((ladTo (scal ks) (numOf us % pN) (255 - 0))).z2) 255)), iW (fw1 (invTo (((ladTo (scal ks) (numOf us % pN) (255 - 0))).z2) 255)), iW (fw2 (invTo (((ladTo (scal ks) (numOf us % pN) (255 - 0))).z2) 255)), iW (fw3 (invTo (((ladTo (scal ks) (numOf us % pN) (255 - 0))).z2) 255))] 97, fun b => .slice (some ⟨b, 0, none⟩) 2 2), .inl (aG #[iW (fw0 (curveN ks us)), iW (fw1 (curveN ks us)), iW (fw2 (curveN ks us)), iW (fw3 (curveN ks us))]), .inl (.agg (cn .u8 (keyL (curveN ks us))))] [] [o_, l_ 0 (aG #[iW (fw0 (((ladTo (scal ks) (numOf us % pN) (255 - 0))).x2)), iW (fw1 (((ladTo (scal ks) (numOf us % pN) (255 - 0))).x2)), iW (fw2 (((ladTo (scal ks) (numOf us % pN) (255 - 0))).x2)), iW (fw3 (((ladTo (scal ks) (numOf us % pN) (255 - 0))).x2))]), o_, l_ 0 (aG #[iW (fw0 (((ladTo (scal ks) (numOf us % pN) (255 - 0))).z2)), iW (fw1 (((ladTo (scal ks) (numOf us % pN) (255 - 0))).z2)), iW (fw2 (((ladTo (scal ks) (numOf us % pN) (255 - 0))).z2)), iW (fw3 (((ladTo (scal ks) (numOf us % pN) (255 - 0))).z2))]), t_ (aG #[iW (fw0 (invTo (((ladTo (scal ks) (numOf us % pN) (255 - 0))).z2) 255)), iW (fw1 (invTo (((ladTo (scal ks) (numOf us % pN) (255 - 0))).z2) 255)), iW (fw2 (invTo (((ladTo (scal ks) (numOf us % pN) (255 - 0))).z2) 255)), iW (fw3 (invTo (((ladTo (scal ks) (numOf us % pN) (255 - 0))).z2) 255))]), o_, u_ 1 (aG #[iW (fw0 (curveN ks us)), iW (fw1 (curveN ks us)), iW (fw2 (curveN ks us)), iW (fw3 (curveN ks us))]), t_ (.agg (cn .u8 (keyL (curveN ks us))))] [b_ 2] [7, 6, 5, 4, 2] (fun nb => [bl = bl, PartAt (#[iW (fw0 (((ladTo (scal ks) (numOf us % pN) (255 - 0))).x2)), iW (fw1 (((ladTo (scal ks) (numOf us % pN) (255 - 0))).x2)), iW (fw2 (((ladTo (scal ks) (numOf us % pN) (255 - 0))).x2)), iW (fw3 (((ladTo (scal ks) (numOf us % pN) (255 - 0))).x2)), iW (fw0 (((ladTo (scal ks) (numOf us % pN) (255 - 0))).z2)), iW (fw1 (((ladTo (scal ks) (numOf us % pN) (255 - 0))).z2)), iW (fw2 (((ladTo (scal ks) (numOf us % pN) (255 - 0))).z2)), iW (fw3 (((ladTo (scal ks) (numOf us % pN) (255 - 0))).z2)), iW (fw0 (((ladTo (scal ks) (numOf us % pN) (255 - 0))).x3)), iW (fw1 (((ladTo (scal ks) (numOf us % pN) (255 - 0))).x3)), iW (fw2 (((ladTo (scal ks) (numOf us % pN) (255 - 0))).x3)), iW (fw3 (((ladTo (scal ks) (numOf us % pN) (255 - 0))).x3)), iW (fw0 (((ladTo (scal ks) (numOf us % pN) (255 - 0))).z3)), iW (fw1 (((ladTo (scal ks) (numOf us % pN) (255 - 0))).z3)), iW (fw2 (((ladTo (scal ks) (numOf us % pN) (255 - 0))).z3)), iW (fw3 (((ladTo (scal ks) (numOf us % pN) (255 - 0))).z3))] : Array Value) 0 (#[iW (fw0 (((ladTo (scal ks) (numOf us % pN) (255 - 0))).x2)), iW (fw1 (((ladTo (scal ks) (numOf us % pN) (255 - 0))).x2)), iW (fw2 (((ladTo (scal ks) (numOf us % pN) (255 - 0))).x2)), iW (fw3 (((ladTo (scal ks) (numOf us % pN) (255 - 0))).x2))] : Array Value), (#[iW (fw0 (((ladTo (scal ks) (numOf us % pN) (255 - 0))).x2)), iW (fw1 (((ladTo (scal ks) (numOf us % pN) (255 - 0))).x2)), iW (fw2 (((ladTo (scal ks) (numOf us % pN) (255 - 0))).x2)), iW (fw3 (((ladTo (scal ks) (numOf us % pN) (255 - 0))).x2))] : Array Value).size = 4, bl = bl, PartAt (#[iW (fw0 (((ladTo (scal ks) (numOf us % pN) (255 - 0))).x2)), iW (fw1 (((ladTo (scal ks) (numOf us % pN) (255 - 0))).x2)), iW (fw2 (((ladTo (scal ks) (numOf us % pN) (255 - 0))).x2)), iW (fw3 (((ladTo (scal ks) (numOf us % pN) (255 - 0))).x2)), iW (fw0 (((ladTo (scal ks) (numOf us % pN) (255 - 0))).z2)), iW (fw1 (((ladTo (scal ks) (numOf us % pN) (255 - 0))).z2)), iW (fw2 (((ladTo (scal ks) (numOf us % pN) (255 - 0))).z2)), iW (fw3 (((ladTo (scal ks) (numOf us % pN) (255 - 0))).z2)), iW (fw0 (((ladTo (scal ks) (numOf us % pN) (255 - 0))).x3)), iW (fw1 (((ladTo (scal ks) (numOf us % pN) (255 - 0))).x3)), iW (fw2 (((ladTo (scal ks) (numOf us % pN) (255 - 0))).x3)), iW (fw3 (((ladTo (scal ks) (numOf us % pN) (255 - 0))).x3)), iW (fw0 (((ladTo (scal ks) (numOf us % pN) (255 - 0))).z3)), iW (fw1 (((ladTo (scal ks) (numOf us % pN) (255 - 0))).z3)), iW (fw2 (((ladTo (scal ks) (numOf us % pN) (255 - 0))).z3)), iW (fw3 (((ladTo (scal ks) (numOf us % pN) (255 - 0))).z3))] : Array Value) 4 (#[iW (fw0 (((ladTo (scal ks) (numOf us % pN) (255 - 0))).z2)), iW (fw1 (((ladTo (scal ks) (numOf us % pN) (255 - 0))).z2)), iW (fw2 (((ladTo (scal ks) (numOf us % pN) (255 - 0))).z2)), iW (fw3 (((ladTo (scal ks) (numOf us % pN) (255 - 0))).z2))] : Array Value), (#[iW (fw0 (((ladTo (scal ks) (numOf us % pN) (255 - 0))).z2)), iW (fw1 (((ladTo (scal ks) (numOf us % pN) (255 - 0))).z2)), iW (fw2 (((ladTo (scal ks) (numOf us % pN) (255 - 0))).z2)), iW (fw3 (((ladTo (scal ks) (numOf us % pN) (255 - 0))).z2))] : Array Value).size = 4, CallP Tryz.prog 52 [aG #[iW (fw0 (((ladTo (scal ks) (numOf us % pN) (255 - 0))).z2)), iW (fw1 (((ladTo (scal ks) (numOf us % pN) (255 - 0))).z2)), iW (fw2 (((ladTo (scal ks) (numOf us % pN) (255 - 0))).z2)), iW (fw3 (((ladTo (scal ks) (numOf us % pN) (255 - 0))).z2))]] [] (aG #[iW (fw0 (invTo (((ladTo (scal ks) (numOf us % pN) (255 - 0))).z2) 255)), iW (fw1 (invTo (((ladTo (scal ks) (numOf us % pN) (255 - 0))).z2) 255)), iW (fw2 (invTo (((ladTo (scal ks) (numOf us % pN) (255 - 0))).z2) 255)), iW (fw3 (invTo (((ladTo (scal ks) (numOf us % pN) (255 - 0))).z2) 255))]), CallP Tryz.prog 51 [.slice (some ⟨(nb 5), 0, none⟩) 2 2] [((nb 5), oC #[iW (fw0 (((ladTo (scal ks) (numOf us % pN) (255 - 0))).x2)), iW (fw1 (((ladTo (scal ks) (numOf us % pN) (255 - 0))).x2)), iW (fw2 (((ladTo (scal ks) (numOf us % pN) (255 - 0))).x2)), iW (fw3 (((ladTo (scal ks) (numOf us % pN) (255 - 0))).x2)), iW (fw0 (invTo (((ladTo (scal ks) (numOf us % pN) (255 - 0))).z2) 255)), iW (fw1 (invTo (((ladTo (scal ks) (numOf us % pN) (255 - 0))).z2) 255)), iW (fw2 (invTo (((ladTo (scal ks) (numOf us % pN) (255 - 0))).z2) 255)), iW (fw3 (invTo (((ladTo (scal ks) (numOf us % pN) (255 - 0))).z2) 255))] 97), (bl, oC #[iW (fw0 (((ladTo (scal ks) (numOf us % pN) (255 - 0))).x2)), iW (fw1 (((ladTo (scal ks) (numOf us % pN) (255 - 0))).x2)), iW (fw2 (((ladTo (scal ks) (numOf us % pN) (255 - 0))).x2)), iW (fw3 (((ladTo (scal ks) (numOf us % pN) (255 - 0))).x2)), iW (fw0 (((ladTo (scal ks) (numOf us % pN) (255 - 0))).z2)), iW (fw1 (((ladTo (scal ks) (numOf us % pN) (255 - 0))).z2)), iW (fw2 (((ladTo (scal ks) (numOf us % pN) (255 - 0))).z2)), iW (fw3 (((ladTo (scal ks) (numOf us % pN) (255 - 0))).z2)), iW (fw0 (((ladTo (scal ks) (numOf us % pN) (255 - 0))).x3)), iW (fw1 (((ladTo (scal ks) (numOf us % pN) (255 - 0))).x3)), iW (fw2 (((ladTo (scal ks) (numOf us % pN) (255 - 0))).x3)), iW (fw3 (((ladTo (scal ks) (numOf us % pN) (255 - 0))).x3)), iW (fw0 (((ladTo (scal ks) (numOf us % pN) (255 - 0))).z3)), iW (fw1 (((ladTo (scal ks) (numOf us % pN) (255 - 0))).z3)), iW (fw2 (((ladTo (scal ks) (numOf us % pN) (255 - 0))).z3)), iW (fw3 (((ladTo (scal ks) (numOf us % pN) (255 - 0))).z3))] 101), (bp, oC #[iW (fw0 (numOf us % pN)), iW (fw1 (numOf us % pN)), iW (fw2 (numOf us % pN)), iW (fw3 (numOf us % pN))] 97), (br, .cells (cn .u8 (List.replicate 32 0)) 23), (bu, .cells (cn .u8 us) 23), (bk, .cells (cn .u8 (scal ks)) 23)] (aG #[iW (fw0 (curveN ks us)), iW (fw1 (curveN ks us)), iW (fw2 (curveN ks us)), iW (fw3 (curveN ks us))]), CallP Tryz.prog 53 [aG #[iW (fw0 (curveN ks us)), iW (fw1 (curveN ks us)), iW (fw2 (curveN ks us)), iW (fw3 (curveN ks us))]] [] (.agg (cn .u8 (keyL (curveN ks us))))]) (fun nb Kt => br = br ∧ (cn .u8 (List.replicate 32 0)).size = 32 ∧ (cn .u8 (keyL (curveN ks us))).size = 32 ∧ (cn .u8 (keyL (curveN ks us))).all (·.oneCell') = true ∧ (0, 0).2 = 0 ∧ Kt [(7, .int .i64 (((0 : Nat) : Int) - 1 : Int)), (6, pT bl), (5, pT bp), (4, pT br), (2, pT bk)] [(bl, oC #[iW (fw0 (((ladTo (scal ks) (numOf us % pN) (255 - 0))).x2)), iW (fw1 (((ladTo (scal ks) (numOf us % pN) (255 - 0))).x2)), iW (fw2 (((ladTo (scal ks) (numOf us % pN) (255 - 0))).x2)), iW (fw3 (((ladTo (scal ks) (numOf us % pN) (255 - 0))).x2)), iW (fw0 (((ladTo (scal ks) (numOf us % pN) (255 - 0))).z2)), iW (fw1 (((ladTo (scal ks) (numOf us % pN) (255 - 0))).z2)), iW (fw2 (((ladTo (scal ks) (numOf us % pN) (255 - 0))).z2)), iW (fw3 (((ladTo (scal ks) (numOf us % pN) (255 - 0))).z2)), iW (fw0 (((ladTo (scal ks) (numOf us % pN) (255 - 0))).x3)), iW (fw1 (((ladTo (scal ks) (numOf us % pN) (255 - 0))).x3)), iW (fw2 (((ladTo (scal ks) (numOf us % pN) (255 - 0))).x3)), iW (fw3 (((ladTo (scal ks) (numOf us % pN) (255 - 0))).x3)), iW (fw0 (((ladTo (scal ks) (numOf us % pN) (255 - 0))).z3)), iW (fw1 (((ladTo (scal ks) (numOf us % pN) (255 - 0))).z3)), iW (fw2 (((ladTo (scal ks) (numOf us % pN) (255 - 0))).z3)), iW (fw3 (((ladTo (scal ks) (numOf us % pN) (255 - 0))).z3))] 101), (bp, oC #[iW (fw0 (numOf us % pN)), iW (fw1 (numOf us % pN)), iW (fw2 (numOf us % pN)), iW (fw3 (numOf us % pN))] 97), (br, .cells (cn .u8 (keyL (curveN ks us))) 23), (bu, .cells (cn .u8 us) 23), (bk, .cells (cn .u8 (scal ks)) 23)]) (by kernel_rfl) (by kernel_rfl) (by kernel_rfl) (fun _ => by kernel_rfl) (fun _ _ => by kernel_rfl) trivial (fun nb => ⟨rfl, (part_lit rfl), rfl, rfl, (part_lit rfl), rfl, (callP_of en_fInv (fInv_any (((ladTo (scal ks) (numOf us % pN) (255 - 0))).z2) (Nat.lt_trans (ladTo_ok _ _ hul _).2.1 (by decide))) _), ⟨en_fMul, fun w Hw => fmul2 (((ladTo (scal ks) (numOf us % pN) (255 - 0))).x2) (invTo (((ladTo (scal ks) (numOf us % pN) (255 - 0))).z2) 255) (curveN ks us) (nb 5) _ (ladTo_ok _ _ hul _).1 (invTo_pN _) rfl w (Hw 0 _ rfl)⟩, (callP_of en_fKey (fKey_any (curveN ks us)) _), trivial⟩) (fun nb => ⟨rfl, ((cn_size _ _).trans (List.length_replicate ..)), ((cn_size _ _).trans (keyL_bytes (curveN ks us)).1), (cn_one _ _), rfl, fun _ _ FF12 MM12 => then_n ?_⟩))
    refine wp_ret ?_
    repeat first | refine then_ret ?_ | refine inb_ret ?_
    exact (retc FF12 MM12 (k := 32) (i := 2) (j := 3) Tryz.results25 rfl rfl Tryz.underlying23 rfl (by kernel_rfl) ((cn_size _ _).trans (keyL_bytes (curveN ks us)).1) ⟨rfl, MM12.below⟩)
end Go.Proofs.YtdjpacgjhcidpabGreatDoor
namespace Go.Proofs.YtdjpacgjhcidpabGreatDoor
open Go.RowKit
set_option maxRecDepth 100000 in
theorem cpub_any (ks : List Nat) (hk : KBytes ks) (w0 : World) :
    Calls Tryz.prog 7 #[.agg (cn .u8 ks)] w0 fun e w' => e = .returned (.agg (cn .u8 (keyL (pubN ks)))) ∧ Below w0.heap.size w0 w' := by
  refine enter_fr Tryz.func7 rfl Tryz.ntmps7 (by simp) fun ac (FF : Fr 6 ac [(0, .agg (cn .u8 ks))]) => ?_
  have MM := MemS.start w0
  refine wp_seq (rg_c FF MM [(0, s_ 0 (.cells (cn .u8 ks) 23)), (0, s_ 0 (.cells (cn .u8 (List.replicate 32 0)) 23))] 3 [] [0] (⟨(by kernel_rfl), fun bk => ⟨(by kernel_rfl), fun br => fun _ _ FF1 MM1 => then_n ?_⟩⟩))
  refine wp_seq (rg_c FF1 MM1 [(0, b_ 1), (0, t_ (.agg (cn .u8 nine32))), (0, t_ (.agg (cn .u8 (keyL (curveN ks nine32))))), (0, b_ 0)] 0 [2] [] (⟨rfl, ((cn_size _ _).trans hk.1), (Eq.trans (show _ = some (cn .u8 ([9, 0, 0, 0, 0, 0, 0, 0, 0, 0, 0, 0, 0, 0, 0, 0, 0, 0, 0, 0, 0, 0, 0, 0, 0, 0, 0, 0, 0, 0, 0, 0])) by kernel_rfl) (congrArg some (Value.agg.inj rfl))), (callP_of en_cmul (cmul_any ks nine32 ⟨hk.1, hk.2⟩ ⟨nine32_ok.1, nine32_ok.2⟩) _), rfl, ((cn_size _ _).trans (List.length_replicate ..)), ((cn_size _ _).trans (keyL_bytes (curveN ks nine32)).1), (cn_one _ _), rfl, fun _ _ FF2 MM2 => then_n ?_⟩))
  refine wp_ret ?_
  repeat first | refine then_ret ?_ | refine inb_ret ?_
  exact (retc FF2 MM2 (k := 32) (i := 0) (j := 0) Tryz.results7 rfl rfl Tryz.underlying23 rfl (by kernel_rfl) ((cn_size _ _).trans (keyL_bytes (curveN ks nine32)).1) ⟨rfl, MM2.below⟩)
set_option maxRecDepth 100000 in
theorem cshared_any (ks us : List Nat) (hk : KBytes ks) (hu : KBytes us) (w0 : World) :
    Calls Tryz.prog 22 #[.agg (cn .u8 ks), .agg (cn .u8 us)] w0 fun e w' => e = .returned (.tuple #[.agg (cn .u8 (keyL (curveN ks us))), iN (if curveN ks us = 0 then 2 else 0 : Nat)]) ∧ Below w0.heap.size w0 w' := by
  refine enter_fr Tryz.func22 rfl Tryz.ntmps22 (by simp) fun ac (FF : Fr 15 ac [(0, .agg (cn .u8 ks)), (1, .agg (cn .u8 us))]) => ?_
  have MM := MemS.start w0
  refine wp_seq (rg_c FF MM [(0, s_ 0 (.cells (cn .u8 ks) 23)), (0, s_ 0 (.cells (cn .u8 us) 23)), (0, s_ 0 (.cells (cn .u8 (List.replicate 32 0)) 23))] 6 [] [0, 1] (⟨(by kernel_rfl), fun bk => ⟨(by kernel_rfl), fun bu => ⟨(by kernel_rfl), fun br => fun _ _ FF1 MM1 => then_n ?_⟩⟩⟩))
  refine wp_seq (rg_c FF1 MM1 [(0, b_ 2), (0, b_ 1), (0, t_ (.agg (cn .u8 (keyL (curveN ks us))))), (0, s_ 0 (.cells (cn .u8 (List.replicate 32 0)) 23)), (0, b_ 0)] 7 [] [3, 2] (⟨rfl, ((cn_size _ _).trans hk.1), rfl, ((cn_size _ _).trans hu.1), (callP_of en_cmul (cmul_any ks us ⟨hk.1, hk.2⟩ ⟨hu.1, hu.2⟩) _), (by kernel_rfl), fun bs => ⟨rfl, ((cn_size _ _).trans (List.length_replicate ..)), ((cn_size _ _).trans (keyL_bytes (curveN ks us)).1), (cn_one _ _), rfl, fun _ _ FF2 MM2 => then_n ?_⟩⟩))
  refine wp_seq ?_
  by_cases hz : curveN ks us = 0
  · skip
    refine wp_seq (rg_c FF2 MM2 [(0, b_ 0), (0, t_ (.agg (cn .u8 zero32))), (0, f_ (.bool true))] 7 [12] [] (⟨rfl, ((cn_size _ _).trans (keyL_bytes (curveN ks us)).1), (Eq.trans (show _ = some (cn .u8 (List.replicate 32 0)) by kernel_rfl) (congrArg some (Value.agg.inj rfl))), (eqA_ok (t := 23) (t' := 23) (e := 5) (m := 32) (k := .u8) (x := (.tmp 10)) (y := (.tmp 11)) (by kernel_rfl) Tryz.underlying23 Tryz.underlying5 (by kernel_rfl) (by kernel_rfl) (by kernel_rfl) rfl rfl (keyL_bytes (curveN ks us)).1 zero32_ok.1 (decide_eq_true (by rw [hz]; exact keyL_zero))), fun _ _ FF3 MM3 => then_n ?_⟩))
    refine wp_cond_true (FF3.ev 0 rfl) ?_
    refine wp_seq (rg_c FF3 MM3 [(0, t_ (.agg (cn .u8 zero32))), (0, b_ 1)] 7 [] [] (⟨(Eq.trans (show _ = some (cn .u8 (List.replicate 32 0)) by kernel_rfl) (congrArg some (Value.agg.inj rfl))), rfl, ((cn_size _ _).trans (List.length_replicate ..)), ((cn_size _ _).trans zero32_ok.1), (cn_one _ _), rfl, fun _ _ FF4 MM4 => then_n ?_⟩))
    refine wp_ret ?_
    repeat first | refine then_ret ?_ | refine inb_ret ?_
    exact (ret_ct FF4 MM4 (k := 32) (i := 1) (j := 2) (m := 0) Tryz.results22 rfl rfl rfl Tryz.underlying23 rfl (by kernel_rfl) ((cn_size _ _).trans zero32_ok.1) ⟨by rw [if_pos hz, hz, keyL_zero], MM4.below⟩)
  · skip
    refine wp_seq (rg_c FF2 MM2 [(0, b_ 0), (0, t_ (.agg (cn .u8 zero32))), (0, f_ (.bool false))] 7 [12] [] (⟨rfl, ((cn_size _ _).trans (keyL_bytes (curveN ks us)).1), (Eq.trans (show _ = some (cn .u8 (List.replicate 32 0)) by kernel_rfl) (congrArg some (Value.agg.inj rfl))), (eqA_ok (t := 23) (t' := 23) (e := 5) (m := 32) (k := .u8) (x := (.tmp 10)) (y := (.tmp 11)) (by kernel_rfl) Tryz.underlying23 Tryz.underlying5 (by kernel_rfl) (by kernel_rfl) (by kernel_rfl) rfl rfl (keyL_bytes (curveN ks us)).1 zero32_ok.1 (decide_eq_false (keyL_ne (curveN_lt ks us) hz))), fun _ _ FF5 MM5 => then_n ?_⟩))
    refine wp_cond_false (FF5.ev 0 rfl) ?_
    refine wp_skip ?_
    refine then_n ?_
    refine wp_seq (rg_c FF5 MM5 [(0, b_ 0), (0, b_ 1)] 7 [] [] (⟨rfl, ((cn_size _ _).trans (keyL_bytes (curveN ks us)).1), rfl, ((cn_size _ _).trans (List.length_replicate ..)), ((cn_size _ _).trans (keyL_bytes (curveN ks us)).1), (cn_one _ _), rfl, fun _ _ FF6 MM6 => then_n ?_⟩))
    refine wp_ret ?_
    repeat first | refine then_ret ?_ | refine inb_ret ?_
    exact (ret_ct FF6 MM6 (k := 32) (i := 1) (j := 2) (m := 0) Tryz.results22 rfl rfl rfl Tryz.underlying23 rfl (by kernel_rfl) ((cn_size _ _).trans (keyL_bytes (curveN ks us)).1) ⟨by rw [if_neg hz], MM6.below⟩)
end Go.Proofs.YtdjpacgjhcidpabGreatDoor
namespace Go.Proofs.YtdjpacgjhcidpabGreatDoor
def le8 (X : List Nat) : Nat := X.getD 0 0 + X.getD 1 0 * 256 + X.getD 2 0 * 65536 + X.getD 3 0 * 16777216 + X.getD 4 0 * 4294967296 + X.getD 5 0 * 1099511627776 + X.getD 6 0 * 281474976710656 + X.getD 7 0 * 72057594037927936
theorem le8_lt (X : List Nat) (hX : ∀ i, X.getD i 0 < 256) : le8 X < 18446744073709551616 := by
  have h0 := hX 0; have h1 := hX 1; have h2 := hX 2; have h3 := hX 3; have h4 := hX 4; have h5 := hX 5; have h6 := hX 6; have h7 := hX 7
  unfold le8; omega
theorem mul32 {x y : Nat} (hx : x < 4294967296) (hy : y < 4294967296) : x * y ≤ 18446744065119617025 := by
  have := Nat.mul_le_mul (Nat.le_of_lt_succ hx) (Nat.le_of_lt_succ hy)
  omega
theorem mul64_eq (x y : Nat) : x * y = x / 4294967296 * (y / 4294967296) * 18446744073709551616 + (x / 4294967296 * (y % 4294967296) + x % 4294967296 * (y / 4294967296)) * 4294967296 + x % 4294967296 * (y % 4294967296) := by
  have hx := Nat.div_add_mod x 4294967296
  have hy := Nat.div_add_mod y 4294967296
  generalize x / 4294967296 = a at *
  generalize x % 4294967296 = b at *
  generalize y / 4294967296 = c at *
  generalize y % 4294967296 = d at *
  rw [← hx, ← hy]
  grind
theorem mul64_hi {x y : Nat} (hx : x < 18446744073709551616) (hy : y < 18446744073709551616) :
    x / 4294967296 * (y / 4294967296) + (x / 4294967296 * (y % 4294967296) + x % 4294967296 * (y % 4294967296) / 4294967296) / 4294967296 + ((x / 4294967296 * (y % 4294967296) + x % 4294967296 * (y % 4294967296) / 4294967296) % 4294967296 + x % 4294967296 * (y / 4294967296)) / 4294967296 = x * y / 18446744073709551616 ∧
    x * y / 18446744073709551616 < 18446744073709551616 := by
  have e := mul64_eq x y
  have h1 := mul32 (x := x / 4294967296) (y := y / 4294967296) (by omega) (by omega)
  have h2 := mul32 (x := x / 4294967296) (y := y % 4294967296) (by omega) (by omega)
  have h3 := mul32 (x := x % 4294967296) (y := y / 4294967296) (by omega) (by omega)
  have h4 := mul32 (x := x % 4294967296) (y := y % 4294967296) (by omega) (by omega)
  rw [e]
  generalize x / 4294967296 * (y / 4294967296) = p at *
  generalize x / 4294967296 * (y % 4294967296) = q at *
  generalize x % 4294967296 * (y / 4294967296) = r at *
  generalize x % 4294967296 * (y % 4294967296) = s at *
  clear e hx hy
  constructor <;> omega
theorem mul64_le {x y : Nat} (hx : x < 18446744073709551616) (hy : y < 18446744073709551616) : x * y ≤ 340282366920938463426481119284349108225 := by
  have := Nat.mul_le_mul (Nat.le_of_lt_succ hx) (Nat.le_of_lt_succ hy)
  omega
/-- What is beyond 2^130 comes back 5 times. -/
def foldN (N : Nat) : Nat := N % 1361129467683753853853498429727072845824 + 5 * (N / 1361129467683753853853498429727072845824)
theorem py_times_words (p00 p01 p02 p10 p11 p12 : Nat) (h00 : p00 ≤ 21267647932558653966460912964485513216) (h01 : p01 ≤ 21267647932558653966460912964485513216) (h10 : p10 ≤ 21267647932558653966460912964485513216) (h11 : p11 ≤ 21267647932558653966460912964485513216) (h02 : p02 ≤ 6917529027641081856) (h12 : p12 ≤ 6917529027641081856) :
    p02 + (p01 + p00 / 18446744073709551616) / 18446744073709551616 < 18446744073709551616 ∧ p12 + (p11 + (p02 + (p01 + p00 / 18446744073709551616) / 18446744073709551616) + ((p10 + ((p01 + p00 / 18446744073709551616) % 18446744073709551616)) / 18446744073709551616)) / 18446744073709551616 < 9223372036854775808 ∧
    p00 % 18446744073709551616 + (p10 + ((p01 + p00 / 18446744073709551616) % 18446744073709551616)) % 18446744073709551616 * 18446744073709551616 + (p11 + (p02 + (p01 + p00 / 18446744073709551616) / 18446744073709551616) + ((p10 + ((p01 + p00 / 18446744073709551616) % 18446744073709551616)) / 18446744073709551616)) % 18446744073709551616 * 340282366920938463463374607431768211456 + (p12 + (p11 + (p02 + (p01 + p00 / 18446744073709551616) / 18446744073709551616) + ((p10 + ((p01 + p00 / 18446744073709551616) % 18446744073709551616)) / 18446744073709551616)) / 18446744073709551616) * 6277101735386680763835789423207666416102355444464034512896 = p00 + (p01 + p10) * 18446744073709551616 + (p02 + p11) * 340282366920938463463374607431768211456 + p12 * 6277101735386680763835789423207666416102355444464034512896 := by
  refine ⟨?_, ?_, ?_⟩ <;> omega
theorem fold_words (a b c d : Nat) (ha : a < 18446744073709551616) (hb : b < 18446744073709551616) (hc : c < 18446744073709551616) (hd : d < 9223372036854775808) :
    (5 * (c / 4 + d % 4 * 4611686018427387904) + a) % 18446744073709551616 = foldN (a + b * 18446744073709551616 + c * 340282366920938463463374607431768211456 + d * 6277101735386680763835789423207666416102355444464034512896) % 18446744073709551616 ∧
    (5 * (d / 4) + b + (5 * (c / 4 + d % 4 * 4611686018427387904) + a) / 18446744073709551616) % 18446744073709551616 = foldN (a + b * 18446744073709551616 + c * 340282366920938463463374607431768211456 + d * 6277101735386680763835789423207666416102355444464034512896) / 18446744073709551616 % 18446744073709551616 ∧
    c % 4 + (5 * (d / 4) + b + (5 * (c / 4 + d % 4 * 4611686018427387904) + a) / 18446744073709551616) / 18446744073709551616 = foldN (a + b * 18446744073709551616 + c * 340282366920938463463374607431768211456 + d * 6277101735386680763835789423207666416102355444464034512896) / 340282366920938463463374607431768211456 % 18446744073709551616 := by
  have e : foldN (a + b * 18446744073709551616 + c * 340282366920938463463374607431768211456 + d * 6277101735386680763835789423207666416102355444464034512896) = a + b * 18446744073709551616 + c % 4 * 340282366920938463463374607431768211456 + 5 * (c / 4 + d * 4611686018427387904) := by unfold foldN; omega
  rw [e]
  have e2 : a + b * 18446744073709551616 + c % 4 * 340282366920938463463374607431768211456 + 5 * (c / 4 + d * 4611686018427387904) = (5 * (c / 4 + d % 4 * 4611686018427387904) + a) % 18446744073709551616 + ((5 * (d / 4) + b + (5 * (c / 4 + d % 4 * 4611686018427387904) + a) / 18446744073709551616) % 18446744073709551616) * 18446744073709551616 + (c % 4 + (5 * (d / 4) + b + (5 * (c / 4 + d % 4 * 4611686018427387904) + a) / 18446744073709551616) / 18446744073709551616) * 340282366920938463463374607431768211456 := by omega
  rw [e2]
  have h1 : (5 * (c / 4 + d % 4 * 4611686018427387904) + a) % 18446744073709551616 < 18446744073709551616 := Nat.mod_lt _ (by decide)
  have h2 : (5 * (d / 4) + b + (5 * (c / 4 + d % 4 * 4611686018427387904) + a) / 18446744073709551616) % 18446744073709551616 < 18446744073709551616 := Nat.mod_lt _ (by decide)
  have h3 : c % 4 + (5 * (d / 4) + b + (5 * (c / 4 + d % 4 * 4611686018427387904) + a) / 18446744073709551616) / 18446744073709551616 < 18446744073709551616 := by omega
  generalize (5 * (c / 4 + d % 4 * 4611686018427387904) + a) % 18446744073709551616 = x at *
  generalize (5 * (d / 4) + b + (5 * (c / 4 + d % 4 * 4611686018427387904) + a) / 18446744073709551616) % 18446744073709551616 = y at *
  generalize c % 4 + (5 * (d / 4) + b + (5 * (c / 4 + d % 4 * 4611686018427387904) + a) / 18446744073709551616) / 18446744073709551616 = z at *
  clear e e2
  refine ⟨?_, ?_, ?_⟩ <;> omega
/-- Three words of a number. -/
theorem py_plus_words (x0 x1 x2 y0 y1 y2 : Nat) (M N : Nat) (h0 : x0 = M % 18446744073709551616) (h1 : x1 = M / 18446744073709551616 % 18446744073709551616) (h2 : x2 = M / 340282366920938463463374607431768211456 % 18446744073709551616) (k0 : y0 = N % 18446744073709551616) (k1 : y1 = N / 18446744073709551616 % 18446744073709551616) (k2 : y2 = N / 340282366920938463463374607431768211456 % 18446744073709551616) :
    (x0 + y0) % 18446744073709551616 = (M + N) % 18446744073709551616 ∧ (x1 + y1 + (x0 + y0) / 18446744073709551616) % 18446744073709551616 = (M + N) / 18446744073709551616 % 18446744073709551616 ∧ (x2 + y2 + (x1 + y1 + (x0 + y0) / 18446744073709551616) / 18446744073709551616) % 18446744073709551616 = (M + N) / 340282366920938463463374607431768211456 % 18446744073709551616 := by
  have e : ∀ n : Nat, n / 340282366920938463463374607431768211456 = n / 18446744073709551616 / 18446744073709551616 := fun n => by rw [Nat.div_div_eq_div_mul]
  rw [e] at h2 k2 ⊢
  refine ⟨by omega, by omega, by omega⟩
theorem ch0 (x z : Nat) : x ^^^ (0 &&& z) = x := by simp
theorem ch1 {x y : Nat} (hx : x < 18446744073709551616) (hy : y < 18446744073709551616) : x ^^^ (18446744073709551615 &&& (x ^^^ y)) = y := by
  have h : x ^^^ y < 2 ^ 64 := Nat.xor_lt_two_pow hx hy
  have e : 18446744073709551615 &&& (x ^^^ y) = x ^^^ y := by
    rw [Nat.and_comm]
    exact (Nat.and_two_pow_sub_one_eq_mod _ 64).trans (Nat.mod_eq_of_lt h)
  rw [e, ← Nat.xor_assoc, Nat.xor_self, Nat.zero_xor]
theorem xor64 {x y : Nat} (hx : x < 18446744073709551616) (hy : y < 18446744073709551616) : x ^^^ y < 18446744073709551616 := Nat.xor_lt_two_pow (n := 64) hx hy
theorem and64 {x y : Nat} (hx : x < 18446744073709551616) : x &&& y < 18446744073709551616 := Nat.lt_of_le_of_lt Nat.and_le_left hx
def tagTo (N i : Nat) : List Nat := (List.range 16).map fun j => if j % 8 < i then N / 256 ^ j % 256 else 0
theorem tagTo_len (N i : Nat) : (tagTo N i).length = 16 := by simp [tagTo]
theorem tagTo_get (N i : Nat) {j : Nat} (h : j < 16) : (tagTo N i).getD j 0 = if j % 8 < i then N / 256 ^ j % 256 else 0 := by simp [tagTo, h]
theorem tagTo_zero (N : Nat) : List.replicate 16 0 = tagTo N 0 := by
  refine ext_getD (by simp [tagTo]) fun i hi => ?_
  simp only [List.length_replicate] at hi
  rw [tagTo_get N 0 hi, if_neg (by omega), List.getD_eq_getElem?_getD, List.getElem?_replicate, if_pos hi]
  rfl
theorem tagTo_all (N : Nat) : tagTo N 8 = leB 16 N := by
  refine ext_getD (by simp [tagTo, leB]) fun i hi => ?_
  rw [tagTo_len] at hi
  rw [tagTo_get N 8 hi, leB_get hi, if_pos (by omega)]
theorem byte_lo (N i : Nat) (h : i < 8) : N % 18446744073709551616 / 2 ^ (8 * i) % 256 = N / 256 ^ i % 256 := by
  have : i = 0 ∨ i = 1 ∨ i = 2 ∨ i = 3 ∨ i = 4 ∨ i = 5 ∨ i = 6 ∨ i = 7 := by omega
  rcases this with rfl | rfl | rfl | rfl | rfl | rfl | rfl | rfl <;> simp <;> omega
theorem byte_hi (N i : Nat) (h : i < 8) : N / 18446744073709551616 % 18446744073709551616 / 2 ^ (8 * i) % 256 = N / 256 ^ (i + 8) % 256 := by
  rw [byte_lo _ i h, Nat.div_div_eq_div_mul, Nat.pow_add, Nat.mul_comm (256 ^ i)]
theorem tagTo_step (N i : Nat) (h : i < 8) : ((tagTo N i).set i (N % 18446744073709551616 / 2 ^ (8 * i) % 256)).set (i + 8) (N / 18446744073709551616 % 18446744073709551616 / 2 ^ (8 * i) % 256) = tagTo N (i + 1) := by
  rw [byte_lo N i h, byte_hi N i h]
  refine ext_getD (by simp [tagTo]) fun j hj => ?_
  simp only [List.length_set, tagTo_len] at hj
  rw [getD_set, getD_set, tagTo_get N i hj, tagTo_get N (i + 1) hj]
  simp only [List.length_set, tagTo_len]
  by_cases e : i + 8 = j
  · subst e; rw [if_pos (by omega), if_pos (by omega)]
  · rw [if_neg (by omega)]
    by_cases e2 : i = j
    · subst e2; rw [if_pos (by omega), if_pos (by omega)]
    · rw [if_neg (by omega)]
      by_cases e3 : j % 8 < i
      · rw [if_pos e3, if_pos (by omega)]
      · rw [if_neg e3, if_neg (by omega)]
end Go.Proofs.YtdjpacgjhcidpabGreatDoor
namespace Go.Proofs.YtdjpacgjhcidpabGreatDoor
theorem le8_leV (A : List Nat) (h : A.length = 8) : le8 A = leV A := by
  match A, h with
  | [a, b, c, d, e, f, g, i], _ => simp [le8, leV]; omega
/-- A block's number: its bytes and a byte 1 behind them. -/
def numR (R : List Nat) : Nat := leV (R ++ [1])
def padR (R : List Nat) : List Nat := R ++ List.replicate (17 - R.length) 0
theorem padR_len {R : List Nat} (h : R.length ≤ 16) : (padR R).length = 17 := by simp [padR]; omega
theorem padR_lt {R : List Nat} (h : ∀ i, R.getD i 0 < 256) : ∀ i, (padR R).getD i 0 < 256 := pad_lt R h _
theorem padR_set {R : List Nat} (h : R.length ≤ 16) : (padR R).set R.length 1 = R ++ [1] ++ List.replicate (16 - R.length) 0 := by
  have : 17 - R.length = (16 - R.length) + 1 := by omega
  rw [padR, this, List.replicate_succ, List.set_append_right _ _ (Nat.le_refl _), Nat.sub_self, List.set_cons_zero]
  simp
theorem num_words {R : List Nat} (h : R.length ≤ 16) (hR : ∀ i, R.getD i 0 < 256) :
    le8 ((((padR R).set R.length 1).drop 0).take 8) = numR R % 18446744073709551616 ∧
    le8 ((((padR R).set R.length 1).drop 8).take 8) = numR R / 18446744073709551616 % 18446744073709551616 ∧
    ((padR R).set R.length 1).getD 16 0 = numR R / 340282366920938463463374607431768211456 % 18446744073709551616 := by
  have hY : ((padR R).set R.length 1).length = 17 := by rw [List.length_set, padR_len h]
  have hb : ∀ i, ((padR R).set R.length 1).getD i 0 < 256 := fun i => by
    rw [getD_set]
    split
    · decide
    · exact padR_lt hR i
  have hV : leV ((padR R).set R.length 1) = numR R := by
    rw [padR_set h, leV_app (R ++ [1]), leV_zeros, Nat.mul_zero, Nat.add_zero]; rfl
  generalize (padR R).set R.length 1 = Y at *
  have l1 : (Y.take 8).length = 8 := by simp; omega
  have l2 : ((Y.drop 8).take 8).length = 8 := by simp; omega
  have s1 : Y = Y.take 8 ++ ((Y.drop 8).take 8 ++ Y.drop 16) := by
    rw [← List.append_assoc]
    have : Y.take 8 ++ (Y.drop 8).take 8 = Y.take 16 := by rw [← List.take_add]
    rw [this, List.take_append_drop]
  have e3 : leV (Y.drop 16) = Y.getD 16 0 := by
    have : Y.drop 16 = [Y.getD 16 0] := by
      refine List.ext_getElem (by simp; omega) fun i h1 h2 => ?_
      simp at h2
      subst h2
      simp [hY]
    rw [this]; simp [leV]
  have hv : numR R = leV (Y.take 8) + 18446744073709551616 * (leV ((Y.drop 8).take 8) + 18446744073709551616 * Y.getD 16 0) := by
    rw [← hV]
    conv => lhs; rw [s1]
    rw [leV_app, leV_app, l1, l2, e3]
  have b1 : leV (Y.take 8) < 18446744073709551616 := by
    have := leV_lt (Y.take 8) (fun i => by have := cut_lt Y hb 8 0 i; simpa using this)
    rwa [l1] at this
  have b2 : leV ((Y.drop 8).take 8) < 18446744073709551616 := by
    have := leV_lt ((Y.drop 8).take 8) (fun i => by
      simp only [List.getD_eq_getElem?_getD, List.getElem?_take, List.getElem?_drop]
      split
      · have := hb (8 + i); rwa [List.getD_eq_getElem?_getD] at this
      · decide)
    rwa [l2] at this
  have b3 := hb 16
  rw [List.drop_zero, le8_leV _ l1, le8_leV _ l2, hv]
  generalize leV (Y.take 8) = a at *
  generalize leV ((Y.drop 8).take 8) = b at *
  generalize Y.getD 16 0 = c at *
  clear hv hV s1
  refine ⟨by omega, by omega, by omega⟩
theorem numR_lt {R : List Nat} (h : R.length ≤ 16) (hR : ∀ i, R.getD i 0 < 256) : numR R < 680564733841876926926749214863536422912 := by
  unfold numR
  rw [leV_app]
  have h1 := leV_lt R hR
  have h2 : 256 ^ R.length ≤ 256 ^ 16 := Nat.pow_le_pow_right (by decide) h
  simp only [leV]
  omega
/-- h behind k blocks of 16 bytes. -/
def hK (r : Nat) (T : List Nat) : Nat → Nat
  | 0 => 0
  | k + 1 => foldN ((hK r T k + numR ((T.drop (16 * k)).take 16)) * r)
def remT (T : List Nat) : List Nat := T.drop (16 * (T.length / 16))
def hT (r : Nat) (T : List Nat) : Nat := hK r T (T.length / 16)
def hAll (r : Nat) (T : List Nat) : Nat := if 0 < (remT T).length then foldN ((hT r T + numR (remT T)) * r) else hT r T
theorem remT_len (T : List Nat) : (remT T).length = T.length % 16 := by simp [remT]; omega
theorem remT_lt {T : List Nat} (h : ∀ i, T.getD i 0 < 256) (i : Nat) : (remT T).getD i 0 < 256 := by
  simp only [remT, List.getD_eq_getElem?_getD, List.getElem?_drop]
  have := h (16 * (T.length / 16) + i); rwa [List.getD_eq_getElem?_getD] at this
theorem hK_app (r : Nat) (T Z : List Nat) : ∀ k, 16 * k ≤ T.length → hK r (T ++ Z) k = hK r T k
  | 0, _ => rfl
  | k + 1, h => by
    have : ((T ++ Z).drop (16 * k)).take 16 = (T.drop (16 * k)).take 16 := by
      rw [List.drop_append_of_le_length (by omega), List.take_append_of_le_length (by simp; omega)]
    rw [hK, hK, this, hK_app r T Z k (by omega)]
theorem foldN_lt {x r : Nat} (hx : x < 2381976568446569244243622252022377480192) (hr : r < 21267647932558653966460912964485513216) : foldN (x * r) < 1701411834604692317316873037158841057280 := by
  have : x * r ≤ 2381976568446569244243622252022377480192 * 21267647932558653966460912964485513216 := Nat.mul_le_mul (Nat.le_of_lt hx) (Nat.le_of_lt hr)
  unfold foldN
  omega
theorem hK_lt {r : Nat} (hr : r < 21267647932558653966460912964485513216) {T : List Nat} (hT : ∀ i, T.getD i 0 < 256) : ∀ k, hK r T k < 1701411834604692317316873037158841057280
  | 0 => by show 0 < _; decide
  | k + 1 => by
    have ih := hK_lt hr hT k
    have hn := numR_lt (R := (T.drop (16 * k)).take 16) (by simp; omega) (fun i => by
      simp only [List.getD_eq_getElem?_getD, List.getElem?_take, List.getElem?_drop]
      split
      · have := hT (16 * k + i); rwa [List.getD_eq_getElem?_getD] at this
      · decide)
    exact foldN_lt (by omega) hr
/-- A piece more: within a block. -/
theorem step_in (r : Nat) (T Z : List Nat) (h : (remT T ++ Z).length < 16) : hT r (T ++ Z) = hT r T ∧ remT (T ++ Z) = remT T ++ Z := by
  rw [List.length_append, remT_len] at h
  have e : (T ++ Z).length / 16 = T.length / 16 := by rw [List.length_append]; omega
  refine ⟨by rw [hT, e, hK_app r T Z _ (by omega)]; rfl, ?_⟩
  rw [remT, e, List.drop_append_of_le_length (by omega)]; rfl
/-- A piece more: a block is full. -/
theorem step_full (r : Nat) (T Z : List Nat) (h : (remT T ++ Z).length = 16) : hT r (T ++ Z) = foldN ((hT r T + numR (remT T ++ Z)) * r) ∧ remT (T ++ Z) = [] := by
  rw [List.length_append, remT_len] at h
  have e : (T ++ Z).length / 16 = T.length / 16 + 1 := by rw [List.length_append]; omega
  refine ⟨?_, ?_⟩
  · rw [hT, e, hK, hK_app r T Z _ (by omega)]
    have : ((T ++ Z).drop (16 * (T.length / 16))).take 16 = remT T ++ Z := by
      rw [List.drop_append_of_le_length (by omega)]
      exact List.take_of_length_le (by rw [List.length_append]; change (remT T).length + _ ≤ 16; rw [remT_len]; omega)
    rw [this]; rfl
  · rw [remT, e]
    exact List.drop_eq_nil_of_le (by rw [List.length_append]; omega)
def fac0 (K : List Nat) : Nat := le8 ((K.drop 0).take 8) &&& 1152921487695413247
def fac1 (K : List Nat) : Nat := le8 ((K.drop 8).take 8) &&& 1152921487695413244
def rOf (K : List Nat) : Nat := fac0 K + fac1 K * 18446744073709551616
def sOf (K : List Nat) : Nat := le8 ((K.drop 16).take 8) + le8 ((K.drop 24).take 8) * 18446744073709551616
theorem fac0_lt (K : List Nat) : fac0 K < 1152921504606846976 := Nat.lt_of_le_of_lt Nat.and_le_right (by decide)
theorem fac1_lt (K : List Nat) : fac1 K < 1152921504606846976 := Nat.lt_of_le_of_lt Nat.and_le_right (by decide)
theorem rOf_lt (K : List Nat) : rOf K < 21267647932558653966460912964485513216 := by
  have := fac0_lt K; have := fac1_lt K; unfold rOf; omega
theorem hAll_lt {K T : List Nat} (hT' : ∀ i, T.getD i 0 < 256) : hAll (rOf K) T < 2722258935367507707706996859454145691638 := by
  unfold hAll
  have h1 := hK_lt (rOf_lt K) hT' (T.length / 16)
  split
  · have hn := numR_lt (R := remT T) (by rw [remT_len]; omega) (remT_lt hT')
    have := foldN_lt (x := hT (rOf K) T + numR (remT T)) (by unfold hT; omega) (rOf_lt K)
    omega
  · unfold hT; omega
/-- The tag. -/
def polyN (K T : List Nat) : List Nat := tagTo (hAll (rOf K) T % 1361129467683753853853498429727072845819 + sOf K) 8
end Go.Proofs.YtdjpacgjhcidpabGreatDoor
namespace Go.Proofs.YtdjpacgjhcidpabGreatDoor
theorem poly_leB (K T : List Nat) : polyN K T = leB 16 (hAll (rOf K) T % 1361129467683753853853498429727072845819 + sOf K) := by unfold polyN; rw [tagTo_all]
end Go.Proofs.YtdjpacgjhcidpabGreatDoor
namespace Go.Proofs.YtdjpacgjhcidpabGreatDoor
def q3 (i : Nat) : Bool := decide (i % 4 = 3)
def q0 (i : Nat) : Bool := decide (i % 4 = 0 ∧ i ≠ 0)
end Go.Proofs.YtdjpacgjhcidpabGreatDoor
