/- Several texts in one: Numbers of ChaCha20. No program in this text. Numbers of layer 5: texts, sealed. What is taken from a tape. No program in this text. Maps: what one holds, as a list; made, asked, written, counted. Books: what is shared, what is noted, boxes. No program in this text. Calls that turn several blocks; rows that a walk owns, read for a while. Package tape: what is taken. ChaCha20: turns, the quarter round, words, what is laid. ChaCha20: the rounds. ChaCha20: a block. ChaCha20: bytes turned by a block. ChaCha20: the mask. -/
import Derived.Test.YtniplfjnpjihoaaZ2
import Derived.Test.YtniplfjnpjihoaaZ3
import Derived.DeepKeys5
import Derived.OrdersHeld
import Derived.Laws.Small
namespace Go.Proofs.Ytniplfjnpjihoaa
open Go.RowKit
def rN (m d x : Nat) : Nat := (x * m % 4294967296) ||| (x / d)
theorem rN_lt (m d x : Nat) (hx : x < 4294967296) : rN m d x < 4294967296 :=
  Nat.or_lt_two_pow (n := 32) (Nat.mod_lt _ (by decide)) (Nat.lt_of_le_of_lt (Nat.div_le_self _ _) hx)
theorem xor_lt {a b : Nat} (ha : a < 4294967296) (hb : b < 4294967296) : a ^^^ b < 4294967296 := Nat.xor_lt_two_pow (n := 32) ha hb
structure Four where
  a : Nat
  b : Nat
  c : Nat
  d : Nat
/-- The quarter round. -/
def q4 (a b c d : Nat) : Four :=
  let a1 := (a + b) % 4294967296
  let d1 := rN 65536 65536 (d ^^^ a1)
  let c1 := (c + d1) % 4294967296
  let b1 := rN 4096 1048576 (b ^^^ c1)
  let a2 := (a1 + b1) % 4294967296
  let d2 := rN 256 16777216 (d1 ^^^ a2)
  let c2 := (c1 + d2) % 4294967296
  let b2 := rN 128 33554432 (b1 ^^^ c2)
  ⟨a2, b2, c2, d2⟩
theorem q4_lt {a b c d : Nat} (hb : b < 4294967296) (hd : d < 4294967296) :
    (q4 a b c d).a < 4294967296 ∧ (q4 a b c d).b < 4294967296 ∧ (q4 a b c d).c < 4294967296 ∧ (q4 a b c d).d < 4294967296 := by
  have m : ∀ x, x % 4294967296 < 4294967296 := fun x => Nat.mod_lt _ (by decide)
  exact ⟨m _, rN_lt _ _ _ (xor_lt (rN_lt _ _ _ (xor_lt hb (m _))) (m _)), m _, rN_lt _ _ _ (xor_lt (rN_lt _ _ _ (xor_lt hd (m _))) (m _))⟩
/-- A row of words. -/
structure Words (l : List Nat) : Prop where
  len : l.length = 16
  lt : ∀ i, l.getD i 0 < 4294967296
theorem Words.set {l : List Nat} (h : Words l) (i : Nat) {x : Nat} (hx : x < 4294967296) : Words (l.set i x) :=
  ⟨by simp [h.len], fun j => by rw [getD_set]; split; exact hx; exact h.lt j⟩
/-- The quarter round at four places. -/
def qAt (l : List Nat) (a b c d : Nat) : List Nat :=
  let q := q4 (l.getD a 0) (l.getD b 0) (l.getD c 0) (l.getD d 0)
  (((l.set a q.a).set b q.b).set c q.c).set d q.d
theorem Words.qAt {l : List Nat} (h : Words l) (a b c d : Nat) : Words (qAt l a b c d) := by
  obtain ⟨h1, h2, h3, h4⟩ := q4_lt (a := l.getD a 0) (c := l.getD c 0) (h.lt b) (h.lt d)
  exact (((h.set a h1).set b h2).set c h3).set d h4
def dbl (l : List Nat) : List Nat :=
  qAt (qAt (qAt (qAt (qAt (qAt (qAt (qAt l 0 4 8 12) 1 5 9 13) 2 6 10 14) 3 7 11 15) 0 5 10 15) 1 6 11 12) 2 7 8 13) 3 4 9 14
theorem Words.dbl {l : List Nat} (h : Words l) : Words (dbl l) :=
  (((((((h.qAt 0 4 8 12).qAt 1 5 9 13).qAt 2 6 10 14).qAt 3 7 11 15).qAt 0 5 10 15).qAt 1 6 11 12).qAt 2 7 8 13).qAt 3 4 9 14
def dblN (l : List Nat) : Nat → List Nat
  | 0 => l
  | n + 1 => dbl (dblN l n)
theorem Words.dblN {l : List Nat} (h : Words l) : ∀ n, Words (dblN l n)
  | 0 => h
  | n + 1 => (Words.dblN h n).dbl
/-- A word of four bytes. -/
def cwd (a b c d : Nat) : Nat := a + 256 * b + 65536 * c + 16777216 * d
theorem cwd_lt {a b c d : Nat} (ha : a < 256) (hb : b < 256) (hc : c < 256) (hd : d < 256) : cwd a b c d < 4294967296 := by unfold cwd; omega
def cwdAt (l : List Nat) (i : Nat) : Nat := cwd (l.getD (4 * i) 0) (l.getD (4 * i + 1) 0) (l.getD (4 * i + 2) 0) (l.getD (4 * i + 3) 0)
/-- The words ahead of the rounds. -/
def laid (ks : List Nat) (c : Nat) (ns : List Nat) : List Nat :=
  [1634760805, 857760878, 2036477234, 1797285236, cwdAt ks 0, cwdAt ks 1, cwdAt ks 2, cwdAt ks 3, cwdAt ks 4, cwdAt ks 5, cwdAt ks 6, cwdAt ks 7, c, cwdAt ns 0, cwdAt ns 1, cwdAt ns 2]
theorem Bytes.cwd {n : Nat} {l : List Nat} (h : Bytes n l) (i : Nat) : cwdAt l i < 4294967296 := cwd_lt (h.lt _) (h.lt _) (h.lt _) (h.lt _)
theorem laid_words {ks ns : List Nat} {c : Nat} (hk : Bytes 32 ks) (hc : c < 4294967296) (hn : Bytes 12 ns) : Words (laid ks c ns) := by
  refine ⟨rfl, fun i => ?_⟩
  match i with
  | 0 => show 1634760805 < _; decide
  | 1 => show 857760878 < _; decide
  | 2 => show 2036477234 < _; decide
  | 3 => show 1797285236 < _; decide
  | 4 => exact hk.cwd 0
  | 5 => exact hk.cwd 1
  | 6 => exact hk.cwd 2
  | 7 => exact hk.cwd 3
  | 8 => exact hk.cwd 4
  | 9 => exact hk.cwd 5
  | 10 => exact hk.cwd 6
  | 11 => exact hk.cwd 7
  | 12 => exact hc
  | 13 => exact hn.cwd 0
  | 14 => exact hn.cwd 1
  | 15 => exact hn.cwd 2
  | _ + 16 => show 0 < _; decide
/-- Words of bytes, one behind the other, laid from place p on. -/
def setTo (p : Nat) (s : List Nat) (l : List Nat) : Nat → List Nat
  | 0 => l
  | n + 1 => (setTo p s l n).set (p + n) (cwdAt s n)
theorem setTo_len (p : Nat) (s l : List Nat) : ∀ n, (setTo p s l n).length = l.length
  | 0 => rfl
  | n + 1 => by simp [setTo, setTo_len p s l n]
def lay0 (c : Nat) : List Nat := [1634760805, 857760878, 2036477234, 1797285236, 0, 0, 0, 0, 0, 0, 0, 0, c, 0, 0, 0]
/-- The bytes of a block. -/
def sumW (s t : List Nat) (i : Nat) : Nat := (s.getD i 0 + t.getD i 0) % 4294967296
def byteW (s t : List Nat) (j : Nat) : Nat := sumW s t (j / 4) / 256 ^ (j % 4) % 256
def blockW (l : List Nat) : List Nat := (List.range 64).map (byteW (dblN l 10) l)
def blockN (ks : List Nat) (c : Nat) (ns : List Nat) : List Nat := blockW (laid ks c ns)
theorem blockW_len (l : List Nat) : (blockW l).length = 64 := by simp [blockW]
theorem blockW_get (l : List Nat) (j : Nat) (hj : j < 64) : (blockW l).getD j 0 = byteW (dblN l 10) l j := by
  simp [blockW, hj]
theorem blockW_lt (l : List Nat) (j : Nat) : (blockW l).getD j 0 < 256 := by
  rcases Nat.lt_or_ge j 64 with hj | hj
  · rw [blockW_get l j hj]; exact Nat.mod_lt _ (by decide)
  · rw [List.getD_eq_getElem?_getD, List.getElem?_eq_none (by rw [blockW_len]; exact hj)]; decide
/-- A block's bytes, word by word. -/
def bset (s l : List Nat) : Nat → List Nat
  | 0 => List.replicate 64 0
  | n + 1 => ((((bset s l n).set (4 * n) (sumW s l n % 256)).set (4 * n + 1) (sumW s l n / 256 % 256)).set (4 * n + 2) (sumW s l n / 65536 % 256)).set (4 * n + 3) (sumW s l n / 16777216 % 256)
theorem bset_len (s l : List Nat) : ∀ n, (bset s l n).length = 64
  | 0 => List.length_replicate
  | n + 1 => by simp [bset, bset_len s l n]
theorem bset_get (s l : List Nat) : ∀ n, n ≤ 16 → ∀ j, j < 64 → (bset s l n).getD j 0 = if j < 4 * n then byteW s l j else 0
  | 0, _, j, h => by rw [if_neg (by omega)]; simp only [bset, List.getD_eq_getElem?_getD, List.getElem?_replicate, if_pos h, Option.getD_some]
  | n + 1, hn, j, h => by
    have ih := bset_get s l n (by omega) j h
    simp only [bset, getD_set, List.length_set, bset_len]
    unfold byteW
    by_cases e3 : 4 * n + 3 = j
    · rw [if_pos ⟨e3, by omega⟩, if_pos (by omega), show j / 4 = n by omega, show j % 4 = 3 by omega]
    rw [if_neg (fun x => e3 x.1)]
    by_cases e2 : 4 * n + 2 = j
    · rw [if_pos ⟨e2, by omega⟩, if_pos (by omega), show j / 4 = n by omega, show j % 4 = 2 by omega]
    rw [if_neg (fun x => e2 x.1)]
    by_cases e1 : 4 * n + 1 = j
    · rw [if_pos ⟨e1, by omega⟩, if_pos (by omega), show j / 4 = n by omega, show j % 4 = 1 by omega]
    rw [if_neg (fun x => e1 x.1)]
    by_cases e0 : 4 * n = j
    · rw [if_pos ⟨e0, by omega⟩, if_pos (by omega), show j / 4 = n by omega, show j % 4 = 0 by omega, Nat.pow_zero, Nat.div_one]
    rw [if_neg (fun x => e0 x.1), ih]
    by_cases hj : j < 4 * n
    · rw [if_pos hj, if_pos (by omega)]; rfl
    · rw [if_neg hj, if_neg (by omega)]
theorem bset_all (l : List Nat) : bset (dblN l 10) l 16 = blockW l := by
  refine ext_getD (by rw [bset_len, blockW_len]) fun i h => ?_
  rw [bset_len] at h
  rw [bset_get _ _ _ (Nat.le_refl _) i h, if_pos (by omega), blockW_get l i h]
/-- Bytes, turned by others, from place o on. -/
def xorTo (X : List Nat) (o : Nat) (B : List Nat) : Nat → List Nat
  | 0 => X
  | n + 1 => (xorTo X o B n).set (o + n) (X.getD (o + n) 0 ^^^ B.getD n 0)
theorem xorTo_len (X : List Nat) (o : Nat) (B : List Nat) : ∀ n, (xorTo X o B n).length = X.length
  | 0 => rfl
  | n + 1 => by simp [xorTo, xorTo_len X o B n]
theorem xorTo_get (X : List Nat) (o : Nat) (B : List Nat) (j : Nat) : ∀ n, o + n ≤ X.length → (xorTo X o B n).getD j 0 = if o ≤ j ∧ j < o + n then X.getD j 0 ^^^ B.getD (j - o) 0 else X.getD j 0
  | 0, _ => by rw [if_neg (by omega)]; rfl
  | n + 1, h => by
    simp only [xorTo, getD_set, xorTo_len, xorTo_get X o B j n (by omega)]
    by_cases e : o + n = j
    · rw [if_pos ⟨e, by omega⟩, if_pos (by omega), e, show j - o = n by omega]
    · rw [if_neg (fun x => e x.1)]
      by_cases h2 : o ≤ j ∧ j < o + n
      · rw [if_pos h2, if_pos (by omega)]
      · rw [if_neg h2, if_neg (by omega)]
/-- The mask. -/
def maskN (ks : List Nat) (c : Nat) (ns : List Nat) (t : List Nat) : List Nat :=
  (List.range t.length).map fun i => t.getD i 0 ^^^ (blockN ks ((c + i / 64) % 4294967296) ns).getD (i % 64) 0
theorem maskN_len (ks : List Nat) (c : Nat) (ns t : List Nat) : (maskN ks c ns t).length = t.length := by simp [maskN]
theorem maskN_get (ks : List Nat) (c : Nat) (ns t : List Nat) (i : Nat) (h : i < t.length) : (maskN ks c ns t).getD i 0 = t.getD i 0 ^^^ (blockN ks ((c + i / 64) % 4294967296) ns).getD (i % 64) 0 := by
  simp [maskN, h]
theorem maskN_twice (ks : List Nat) (c : Nat) (ns t : List Nat) : maskN ks c ns (maskN ks c ns t) = t := by
  refine ext_getD (by simp [maskN_len]) fun i h => ?_
  rw [maskN_len, maskN_len] at h
  rw [maskN_get _ _ _ _ _ (by rw [maskN_len]; exact h), maskN_get _ _ _ _ _ h, Nat.xor_assoc, Nat.xor_self, Nat.xor_zero]
/-- The mask, block by block. -/
def mTo (ks : List Nat) (c : Nat) (ns : List Nat) (X : List Nat) (N : Nat) : Nat → List Nat
  | 0 => X
  | k + 1 => xorTo (mTo ks c ns X N k) (min (64 * k) N) (blockN ks ((c + k) % 4294967296) ns) (min 64 (N - min (64 * k) N))
theorem mTo_len (ks : List Nat) (c : Nat) (ns X : List Nat) (N : Nat) : ∀ k, (mTo ks c ns X N k).length = X.length
  | 0 => rfl
  | k + 1 => by rw [mTo, xorTo_len, mTo_len ks c ns X N k]
theorem mTo_get (ks : List Nat) (c : Nat) (ns X : List Nat) (N : Nat) (hN : N ≤ X.length) (j : Nat) : ∀ k, (mTo ks c ns X N k).getD j 0 = if j < min (64 * k) N then X.getD j 0 ^^^ (blockN ks ((c + j / 64) % 4294967296) ns).getD (j % 64) 0 else X.getD j 0
  | 0 => by rw [if_neg (by omega)]; rfl
  | k + 1 => by
    have ih := mTo_get ks c ns X N hN j k
    rw [mTo, xorTo_get _ _ _ _ _ (by rw [mTo_len]; omega), ih]
    clear ih
    rcases Nat.le_total (64 * k) N with hk | hk
    · rw [Nat.min_eq_left hk]
      obtain ⟨r, hr⟩ : ∃ r, N - 64 * k = r := ⟨_, rfl⟩
      rw [hr]
      by_cases h : 64 * k ≤ j ∧ j < 64 * k + min 64 r
      · rw [if_pos h, if_neg (show ¬ j < 64 * k by omega), if_pos (show j < min (64 * (k + 1)) N by omega), show j / 64 = k by omega, show j - 64 * k = j % 64 by omega]
      · rw [if_neg h]
        by_cases h2 : j < 64 * k
        · rw [if_pos h2, if_pos (by omega)]
        · rw [if_neg h2, if_neg (by omega)]
    · rw [Nat.min_eq_right hk, Nat.sub_self, Nat.min_zero, if_neg (by omega), Nat.min_eq_right (by omega)]
theorem mTo_lt (ks : List Nat) (c : Nat) (ns X : List Nat) (N : Nat) (hN : N ≤ X.length) (hX : ∀ i, X.getD i 0 < 256) (k j : Nat) : (mTo ks c ns X N k).getD j 0 < 256 := by
  rw [mTo_get ks c ns X N hN j k]
  split
  · exact xor_lt8 (hX j) (blockW_lt _ _)
  · exact hX j
theorem mTo_all (ks : List Nat) (c : Nat) (ns X Z : List Nat) (k : Nat) (hk : X.length ≤ 64 * k) : (mTo ks c ns (X ++ Z) X.length k).take X.length = maskN ks c ns X := by
  refine ext_getD (by simp [mTo_len, maskN_len]) fun i h => ?_
  simp only [List.length_take, mTo_len, List.length_append] at h
  have e : ((mTo ks c ns (X ++ Z) X.length k).take X.length).getD i 0 = (mTo ks c ns (X ++ Z) X.length k).getD i 0 := by
    simp [show i < X.length by omega]
  rw [e, mTo_get _ _ _ _ _ (by simp) i k, if_pos (by omega), maskN_get _ _ _ _ _ (by omega), getD_app_l _ _ _ (by omega)]
theorem maskN_lt (ks : List Nat) (c : Nat) (ns t : List Nat) (ht : ∀ i, t.getD i 0 < 256) (i : Nat) : (maskN ks c ns t).getD i 0 < 256 := by
  rcases Nat.lt_or_ge i t.length with h | h
  · rw [maskN_get _ _ _ _ _ h]; exact xor_lt8 (ht i) (blockW_lt _ _)
  · rw [List.getD_eq_getElem?_getD, List.getElem?_eq_none (by rw [maskN_len]; exact h)]; decide
/-- A word's four bytes. -/
def quad (l : List Nat) (i : Nat) : List Nat := [l.getD (4 * i) 0, l.getD (4 * i + 1) 0, l.getD (4 * i + 2) 0, l.getD (4 * i + 3) 0]
theorem quad_lt {l : List Nat} (h : ∀ i, l.getD i 0 < 256) (i : Nat) : ∀ j, (quad l i).getD j 0 < 256
  | 0 => h _
  | 1 => h _
  | 2 => h _
  | 3 => h _
  | _ + 4 => (by decide : (0 : Nat) < 256)
theorem quad_part {l : List Nat} {i : Nat} (h : 4 * i + 4 ≤ l.length) : PartAt (cn .u8 l) (4 * i) (cn .u8 (quad l i)) := fun j v hj => by
  match j with
  | 0 => rw [cn_get _ _ _ (show 0 < (quad l i).length from (by decide : 0 < 4))] at hj; cases hj; exact cn_get .u8 l (4 * i + 0) (by omega)
  | 1 => rw [cn_get _ _ _ (show 1 < (quad l i).length from (by decide : 1 < 4))] at hj; cases hj; exact cn_get .u8 l (4 * i + 1) (by omega)
  | 2 => rw [cn_get _ _ _ (show 2 < (quad l i).length from (by decide : 2 < 4))] at hj; cases hj; exact cn_get .u8 l (4 * i + 2) (by omega)
  | 3 => rw [cn_get _ _ _ (show 3 < (quad l i).length from (by decide : 3 < 4))] at hj; cases hj; exact cn_get .u8 l (4 * i + 3) (by omega)
  | j + 4 => rw [Array.getElem?_eq_none (by rw [cn_size]; simp [quad])] at hj; cases hj
def cwdL (X : List Nat) : Nat := cwd (X.getD 0 0) (X.getD 1 0) (X.getD 2 0) (X.getD 3 0)
theorem cwdL_or {X : List Nat} (h : ∀ i, X.getD i 0 < 256) : X.getD 0 0 + X.getD 1 0 * 256 + X.getD 2 0 * 65536 ||| X.getD 3 0 * 16777216 = cwdL X := by
  have h1 := h 0
  have h2 := h 1
  have h3 := h 2
  rw [cwdL, cwd]
  have := or_shl (a := X.getD 0 0 + X.getD 1 0 * 256 + X.getD 2 0 * 65536) (b := X.getD 3 0) 24 (by omega)
  rw [show (2 : Nat) ^ 24 = 16777216 from rfl] at this
  omega
theorem setTo_len16 (p c : Nat) (s : List Nat) (n : Nat) : (setTo p s (lay0 c) n).length = 16 := (setTo_len p s _ n).trans rfl
end Go.Proofs.Ytniplfjnpjihoaa
namespace Go.Proofs.Ytniplfjnpjihoaa
open Go.RowKit
/-- The noughts that are missing to a multiple of 16. -/
def missN (X : List Nat) : List Nat := List.replicate ((16 - X.length % 16) % 16) 0
theorem missN_lt (X : List Nat) (i : Nat) : (missN X).getD i 0 < 256 := rep0_lt (by decide) i
def tagT (E C : List Nat) : List Nat := E ++ missN E ++ (C ++ missN C) ++ leB 8 E.length ++ leB 8 C.length
theorem tagT_flat (E C : List Nat) : [E, missN E, C, missN C, leB 8 E.length, leB 8 C.length].flatten = tagT E C := by simp [tagT]
/-- The key that a tag is made with. -/
def onceN (K N : List Nat) : List Nat := (blockN K 0 N).take 32
theorem onceN_bytes (K N : List Nat) : Bytes 32 (onceN K N) := ⟨by simp [onceN, blockN, blockW_len], fun i => take_lt (blockW_lt _) i⟩
def tagA (K N E C : List Nat) : List Nat := polyN (onceN K N) (tagT E C)
theorem tagA_len (K N E C : List Nat) : (tagA K N E C).length = 16 := tagTo_len _ _
theorem tagA_lt (K N E C : List Nat) (i : Nat) : (tagA K N E C).getD i 0 < 256 := by rw [tagA, poly_leB]; exact leB_lt 16 _ i
/-- Sealed. -/
def sealN (K N E X : List Nat) : List Nat := maskN K 1 N X ++ tagA K N E (maskN K 1 N X)
theorem sealN_len (K N E X : List Nat) : (sealN K N E X).length = X.length + 16 := by simp [sealN, maskN_len, tagA_len]
theorem sealN_lt (K N E : List Nat) {X : List Nat} (hX : ∀ i, X.getD i 0 < 256) (i : Nat) : (sealN K N E X).getD i 0 < 256 := app_lt (maskN_lt K 1 N X hX) (tagA_lt K N E _) i
/-- What opens, and to what. -/
def opensN (K N E Z : List Nat) : Prop := 16 ≤ Z.length ∧ Z.drop (Z.length - 16) = tagA K N E (Z.take (Z.length - 16))
def plainN (K N Z : List Nat) : List Nat := maskN K 1 N (Z.take (Z.length - 16))
theorem seal_opens (K N E X : List Nat) : opensN K N E (sealN K N E X) ∧ plainN K N (sealN K N E X) = X := by
  have h1 : (sealN K N E X).length - 16 = (maskN K 1 N X).length := by rw [sealN_len, maskN_len]; omega
  refine ⟨⟨by rw [sealN_len]; omega, ?_⟩, ?_⟩
  · rw [h1, sealN, List.drop_left, List.take_left]
  · rw [plainN, h1, sealN, List.take_left, maskN_twice]
theorem noughts_cut {k : Nat} (h : k ≤ 15) : (([0, 0, 0, 0, 0, 0, 0, 0, 0, 0, 0, 0, 0, 0, 0] : List Nat).take k).drop 0 = List.replicate k 0 := by
  rw [List.drop_zero, show ([0, 0, 0, 0, 0, 0, 0, 0, 0, 0, 0, 0, 0, 0, 0] : List Nat) = List.replicate 15 0 from rfl, List.take_replicate, Nat.min_eq_left h]
theorem gen_leB8 (n v : Nat) : genL n (fun i => v / 256 ^ i % 256) n = leB n v := by
  refine ext_getD (by rw [genL_len, leB_len]) fun i hi => ?_
  rw [genL_len] at hi
  rw [genL_get _ _ _ hi, if_pos hi, leB_get hi]
end Go.Proofs.Ytniplfjnpjihoaa
namespace Go.Proofs.Ytniplfjnpjihoaa
open Go.RowKit
theorem rep_get (n k : Nat) : (List.replicate n 0).getD k 0 = 0 := by rw [List.getD_eq_getElem?_getD, List.getElem?_replicate]; split <;> rfl
theorem one_has {w : World} {g : Nat} {ob : Obj} (h : w.heap[g]? = some ob) : Has w [(g, ob)] := fun i x hx => by
  cases i with
  | zero => simp at hx; subst hx; exact h
  | succ i => simp at hx
theorem MemS.fresh {w0 w : World} {L : Blks} {R : List Row} (M : MemS (fun k => k < w0.heap.size) w0 w L R) (i : Nat) {b : Nat} {ob : Obj} (h : L[i]? = some (b, ob)) : w0.heap.size ≤ b := Nat.le_of_not_lt (M.base i _ h)
/-- The next n bytes of a tape: its own, then noughts. -/
def takN (n : Nat) (X : List Nat) : List Nat := X.take n ++ List.replicate (n - X.length) 0
theorem takN_len (n : Nat) (X : List Nat) : (takN n X).length = n := by simp [takN]; omega
theorem takN_get {n i : Nat} (X : List Nat) (h : i < n) : (takN n X).getD i 0 = X.getD i 0 := by
  rw [takN]
  rcases Nat.lt_or_ge i X.length with h1 | h1
  · rw [getD_app_l _ _ _ (by simp; omega), List.getD_eq_getElem?_getD, List.getElem?_take, if_pos h, List.getD_eq_getElem?_getD]
  · rw [getD_app_r _ _ _ (by simp; omega), rep_get, getD_out h1]
theorem takN_lt {X : List Nat} (hX : ∀ i, X.getD i 0 < 256) (n : Nat) : ∀ i, (takN n X).getD i 0 < 256 := fun i => by
  rcases Nat.lt_or_ge i n with h | h
  · rw [takN_get X h]; exact hX i
  · rw [getD_out (by rw [takN_len]; exact h)]; decide
theorem dropX_min (X : List Nat) (n : Nat) : X.drop (min X.length n) = X.drop n := by
  rcases Nat.le_total X.length n with h | h
  · rw [Nat.min_eq_left h, List.drop_length, List.drop_of_length_le h]
  · rw [Nat.min_eq_right h]
theorem tak_cells (n : Nat) (X : List Nat) : setFrom (cn .u8 (List.replicate n 0)) 0 (bcells (X.take n)) = cn .u8 (takN n X) := by
  apply Array.ext_getElem?
  intro j
  rw [setFrom_get]
  have hb : (bcells (X.take n)).length = min n X.length := by simp [bcells]
  rcases Nat.lt_or_ge j n with h | h
  · rw [show (cn .u8 (takN n X))[j]? = some (iB (X.getD j 0)) by rw [cn_get _ _ _ (by rw [takN_len]; exact h), takN_get X h]]
    by_cases h1 : j < X.length
    · rw [if_pos ⟨Nat.zero_le _, by rw [hb]; omega, by rw [cn_size, List.length_replicate]; exact h⟩]
      simp [bcells, h, List.getD_eq_getElem?_getD, List.getElem?_eq_getElem h1]
    · rw [if_neg (fun q => by have := q.2.1; rw [hb] at this; omega), cn_get _ _ _ (by rw [List.length_replicate]; exact h), rep_get, getD_out (by omega)]
  · rw [if_neg (fun q => by have := q.2.2; rw [cn_size, List.length_replicate] at this; omega), Array.getElem?_eq_none (by rw [cn_size, List.length_replicate]; exact h), Array.getElem?_eq_none (by rw [cn_size, takN_len]; exact h)]
end Go.Proofs.Ytniplfjnpjihoaa
namespace Go.Proofs.Ytniplfjnpjihoaa
open Go.RowKit
section
variable {K V : Type}
/-- A map's entries: the one at place i was born i-th. -/
def ents (kf : K → Value) (vf : V → Value) : Nat → List (K × V) → List MapEntry
  | _, [] => []
  | i, p :: r => ⟨kf p.1, vf p.2, i⟩ :: ents kf vf (i + 1) r
def mapO (kf : K → Value) (vf : V → Value) (l : List (K × V)) : Obj := .map (ents kf vf 0 l).toArray l.length
def mget [DecidableEq K] (x : K) : List (K × V) → Option V
  | [] => none
  | p :: r => if p.1 = x then some p.2 else mget x r
def mput [DecidableEq K] (x : K) (v : V) : List (K × V) → List (K × V)
  | [] => [(x, v)]
  | p :: r => if p.1 = x then (x, v) :: r else p :: mput x v r
def Uniq (l : List (K × V)) : Prop := l.Pairwise fun p q => p.1 ≠ q.1
variable {kf : K → Value} {vf : V → Value}
theorem ents_get : ∀ (l : List (K × V)) (i j : Nat), (ents kf vf i l)[j]? = (l[j]?).map fun p => ⟨kf p.1, vf p.2, i + j⟩
  | [], _, _ => by simp [ents]
  | p :: r, i, 0 => by simp [ents]
  | p :: r, i, j + 1 => by
    simp only [ents, List.getElem?_cons_succ]
    rw [ents_get r (i + 1) j, Nat.add_right_comm, Nat.add_assoc]
theorem ents_app : ∀ (l : List (K × V)) (i : Nat) (p : K × V), ents kf vf i (l ++ [p]) = ents kf vf i l ++ [⟨kf p.1, vf p.2, i + l.length⟩]
  | [], i, p => by simp [ents]
  | q :: r, i, p => by
    simp only [List.cons_append, ents]
    rw [ents_app r (i + 1) p, List.length_cons, Nat.add_right_comm, Nat.add_assoc]
theorem ents_set (x : K) (v : V) : ∀ (l : List (K × V)) (i j : Nat), j < l.length → ents kf vf i (l.set j (x, v)) = (ents kf vf i l).set j ⟨kf x, vf v, i + j⟩
  | [], _, _, h => by simp at h
  | q :: r, i, 0, _ => by simp [ents]
  | q :: r, i, j + 1, h => by
    simp only [List.set_cons_succ, ents]
    rw [ents_set x v r (i + 1) j (by simpa using h), Nat.add_right_comm, Nat.add_assoc]
theorem makeMap_ok {P : Program} {t : TypeId} {sl : Slots} {L : Blks} {o : Oper} (ho : o.op = .makeMap t none) : RunN P sl L o (mkOf (.map none)) (mapO kf vf []) := fun ρ w A _ => by
  simp [execOp, ho, run_makeMap, mkOf, mapO, ents]
variable [DecidableEq K]
theorem mget_put (x : K) (v : V) : ∀ l : List (K × V), mget x (mput x v l) = some v
  | [] => by simp [mput, mget]
  | p :: r => by
    unfold mput
    split
    · simp [mget]
    · rename_i h
      rw [mget, if_neg h, mget_put x v r]
theorem mput_new {x : K} (v : V) : ∀ {l : List (K × V)}, mget x l = none → mput x v l = l ++ [(x, v)]
  | [], _ => rfl
  | p :: r, h => by
    rw [mget] at h
    split at h
    · cases h
    · rename_i e
      rw [mput, if_neg e, mput_new v h, List.cons_append]
theorem mget_mem {x : K} {v : V} : ∀ {l : List (K × V)}, mget x l = some v → (x, v) ∈ l
  | [], h => by cases h
  | p :: r, h => by
    rw [mget] at h
    split at h
    · rename_i e
      rw [← e, ← Option.some.inj h]
      exact List.mem_cons_self ..
    · exact List.mem_cons_of_mem _ (mget_mem h)
theorem mget_none {x : K} : ∀ {l : List (K × V)}, (∀ p ∈ l, p.1 ≠ x) → mget x l = none
  | [], _ => rfl
  | p :: r, h => by rw [mget, if_neg (h p (List.mem_cons_self ..)), mget_none fun q hq => h q (List.mem_cons_of_mem _ hq)]
/-- Where keys are unlike the one at place j is found, and turned there. -/
theorem mget_at {x : K} {v : V} : ∀ {l : List (K × V)} {j : Nat}, Uniq l → l[j]? = some (x, v) → mget x l = some v ∧ ∀ u, mput x u l = l.set j (x, u)
  | [], _, _, h => by simp at h
  | p :: r, 0, _, h => by
    simp only [List.getElem?_cons_zero, Option.some.injEq] at h
    subst h
    exact ⟨by rw [mget, if_pos rfl], fun u => by rw [mput, if_pos rfl, List.set_cons_zero]⟩
  | p :: r, j + 1, hu, h => by
    obtain ⟨h1, h2⟩ := List.pairwise_cons.1 hu
    simp only [List.getElem?_cons_succ] at h
    have hne : p.1 ≠ x := h1 (x, v) (List.mem_of_getElem? h)
    obtain ⟨a, b⟩ := mget_at h2 h
    exact ⟨by rw [mget, if_neg hne, a], fun u => by rw [mput, if_neg hne, b, List.set_cons_succ]⟩
theorem mem_mput {x : K} {v : V} {p : K × V} : ∀ {l : List (K × V)}, p ∈ mput x v l → p = (x, v) ∨ p ∈ l
  | [], h => by simpa [mput] using h
  | q :: r, h => by
    unfold mput at h
    split at h
    · rcases List.mem_cons.1 h with h | h
      · exact .inl h
      · exact .inr (List.mem_cons_of_mem _ h)
    · rcases List.mem_cons.1 h with h | h
      · exact .inr (h ▸ List.mem_cons_self ..)
      · exact (mem_mput h).imp_right (List.mem_cons_of_mem _)
theorem Uniq.put {l : List (K × V)} (h : Uniq l) (x : K) (v : V) : Uniq (mput x v l) := by
  induction l with
  | nil => simp [mput, Uniq]
  | cons p r ih =>
    obtain ⟨h1, h2⟩ := List.pairwise_cons.1 h
    unfold mput
    split
    · rename_i e
      exact List.pairwise_cons.2 ⟨fun q hq => by rw [← e]; exact h1 q hq, h2⟩
    · rename_i e
      refine List.pairwise_cons.2 ⟨fun q hq => ?_, ih h2⟩
      rcases mem_mput hq with rfl | hq
      · exact e
      · exact h1 q hq
/-- Keys that may be: what the program takes for one is one. -/
structure MKey (P : Program) (k : TypeId) (kf : K → Value) (Ok : K → Prop) : Prop where
  law : WideMaps.KeyLaw P k
  lit : ∀ x, Ok x → ∃ l, keyOf P k (kf x) = some l
  inj : ∀ x y, Ok x → Ok y → kf x = kf y → x = y
variable {P : Program} {k t e : TypeId} {Ok : K → Prop} {l : List (K × V)} {x : K}
theorem find_ents (H : MKey P k kf Ok) (hl : ∀ p ∈ l, Ok p.1) (hu : Uniq l) (hx : Ok x) (w : World) :
    (mget x l = none ∧ (Instr.findKey k (kf x) (ents kf vf 0 l)).run P w = .ok none w) ∨ ∃ v j, mget x l = some v ∧ l[j]? = some (x, v) ∧ (∀ u, mput x u l = l.set j (x, u)) ∧ (Instr.findKey k (kf x) (ents kf vf 0 l)).run P w = .ok (some (j, vf v)) w := by
  obtain ⟨lx, hlx⟩ := H.lit x hx
  rcases H.law.find w hlx (ents kf vf 0 l) (fun m hm => by
    obtain ⟨j, hj⟩ := List.mem_iff_getElem?.1 hm
    rw [ents_get] at hj
    obtain ⟨p, hp, rfl⟩ := Option.map_eq_some_iff.1 hj
    exact H.lit p.1 (hl p (List.mem_of_getElem? hp))) with ⟨h1, h2⟩ | ⟨j, m, h1, h2, h3⟩
  · refine .inl ⟨mget_none fun p hp hpx => ?_, h1⟩
    obtain ⟨j, hj⟩ := List.mem_iff_getElem?.1 hp
    exact h2 ⟨kf p.1, vf p.2, 0 + j⟩ (List.mem_of_getElem? ((ents_get l 0 j).trans (by rw [hj]; rfl))) (by rw [hpx])
  · rw [ents_get] at h2
    obtain ⟨p, hp, rfl⟩ := Option.map_eq_some_iff.1 h2
    obtain rfl := H.inj p.1 x (hl p (List.mem_of_getElem? hp)) hx h3
    have := mget_at hu hp
    exact .inr ⟨p.2, j, this.1, hp, this.2, h1⟩
variable {sl : Slots} {L : Blks} {o : Oper} {m y : Operand} {b i : Nat}
/-- 'v, ok := m[k]' of a key that is there. -/
theorem mapYes_ok {c : Bool} {v : V} (ho : o.op = .lookup t m y c) (hm : evO sl m = some (.map (some b))) (hy : evO sl y = some (kf x)) (ht : P.underlying t = some (.map k e)) (H : MKey P k kf Ok) (hl : ∀ p ∈ l, Ok p.1) (hu : Uniq l) (hx : Ok x)
    (hL : L[i]? = some (b, mapO kf vf l)) (h : mget x l = some v) : RunV P sl L o (if c then .tuple #[vf v, .bool true] else vf v) := fun ρ w A Hw => by
  obtain ⟨lx, hlx⟩ := H.lit x hx
  have h1 := A m _ hm
  have h2 := A y _ hy
  have hb : w.heap[b]? = some (.map (ents kf vf 0 l).toArray l.length) := Hw i _ hL
  rcases find_ents (vf := vf) H hl hu hx w with ⟨q, _⟩ | ⟨u, j, q, _, _, hf⟩
  · rw [h] at q; cases q
  · rw [h] at q
    obtain rfl := Option.some.inj q
    simp [execOp, ho, h1, h2, Instr.lookup, run_underlying ht, MapKept.run_getObj_map hb, H.law.check w _ hlx, hf, Result.andThen]
theorem zero_run {P : Program} {e : TypeId} {z : Value} (hi : (P.info? e).map (·.zero) = some (some z)) (w : World) : (zeroValue e).run P w = .ok z w := by
  obtain ⟨i, h1, h2⟩ := Option.map_eq_some_iff.1 hi
  simp [zeroValue, run_typeInfo w h1, h2]
/-- .. of one that is not. -/
theorem mapNo_ok {c : Bool} {z : Value} (ho : o.op = .lookup t m y c) (hm : evO sl m = some (.map (some b))) (hy : evO sl y = some (kf x)) (ht : P.underlying t = some (.map k e)) (H : MKey P k kf Ok) (hl : ∀ p ∈ l, Ok p.1) (hu : Uniq l) (hx : Ok x)
    (hL : L[i]? = some (b, mapO kf vf l)) (hi : (P.info? e).map (·.zero) = some (some z)) (h : mget x l = none) : RunV P sl L o (if c then .tuple #[z, .bool false] else z) := fun ρ w A Hw => by
  obtain ⟨lx, hlx⟩ := H.lit x hx
  have h1 := A m _ hm
  have h2 := A y _ hy
  have hb : w.heap[b]? = some (.map (ents kf vf 0 l).toArray l.length) := Hw i _ hL
  rcases find_ents (vf := vf) H hl hu hx w with ⟨_, hf⟩ | ⟨u, j, q, _, _, hf⟩
  · simp [execOp, ho, h1, h2, Instr.lookup, run_underlying ht, MapKept.run_getObj_map hb, H.law.check w _ hlx, hf, zero_run hi, Result.andThen]
  · rw [h] at q; cases q
theorem post_block {ob ob' : Obj} {w : World} {v : Nat → Value} (hL : L[i]? = some (b, ob)) (hb : w.heap[b]? = some ob) : Post w (ChangeMaps.setBlock w b ob') L ⟨v, none, [(i, ob')]⟩ 0 := by
  refine ⟨rfl, rfl, rfl, by simp [ChangeMaps.setBlock], fun j _ hn => ?_, fun o h => (nomatch h), fun _ => rfl, fun u hu z hz => ?_⟩
  · have : b ≠ j := hn (i, ob') (by simp) _ hL
    simp only [ChangeMaps.setBlock]
    exact Array.getElem?_setIfInBounds_ne this
  · obtain rfl : u = (i, ob') := by simpa using hu
    simp only at hz
    rw [hL] at hz
    obtain rfl := Option.some.inj hz
    simp only [ChangeMaps.setBlock]
    rw [Array.getElem?_setIfInBounds, if_pos rfl, if_pos (lt_of_block hb)]
/-- 'm[k] = v'. -/
theorem mapPut_ok {v : V} {z : Operand} (ho : o.op = .mapUpdate t m y z) (hm : evO sl m = some (.map (some b))) (hy : evO sl y = some (kf x)) (hz : evO sl z = some (vf v)) (ht : P.underlying t = some (.map k e)) (H : MKey P k kf Ok) (hl : ∀ p ∈ l, Ok p.1) (hu : Uniq l) (hx : Ok x)
    (hL : L[i]? = some (b, mapO kf vf l)) : RunU P sl L o undef [(i, mapO kf vf (mput x v l))] := fun ρ w A Hw => by
  obtain ⟨lx, hlx⟩ := H.lit x hx
  have h1 := A m _ hm
  have h2 := A y _ hy
  have h3 := A z _ hz
  have hb : w.heap[b]? = some (.map (ents kf vf 0 l).toArray l.length) := Hw i _ hL
  refine ⟨ChangeMaps.setBlock w b (mapO kf vf (mput x v l)), .inr ⟨rfl, ?_⟩, post_block hL hb⟩
  rcases find_ents (vf := vf) H hl hu hx w with ⟨q, hf⟩ | ⟨u, j, q, hj, hp, hf⟩
  · rw [mput_new v q]
    simp [execOp, ho, h1, h2, h3, Instr.mapUpdate, run_underlying ht, MapKept.run_getObj_map hb, H.law.check w _ hlx, hf, MapKept.run_setObj_map _ hb, Result.andThen, ChangeMaps.setBlock, mapO, ents_app]
  · have hjl : j < l.length := (List.getElem?_eq_some_iff.1 hj).1
    have hje : (ents kf vf 0 l)[j]? = some ⟨kf x, vf u, 0 + j⟩ := (ents_get l 0 j).trans (by rw [hj]; rfl)
    have hm' : (ents kf vf 0 l).modify j (fun e' => { e' with key := kf x, val := vf v }) = ents kf vf 0 (mput x v l) := by
      rw [ChangeMaps.modify_eq_set _ _ _ _ hje, hp, ents_set x v l 0 j hjl]
    simp [execOp, ho, h1, h2, h3, Instr.mapUpdate, run_underlying ht, MapKept.run_getObj_map hb, H.law.check w _ hlx, hf, hje, H.law.stays w hlx, MapKept.run_setObj_map _ hb, Result.andThen, ChangeMaps.setBlock, mapO, hm']
    rw [hp, List.length_set]
end
section
variable {P : Program} {d k e f n m : Nat}
theorem mapM_all {α β : Type} {g : α → Option β} : ∀ {l : List α}, (∀ x ∈ l, ∃ y, g x = some y) → ∃ ys, l.mapM g = some ys
  | [], _ => ⟨[], rfl⟩
  | x :: r, h => by
    obtain ⟨y, hy⟩ := h x (List.mem_cons_self ..)
    obtain ⟨ys, hys⟩ := mapM_all fun z hz => h z (List.mem_cons_of_mem _ hz)
    exact ⟨y :: ys, by simp [List.mapM_cons, hy, hys]⟩
def BytesK (n : Nat) (X : List Nat) : Prop := X.length = n ∧ ∀ i, X.getD i 0 < 256
theorem lits_u8 (he : P.underlying e = some (.int .u8)) {x : Nat} (hx : x < 256) : P.keyLits (d + 1) e [.int .u8 (x : Nat)] = some [.int .u8 (x : Nat)] := by
  unfold Program.keyLits
  rw [he]
  refine if_pos ⟨rfl, ?_⟩
  rw [Lit.wf, Bool.and_eq_true, decide_eq_true_eq, decide_eq_true_eq]
  exact ⟨by show (0 : Int) ≤ x; omega, by show (x : Int) ≤ 255; omega⟩
theorem lits_str (he : P.underlying e = some .string) {X : List Nat} (hX : X.length ≤ maxLen) : ∃ l, P.keyLits (d + 1) e [.string (bs X)] = some l := by
  unfold Program.keyLits
  rw [he]
  exact ⟨_, if_pos (by rw [bs_size]; exact hX)⟩
theorem lits_bytes {X : List Nat} (ht : P.underlying k = some (.array n e)) (he : P.underlying e = some (.int .u8)) (h1 : P.cellsOf e = 1) (hn : P.cellsOf k = n) (hX : BytesK n X) : ∃ l, P.keyLits (d + 2) k (cn .u8 X).toList = some l := by
  have hl : (cn .u8 X).toList.length = n := by rw [Array.length_toList, cn_size]; exact hX.1
  obtain ⟨ys, hys⟩ := mapM_all (g := fun i => P.keyLits (d + 1) e (((cn .u8 X).toList.drop (i * 1)).take 1)) (l := List.range n) fun i hi => by
    have hi' : i < X.length := by have := List.mem_range.1 hi; have := hX.1; omega
    have e1 : ((cn .u8 X).toList.drop (i * 1)).take 1 = [.int .u8 (X.getD i 0 : Nat)] := by
      rw [Nat.mul_one]
      refine List.ext_getElem? fun j => ?_
      rw [List.getElem?_take]
      split
      · obtain rfl : j = 0 := by omega
        rw [List.getElem?_drop, Nat.add_zero, Array.getElem?_toList, cn_get _ _ _ hi']
        rfl
      · rw [List.getElem?_eq_none (by simp only [List.length_cons, List.length_nil]; omega)]
    exact ⟨_, by rw [e1]; exact lits_u8 he (hX.2 i)⟩
  refine ⟨ys.flatten, ?_⟩
  unfold Program.keyLits
  rw [ht]
  dsimp only
  rw [if_pos (by rw [hl, hn]), h1, hys]
  rfl
theorem bytes_key (hl : laidOutB P = true) (hs : P.types.size + 2 ≤ 10000) (hd : P.types.size = d + 1) (hr : k < P.types.size) (hk : P.keyType k = true) (ht : P.underlying k = some (.array n e)) (he : P.underlying e = some (.int .u8)) (h1 : P.cellsOf e = 1) (hn : P.cellsOf k = n) :
    MKey P k (fun X => .agg (cn .u8 X)) (BytesK n) where
  law := deep_law_gate hl hs hr hk (by rw [ht])
  lit X hX := by
    obtain ⟨l, h⟩ := lits_bytes (d := d) ht he h1 hn hX
    exact ⟨_, by simp only [keyOf, ht, hk, Value.formed, Value.cells, cn_size, hX.1, hn, hd, h, BEq.rfl, Bool.and_self, if_true, Option.map_some]; rfl⟩
  inj X Y hX hY h := by
    refine List.ext_getElem (hX.1.trans hY.1.symm) fun i h1 h2 => ?_
    have e1 := cn_get .u8 X i h1
    rw [Value.agg.inj h, cn_get .u8 Y i h2] at e1
    have e2 := Int.ofNat.inj (Value.int.inj (Option.some.inj e1)).2
    rw [List.getD_eq_getElem?_getD, List.getD_eq_getElem?_getD, List.getElem?_eq_getElem h1, List.getElem?_eq_getElem h2] at e2
    exact e2.symm
end
end Go.Proofs.Ytniplfjnpjihoaa
namespace Go.Proofs.Ytniplfjnpjihoaa
open Go.RowKit
abbrev Pairs := List (List Nat × List Nat)
def OkP (n : Nat) (ks : Pairs) : Prop := (∀ p ∈ ks, BytesK n p.1 ∧ BytesK n p.2) ∧ Uniq ks
theorem okP_nil (n : Nat) : OkP n [] := ⟨fun _ h => (nomatch h), List.Pairwise.nil⟩
/-- What stands for a key. -/
def ownN (K : List Nat) (ks : Pairs) : List Nat := (mget K ks).getD K
theorem own_ok {n : Nat} {ks : Pairs} {K : List Nat} (hk : OkP n ks) (hK : BytesK n K) : BytesK n (ownN K ks) := by
  unfold ownN
  cases h : mget K ks with
  | none => exact hK
  | some v => exact (hk.1 _ (mget_mem h)).2
/-- What is shared behind a Share, what is left of the tape, how much was taken. -/
def shareK (i : Bool) (n : Nat) (K : List Nat) (ks : Pairs) (Y : List Nat) : Pairs := match mget K ks with | some _ => ks | none => ks ++ [(K, if i then takN n Y else K)]
def shareU (i : Bool) (n : Nat) (K : List Nat) (ks : Pairs) : Nat := match mget K ks with | some _ => 0 | none => if i then n else 0
theorem share_yes {i : Bool} {n : Nat} {K own : List Nat} {ks : Pairs} (h : mget K ks = some own) (Y : List Nat) : shareK i n K ks Y = ks ∧ shareU i n K ks = 0 := by
  unfold shareK shareU
  rw [h]
  exact ⟨rfl, rfl⟩
theorem share_no {i : Bool} {n : Nat} {K : List Nat} {ks : Pairs} (h : mget K ks = none) (Y : List Nat) : shareK i n K ks Y = ks ++ [(K, if i then takN n Y else K)] ∧ shareU i n K ks = if i then n else 0 := by
  unfold shareK shareU
  rw [h]
  exact ⟨rfl, rfl⟩
abbrev BoxK := List Nat × List Nat × List Nat
abbrev Notes := List (BoxK × List Nat)
def OkB (x : BoxK) : Prop := BytesK 32 x.1 ∧ BytesK 12 x.2.1 ∧ (∀ i, x.2.2.getD i 0 < 256) ∧ x.2.2.length ≤ 1000000
/-- A box, what is noted of it. -/
def boxN (i : Bool) (K N : List Nat) (ks : Pairs) (X : List Nat) : List Nat := if i && (mget K ks).isSome then sealN (ownN K ks) N [] (List.replicate X.length 0) else sealN K N [] X
theorem boxN_len (i : Bool) (K N : List Nat) (ks : Pairs) (X : List Nat) : (boxN i K N ks X).length = X.length + 16 := by
  unfold boxN
  split
  · rw [sealN_len, List.length_replicate]
  · rw [sealN_len]
theorem boxN_lt (i : Bool) (K N : List Nat) (ks : Pairs) {X : List Nat} (hX : ∀ i, X.getD i 0 < 256) : ∀ j, (boxN i K N ks X).getD j 0 < 256 := by
  unfold boxN
  split
  · exact sealN_lt _ _ _ (rep0_lt (by decide))
  · exact sealN_lt _ _ _ hX
theorem box_no {i : Bool} {K N : List Nat} {ks : Pairs} (h : mget K ks = none) (X : List Nat) : boxN i K N ks X = sealN K N [] X := by
  unfold boxN
  rw [h, if_neg (by simp)]
theorem box_real {K N own : List Nat} {ks : Pairs} (_h : mget K ks = some own) (X : List Nat) : boxN false K N ks X = sealN K N [] X := if_neg (by simp)
theorem box_ideal {K N own : List Nat} {ks : Pairs} (h : mget K ks = some own) (X : List Nat) : boxN true K N ks X = sealN (ownN K ks) N [] (List.replicate X.length 0) := if_pos (by rw [h]; rfl)
def noteP (i : Bool) (K N : List Nat) (ks : Pairs) (X : List Nat) (pn : Notes) : Notes := if (mget K ks).isSome then mput (K, N, boxN i K N ks X) X pn else pn
instance (K N E Z : List Nat) : Decidable (opensN K N E Z) := by unfold opensN; infer_instance
theorem noteP_no {i : Bool} {K N : List Nat} {ks : Pairs} (h : mget K ks = none) (X : List Nat) (pn : Notes) : noteP i K N ks X pn = pn := if_neg (by rw [h]; simp)
theorem noteP_yes {i : Bool} {K N own : List Nat} {ks : Pairs} (h : mget K ks = some own) (X : List Nat) (pn : Notes) : noteP i K N ks X pn = mput (K, N, boxN i K N ks X) X pn := if_pos (by rw [h]; rfl)
/-- What a box opens to, by what is noted of it (look); whether it is a forgery. -/
def openN (i : Bool) (K N : List Nat) (ks : Pairs) (lk : Option (List Nat)) (Z : List Nat) : Option (List Nat) := if i && (mget K ks).isSome then lk else if opensN K N [] Z then some (plainN K N Z) else none
def openF (i : Bool) (K N : List Nat) (ks : Pairs) (lk : Option (List Nat)) (Z : List Nat) : Nat := if !i && (mget K ks).isSome && lk.isNone && decide (opensN K N [] Z) then 1 else 0
theorem opn_no {i : Bool} {K N Z : List Nat} {ks : Pairs} {lk : Option (List Nat)} (h : mget K ks = none) : openN i K N ks lk Z = (if opensN K N [] Z then some (plainN K N Z) else none) ∧ openF i K N ks lk Z = 0 := ⟨if_neg (by rw [h]; simp), if_neg (by rw [h]; simp)⟩
theorem opn_ideal {K N Z own : List Nat} {ks : Pairs} {lk : Option (List Nat)} (h : mget K ks = some own) : openN true K N ks lk Z = lk ∧ openF true K N ks lk Z = 0 := ⟨if_pos (by rw [h]; rfl), if_neg (by simp)⟩
theorem opn_real {K N Z own : List Nat} {ks : Pairs} {lk : Option (List Nat)} (h : mget K ks = some own) : openN false K N ks lk Z = (if opensN K N [] Z then some (plainN K N Z) else none) ∧ openF false K N ks lk Z = if lk.isNone && decide (opensN K N [] Z) then 1 else 0 := ⟨if_neg (by simp), by unfold openF; rw [h]; simp⟩
end Go.Proofs.Ytniplfjnpjihoaa
namespace Go.Proofs.Ytniplfjnpjihoaa
open Go.RowKit
section
variable {P : Program} {ops : Array Oper} {rest : List Oper} {op o : Oper} {a : Act} {w0 w w' : World} {Q : Exit → Act → World → Prop} {n m : Nat} {l : Slots} {L O : Blks} {S : Nat → Prop} {R : List Row}
/-- These blocks hold what is told; no other one has turned. -/
structure TurnB (N : Blks) (w w' : World) : Prop where
  os : w'.os = w.os
  tape : w'.tape = w.tape
  output : w'.output = w.output
  size : w.heap.size ≤ w'.heap.size
  block : ∀ k, k < w.heap.size → (∀ x ∈ N, x.1 ≠ k) → w'.heap[k]? = w.heap[k]?
  now : ∀ x ∈ N, w'.heap[x.1]? = some x.2
/-- Of the blocks that came in those in N may have turned, the others are in the list as they were. -/
theorem MemS.turnB {L0 : Blks} (N : Blks) (M : MemS (fun k => k < w0.heap.size ∧ ∀ x ∈ L0, x.1 ≠ k) w0 w L R) (H : Has w0 L0) (hN : ∀ x ∈ N, x ∈ L) (hO : ∀ x ∈ L0, x ∈ L ∨ ∃ y ∈ N, y.1 = x.1) : TurnB N w0 w := by
  refine ⟨M.os, M.tape, M.output, M.size, fun k hk hne => ?_, fun x hx => Has.mem M.hasL (hN x hx)⟩
  by_cases h : ∃ x ∈ L0, x.1 = k
  · obtain ⟨x, hx, rfl⟩ := h
    rcases hO x hx with h1 | ⟨y, hy, e⟩
    · rw [Has.mem M.hasL h1, Has.mem H hx]
    · exact (hne y hy e).elim
  · exact M.block k ⟨hk, fun x hx e => h ⟨x, hx, e⟩⟩
theorem TurnB.of_below {N : Blks} (h : Below w.heap.size w w') (hN : Has w N) : TurnB N w w' := ⟨h.os, h.tape, h.output, h.size, fun k hk _ => h.block k hk, fun x hx => by
  have := Has.mem hN hx
  exact (h.block x.1 (lt_of_block this)).trans this⟩
theorem TurnB.below (h : TurnB [] w w') : Below w.heap.size w w' := ⟨h.os, h.tape, h.output, h.size, fun k hk => h.block k hk fun _ hx => (nomatch hx)⟩
theorem turnB_post {N : Blks} {us : List (Nat × Obj)} {v : Nat → Value} (t : TurnB N w w') (h1 : ∀ u ∈ us, ∀ y, L[u.1]? = some y → (y.1, u.2) ∈ N) (h2 : ∀ x ∈ N, ∃ u ∈ us, ∃ y, L[u.1]? = some y ∧ y.1 = x.1) : Post w w' L ⟨v, none, us⟩ 0 :=
  ⟨t.os, t.tape, t.output, t.size, fun k hk hn => t.block k hk fun x hx e => by
    obtain ⟨u, hu, y, hy, e'⟩ := h2 x hx
    exact hn u hu y hy (e'.trans e), fun _ h => (nomatch h), fun _ => rfl, fun u hu y hy => t.now _ (h1 u hu y hy)⟩
def nowAt (L : Blks) : List (Nat × Obj) → Option Blks
  | [] => some []
  | u :: r => match L[u.1]?, nowAt L r with | some y, some N => some ((y.1, u.2) :: N) | _, _ => none
theorem nowAt_1 : ∀ {us : List (Nat × Obj)} {N : Blks}, nowAt L us = some N → ∀ u ∈ us, ∀ y, L[u.1]? = some y → (y.1, u.2) ∈ N
  | [], _, _, _, hu, _, _ => (nomatch hu)
  | v :: r, N, h, u, hu, y, hy => by
    unfold nowAt at h
    split at h
    · rename_i z N' hz hN'
      obtain rfl := Option.some.inj h
      rcases List.mem_cons.1 hu with rfl | hu
      · rw [hz] at hy
        obtain rfl := Option.some.inj hy
        exact List.mem_cons_self ..
      · exact List.mem_cons_of_mem _ (nowAt_1 hN' u hu y hy)
    · cases h
theorem nowAt_2 : ∀ {us : List (Nat × Obj)} {N : Blks}, nowAt L us = some N → ∀ x ∈ N, ∃ u ∈ us, ∃ y, L[u.1]? = some y ∧ y.1 = x.1
  | [], N, h, x, hx => by
    obtain rfl := Option.some.inj h
    exact (nomatch hx)
  | v :: r, N, h, x, hx => by
    unfold nowAt at h
    split at h
    · rename_i z N' hz hN'
      obtain rfl := Option.some.inj h
      rcases List.mem_cons.1 hx with rfl | hx
      · exact ⟨v, List.mem_cons_self .., z, hz, rfl⟩
      · obtain ⟨u, hu, q⟩ := nowAt_2 hN' x hx
        exact ⟨u, List.mem_cons_of_mem _ hu, q⟩
    · cases h
/-- Blocks of the list, by their places. -/
def atL (L : Blks) : List Nat → Option Blks
  | [] => some []
  | i :: r => match L[i]?, atL L r with | some y, some N => some (y :: N) | _, _ => none
theorem atL_has : ∀ {is : List Nat} {K : Blks}, atL L is = some K → Has w L → Has w K
  | [], K, h, _ => by
    obtain rfl := Option.some.inj h
    exact fun i x hx => by simp at hx
  | i :: r, K, h, H => by
    unfold atL at h
    split at h
    · rename_i y N hy hN
      obtain rfl := Option.some.inj h
      intro j x hx
      cases j with
      | zero => simp at hx; subst hx; exact H i _ hy
      | succ j => exact atL_has hN H j x (by simpa using hx)
    · cases h
/-- A call that turns several blocks, wherever they stand. -/
theorem callU_B {f : FuncId} {args : List Value} {v : Value} {us : List (Nat × Obj)} (is : List Nat) {K N : Blks} (hE : Enters P f) (hK : atL L is = some K) (hN : nowAt L us = some N) (h : ∀ w, Has w K → Calls P f args.toArray w fun e w' => e = .returned v ∧ TurnB N w w') : CallU P f args L v us :=
  ⟨hE, fun w H => (h w (atL_has hK H)).mono fun _ _ ⟨h1, t⟩ => ⟨h1, turnB_post t (nowAt_1 hN) (nowAt_2 hN)⟩⟩
/-- .. that turns none. -/
theorem callP_B {f : FuncId} {args : List Value} {v : Value} (is : List Nat) {K : Blks} (hE : Enters P f) (hK : atL L is = some K) (h : ∀ w, Has w K → Calls P f args.toArray w fun e w' => e = .returned v ∧ TurnB [] w w') : CallP P f args L v :=
  ⟨hE, fun w H => (h w (atL_has hK H)).mono fun _ _ ⟨h1, t⟩ => ⟨h1, t.below⟩⟩
theorem MemS.distinct (M : MemS S w0 w L R) : Distinct L := by
  have : ∀ L : Blks, (∀ (i j : Nat) (x y : Nat × Obj), L[i]? = some x → L[j]? = some y → i ≠ j → x.1 ≠ y.1) → Distinct L := fun L => by
    induction L with
    | nil => exact fun _ => trivial
    | cons x r ih =>
      refine fun h => ⟨fun y hy => ?_, ih fun i j a b ha hb hij => h (i + 1) (j + 1) a b (by simpa using ha) (by simpa using hb) (by omega)⟩
      obtain ⟨i, hi⟩ := List.mem_iff_getElem?.1 hy
      exact h (i + 1) 0 y x (by simpa using hi) rfl (by omega)
  exact this L M.apart
theorem atL_mem : ∀ {is : List Nat} {K : Blks}, atL L is = some K → ∀ y ∈ K, ∃ i ∈ is, L[i]? = some y
  | [], K, h, y, hy => by
    obtain rfl := Option.some.inj h
    exact (nomatch hy)
  | i :: r, K, h, y, hy => by
    unfold atL at h
    split at h
    · rename_i z N hz hN
      obtain rfl := Option.some.inj h
      rcases List.mem_cons.1 hy with rfl | hy
      · exact ⟨i, List.mem_cons_self .., hz⟩
      · obtain ⟨j, hj, q⟩ := atL_mem hN y hy
        exact ⟨j, List.mem_cons_of_mem _ hj, q⟩
    · cases h
def apartB : List Nat → Bool
  | [] => true
  | i :: r => (r.all fun j => !(Nat.beq i j)) && apartB r
theorem distinct_at (hd : Distinct L) : ∀ {is : List Nat} {K : Blks}, apartB is = true → atL L is = some K → Distinct K
  | [], K, _, h => by
    obtain rfl := Option.some.inj h
    trivial
  | i :: r, K, hn, h => by
    rw [apartB, Bool.and_eq_true, List.all_eq_true] at hn
    unfold atL at h
    split at h
    · rename_i z N hz hN
      obtain rfl := Option.some.inj h
      refine ⟨fun y hy => ?_, distinct_at hd hn.2 hN⟩
      obtain ⟨j, hj, q⟩ := atL_mem hN y hy
      refine hd.get j i y z q hz fun e => ?_
      subst e
      simpa using hn.1 j hj
    · cases h
theorem distinct_names : ∀ {K K' : Blks}, K.map (·.1) = K'.map (·.1) → Distinct K → Distinct K'
  | [], [], _, _ => trivial
  | [], _ :: _, h, _ => by cases h
  | _ :: _, [], h, _ => by cases h
  | x :: r, y :: s, h, ⟨h1, h2⟩ => by
    simp only [List.map_cons, List.cons.injEq] at h
    refine ⟨fun z hz => ?_, distinct_names h.2 h2⟩
    have hm : z.1 ∈ r.map (·.1) := h.2 ▸ List.mem_map_of_mem hz
    obtain ⟨u, hu, e⟩ := List.mem_map.1 hm
    rw [← h.1, ← e]
    exact h1 u hu
/-- Blocks that a call has made. -/
theorem MemS.addAll (M : MemS S w0 w L R) (hB : Below w.heap.size w w') : ∀ {K : Blks}, Has w' K → Distinct K → (∀ x ∈ K, w.heap.size ≤ x.1) → MemS S w0 w' (K ++ L) R
  | [], _, _, _ => M.keep hB
  | x :: r, H, hd, hf => by
    have M' := MemS.addAll M hB (K := r) (Has.tl H) hd.2 fun y hy => hf y (List.mem_cons_of_mem _ hy)
    have h0 := hf x (List.mem_cons_self ..)
    refine M'.addBlk (H 0 x rfl) (fun y hy => ?_) (fun hs => ?_) (fun q hq g hg => ?_)
    · rcases List.mem_append.1 hy with h | h
      · exact hd.1 y h
      · have := lt_of_block (Has.mem M.hasL h)
        omega
    · have := M.old _ hs
      have := M.size
      omega
    · have := (ownsRow_lt (M.rows q hq) hg).2
      omega
/-- What a row was while it lies among the blocks. -/
def Froz (base : Nat) (O' O : Blks) (v : Value) (e : TypeId) (k n : Nat) (X : List Value) : Prop :=
  (v = .slice none 0 0 ∧ n = 0 ∧ X = [] ∧ O' = O) ∨ ∃ (g cap : Nat) (cur : Array Value), v = .slice (some ⟨g, 0, none⟩) n cap ∧ base ≤ g ∧ n ≤ cap ∧ cap ≤ maxLen ∧ cur.size = cap * k ∧ cur.toList.take (n * k) = X ∧ X.length = n * k ∧ O' = (g, .cells cur e) :: O
theorem Froz.mono {base k n : Nat} {O' : Blks} {v : Value} {e : TypeId} {X : List Value} (h : Froz base O' O v e k n X) : ∀ x ∈ O, x ∈ O' := by
  rcases h with ⟨_, _, _, rfl⟩ | ⟨g, cap, cur, _, _, _, _, _, _, _, rfl⟩
  · exact fun _ h => h
  · exact fun _ h => List.mem_cons_of_mem _ h
end
section
variable {P : Program} {ops : Array Oper} {oi : Oper} {a : Act} {w0 w w' : World} {Q : Exit → Act → World → Prop} {n : Nat} {l : Slots} {L : Blks} {S : Nat → Prop} {R : List Row} {T : List Nat} {Z : World → Prop}
def wpLate (P : Program) (ops : Array Oper) (Q : Exit → Act → World → Prop) (Z : World → Prop) (T : List Nat) : Nat → Array Bool → Act → World → Prop
  | 0, listed, a, w => Region.ready .any ops listed = [] ∧ Q .normal a w
  | fuel + 1, listed, a, w => (Region.ready .any ops listed = [] → Q .normal a w) ∧
    ∀ i ∈ Region.ready .any ops listed, wpOp P ops Q i (fun a' w' => (i ∉ T → Z w') ∧ wpLate P ops Q Z T fuel (listed.setIfInBounds i true) a' w') a w
theorem wpAny_late : ∀ (fuel : Nat) (listed : Array Bool) (a : Act) (w : World), wpLate P ops Q Z T fuel listed a w → wpAny P .any ops Q fuel listed a w
  | 0, _, _, _, h => h
  | fuel + 1, _, _, _, h => ⟨h.1, fun i hi => wpOp_mono (fun a' w' h' => wpAny_late fuel _ a' w' h'.2) (h.2 i hi)⟩
/-- Each late operation waits for that one. -/
def waitsB (ops : Array Oper) (i : Nat) : List Nat → Bool
  | [] => true
  | j :: r => (match ops[j]? with | some o => o.after.any fun e => Region.binds .any e && Nat.beq e.on i | none => true) && waitsB ops i r
theorem waits_of {i : Nat} : ∀ {T : List Nat}, waitsB ops i T = true → ∀ j ∈ T, ∀ o, ops[j]? = some o → ∃ e ∈ o.after, Region.binds .any e = true ∧ e.on = i
  | [], _, _, hj, _, _ => (nomatch hj)
  | k :: r, h, j, hj, o, ho => by
    rw [waitsB, Bool.and_eq_true] at h
    rcases List.mem_cons.1 hj with rfl | hj
    · have h1 := h.1
      rw [ho] at h1
      obtain ⟨e, he, hb⟩ := Array.any_eq_true'.1 h1
      rw [Bool.and_eq_true] at hb
      exact ⟨e, he, hb.1, Nat.eq_of_beq_eq_true hb.2⟩
    · exact waits_of h.2 j hj o ho
theorem wpLate_first {i : Nat} {v : Value} (hi : ops[i]? = some oi) (hsel : ∀ (j : Nat) (o : Oper) cs b, ops[j]? = some o → o.op ≠ .select cs b) (hT : waitsB ops i T = true)
    (hQ : ∀ c a w, Q (.panic c) (a.put oi.dst v) w → Q (.panic c) a w) : ∀ (fuel : Nat) (listed : Array Bool) (a : Act) (w : World),
      (∀ j oj, ops[j]? = some oj → j ≠ i → listed.getD j true = false → (∀ e ∈ oj.after, Region.binds .any e = true → e.on ≠ i) → oi.apart ops oj = true) →
      i ∈ Region.ready .any ops listed → YieldsIf P ops Z oi v a → Z w → wpLate P ops Q Z T fuel (listed.setIfInBounds i true) (a.put oi.dst v) w → wpLate P ops Q Z T (fuel + 1) listed a w := by
  intro fuel
  induction fuel with
  | zero =>
    intro listed a w _ hr hy hZ H
    refine ⟨fun h => (by rw [h] at hr; cases hr), fun j hj => ?_⟩
    by_cases e : j = i
    · subst e
      exact hy.wpOp hi hZ ⟨fun _ => hZ, H⟩
    · have q := ready_mono hj e
      rw [H.1] at q
      cases q
  | succ fuel ih =>
    intro listed a w hfree hr hy hZ H
    refine ⟨fun h => (by rw [h] at hr; cases hr), fun j hj => ?_⟩
    by_cases e : j = i
    · subst e
      exact hy.wpOp hi hZ ⟨fun _ => hZ, H⟩
    · obtain ⟨hu, oj, hoj, hall⟩ := mem_ready.1 hj
      have hno : ∀ x ∈ oj.after, Region.binds .any x = true → x.on ≠ i := fun x hx hb q => by
        have h1 := hall x hx hb
        have h0 := (mem_ready.1 hr).1
        rw [q] at h1
        rcases Nat.lt_or_ge i listed.size with h' | h'
        · simp [h'] at h0 h1
          rw [h0] at h1
          cases h1
        · simp [Array.getElem?_eq_none h'] at h1
      have hjT : j ∉ T := fun q => by
        obtain ⟨x, hx, hb, q'⟩ := waits_of hT j q oj hoj
        exact hno x hx hb q'
      have h2 := wpOp_putIf hoj (hfree j oj hoj e hu hno) (fun cs b => hsel i oi cs b hi) (fun cs b => hsel j oj cs b hoj) hQ hy (H.2 j (ready_mono hj e))
      refine wpOp_mono (fun a' w' h3 => ⟨fun _ => h3.2.1 hjT, ih (listed.setIfInBounds j true) a' w' (fun k ok hk hki hun hn => hfree k ok hk hki ?_ hn) (ready_mono hr (Ne.symm e)) h3.1 (h3.2.1 hjT) ?_⟩) h2
      · by_cases q : j = k
        · subst q; exact hu
        · rw [getD_set_ne true q] at hun; exact hun
      · rw [Array.setIfInBounds_comm _ _ e]
        exact h3.2.2
/-- .. with what stands throughout alone. -/
theorem late_stand {id N : Nat} (K : Blks) (hm : P.follows .mixedOrders = true) (hN : ops.size = N) (M : MemS S w0 w L R) (H : ∀ w', MemS S w0 w' L R → wpLate P ops Q (fun w => Has w K) [] N (Array.replicate N false) a w') : (Code.region id ops true).wp P Q a w := by
  refine wp_region_any hm (wpAny_late (Z := fun w => Has w K) (T := []) _ _ _ _ ?_)
  rw [hN]
  exact H _ (M.keep (w' := { w with drawn := w.drawn + 1 }) ⟨rfl, rfl, rfl, Nat.le_refl _, fun _ _ => rfl⟩)
theorem late_take (F : Fr n a l) {i : Nat} {v : Value} {d fuel : Nat} {listed : Array Bool} (H : Has w L) (hi : ops[i]? = some oi) (hs : Region.noSelect ops = true) (hT : waitsB ops i T = true) (hf : Region.free .any ops listed i = true) (hr : (Region.ready .any ops listed).contains i = true)
    (hQ : ∀ c a (d : Nat) v w, Q (.panic c) (a.put (some d) v) w → Q (.panic c) a w) (hd : oi.dst = some d) (hn : d < n) (hg : wantOf ops.toList l oi = some true) (hrun : RunV P l L oi v)
    (K : ∀ a', Fr n a' (upd d v l) → wpLate P ops Q (fun w => Has w L) T fuel (listed.setIfInBounds i true) a' w) : wpLate P ops Q (fun w => Has w L) T (fuel + 1) listed a w := by
  refine wpLate_first hi (Region.noSelect_spec hs) hT (fun c a w h => by rw [hd] at h; exact hQ c a d v w h) fuel listed a w (Region.free_spec hi hf) (by simpa using hr) (.inl ⟨wanted_iff hg F.lk, fun w hw => hrun a.eval w F.agr hw⟩) H ?_
  rw [hd]
  exact K _ (F.put _ hn)
theorem late_one {i fuel : Nat} {listed : Array Bool} (hr : Region.ready .any ops listed = [i]) (hi : ops[i]? = some oi) (h : wpList P ops (onN (fun a' w' => (i ∉ T → Z w') ∧ wpLate P ops Q Z T fuel (listed.setIfInBounds i true) a' w') Q) [oi] a w) : wpLate P ops Q Z T (fuel + 1) listed a w :=
  ⟨fun h0 => (by rw [hr] at h0; cases h0), fun k hk => by
    rw [hr, List.mem_singleton] at hk
    subst hk
    exact op_row hi h⟩
theorem late_none {listed : Array Bool} {fuel : Nat} (hr : Region.ready .any ops listed = []) (h : Q .normal a w) : wpLate P ops Q Z T fuel listed a w := by
  cases fuel with
  | zero => exact ⟨hr, h⟩
  | succ k => exact ⟨fun _ => h, fun i hi => (by rw [hr] at hi; cases hi)⟩
theorem loadVi {o : Oper} {x : Operand} {t : TypeId} {g i k : Nat} {cs : Array Value} {e : TypeId} {fr : Nat × Nat} {v : Value} {d : TypeDesc} (ho : o.op = .load t x) (hx : evO l x = some (.pointer (some ⟨g, i, none⟩))) (ht : P.underlying t = some d) (hd : d.isRow = false) (hL : L[k]? = some (g, .cells cs e fr)) (hc : cs[i]? = some v) : RunV P l L o v :=
  loadV ho hx ht hd (List.mem_of_getElem? hL) hc
theorem loadRi {o : Oper} {x : Operand} {t : TypeId} {g k m : Nat} {cs : Array Value} {e : TypeId} {fr : Nat × Nat} {d : TypeDesc} (ho : o.op = .load t x) (hx : evO l x = some (.pointer (some ⟨g, 0, none⟩))) (ht : P.underlying t = some d) (hd : d.isRow = true) (hi : (P.info? t).map (·.size) = some m) (hL : L[k]? = some (g, .cells cs e fr)) (hm : cs.size = m) : RunV P l L o (.agg cs) := fun ρ w A H => by
  have e1 : ρ x = .pointer (some ⟨g, 0, none⟩) := A x _ hx
  have := run_loadAt_mid (P := P) w g 0 t cs.toList d (fun j v hv => by rw [cell_of (H k _ hL), Nat.zero_add]; simpa using hv) ht hd (by rw [hi, ← hm]; simp)
  simp only [execOp, ho, e1, Sem.run_bind, this, Result.andThen_ok, Sem.run_pure]
end
section
def placesOf (P : Program) (t : TypeId) : Option (List (Nat × Nat)) := match P.underlying t with | some (.struct fs) => fs.toList.mapM fun f => (P.info? f.type).map fun i => (f.offset, i.size) | _ => none
def zeroSize (P : Program) (t : TypeId) : Option Nat := match P.info? t with | some it => it.zero.map (·.cells.size) | none => none
def FitsP (pl : Nat → Option (Nat × Nat)) : Nat → List (Nat × Value) → List Nat → Nat → Prop
  | off, [], [], tot => off = tot
  | off, p :: ps, n :: ns, tot => pl p.1 = some (off, n) ∧ p.2.cells.size = n ∧ FitsP pl (off + n) ps ns tot
  | _, _, _, _ => False
def catA : Array Value → List (Nat × Value) → Array Value
  | a, [] => a
  | a, p :: r => catA (a ++ p.2.cells) r
def catP : List (Nat × Value) → Array Value
  | [] => #[]
  | p :: r => catA p.2.cells r
theorem fold_set (vs : List (Value × Nat)) (off : Nat) : ∀ (cs : Array Value), (vs.foldl (fun cs (x : Value × Nat) => cs.setIfInBounds (off + x.2) x.1) cs).size = cs.size := by
  induction vs with
  | nil => exact fun _ => rfl
  | cons x r ih => exact fun cs => by rw [List.foldl_cons, ih, Array.size_setIfInBounds]
theorem fold_at (off : Nat) : ∀ (vs : List Value) (k : Nat) (cs : Array Value), off + k + vs.length ≤ cs.size → ∀ j, ((vs.zipIdx k).foldl (fun cs (x : Value × Nat) => cs.setIfInBounds (off + x.2) x.1) cs)[j]? = if off + k ≤ j ∧ j < off + k + vs.length then vs[j - (off + k)]? else cs[j]?
  | [], k, cs, _, j => by
    rw [if_neg (by simp only [List.length_nil]; omega)]
    rfl
  | v :: r, k, cs, h, j => by
    simp only [List.length_cons] at h
    rw [List.zipIdx_cons, List.foldl_cons, fold_at off r (k + 1) _ (by rw [Array.size_setIfInBounds]; omega) j]
    simp only [List.length_cons]
    by_cases e : j = off + k
    · subst e
      rw [if_neg (by omega), if_pos (by omega), Nat.sub_self, Array.getElem?_setIfInBounds, if_pos rfl, if_pos (by omega)]
      rfl
    · rw [Array.getElem?_setIfInBounds_ne (fun q => e q.symm)]
      by_cases h1 : off + k ≤ j ∧ j < off + k + (r.length + 1)
      · rw [if_pos h1, if_pos (by omega), show j - (off + k) = j - (off + (k + 1)) + 1 by omega, List.getElem?_cons_succ]
      · rw [if_neg h1, if_neg (by omega)]
theorem fill_fits {pl : Nat → Option (Nat × Nat)} : ∀ (ps : List (Nat × Value)) (ns : List Nat) (tot : Nat) (pre cs : Array Value), FitsP pl pre.size ps ns tot → cs.size = tot → (∀ j, j < pre.size → cs[j]? = pre[j]?) → pre.size ≤ tot → Instr.fill pl cs ps = some (catA pre ps)
  | [], ns, tot, pre, cs, h, hs, hp, _ => by
    cases ns with
    | cons _ _ => exact h.elim
    | nil =>
      have h : pre.size = tot := h
      refine congrArg some (Array.ext_getElem? fun j => ?_)
      rcases Nat.lt_or_ge j pre.size with q | q
      · exact hp j q
      · show cs[j]? = pre[j]?
        rw [Array.getElem?_eq_none (by omega), Array.getElem?_eq_none q]
  | p :: r, ns, tot, pre, cs, h, hs, hp, hle => by
    cases ns with
    | nil => exact h.elim
    | cons n ns =>
      obtain ⟨h1, h2, h3⟩ := h
      have tot_le : ∀ (ps : List (Nat × Value)) (ns : List Nat) (off : Nat), FitsP pl off ps ns tot → off ≤ tot := fun ps => by
        induction ps with
        | nil => intro ns off q; cases ns with
          | nil => exact Nat.le_of_eq q
          | cons _ _ => exact q.elim
        | cons x r ih => intro ns off q; cases ns with
          | nil => exact q.elim
          | cons m ms => exact Nat.le_trans (Nat.le_add_right _ _) (ih ms _ q.2.2)
      have ht := tot_le r ns _ h3
      unfold Instr.fill
      simp only [h1]
      have hl : p.2.cells.toList.length = n := by rw [Array.length_toList]; exact h2
      have ef : p.2.cells.zipIdx.foldl (fun cs (x : Value × Nat) => cs.setIfInBounds (pre.size + x.2) x.1) cs = (p.2.cells.toList.zipIdx 0).foldl (fun cs (x : Value × Nat) => cs.setIfInBounds (pre.size + x.2) x.1) cs := by
        rw [← Array.foldl_toList, Array.toList_zipIdx]
      have hno : ¬ ((decide (p.2.cells.size ≠ n) || decide (pre.size + p.2.cells.size > cs.size)) = true) := by
        rw [h2, hs]
        simp
        omega
      rw [if_neg hno]
      refine (congrArg (fun z => Instr.fill pl z r) ef).trans ?_
      refine fill_fits r ns tot (pre ++ p.2.cells) _ (by rw [Array.size_append, h2]; exact h3) ?_ (fun j hj => ?_) (by rw [Array.size_append, h2]; exact ht)
      · rw [fold_set, hs]
      · rw [Array.size_append, h2] at hj
        rw [fold_at pre.size p.2.cells.toList 0 cs (by rw [hl]; omega) j, hl, Nat.add_zero]
        rcases Nat.lt_or_ge j pre.size with q | q
        · rw [if_neg (by omega), hp j q, Array.getElem?_append_left q]
        · rw [if_pos ⟨q, by omega⟩, Array.getElem?_append_right q, Array.getElem?_toList]
theorem built_fits {P : Program} {t : TypeId} {pl : List (Nat × Nat)} {tot n : Nat} {p : Nat × Value} {r : List (Nat × Value)} {ns : List Nat} {c : Array Value} (hp : placesOf P t = some pl) (hz : zeroSize P t = some tot) (h : FitsP (pl.toArray[·]?) 0 (p :: r) (n :: ns) tot) (hc : catP (p :: r) = c) : P.built t (p :: r) = some c := by
  unfold placesOf at hp
  unfold zeroSize at hz
  unfold Program.built
  split at hp
  · rename_i fs hu
    split at hz
    · rename_i it hi
      obtain ⟨z, hz1, hz2⟩ := Option.map_eq_some_iff.1 hz
      simp only [hi, hu, hz1, hp]
      have := fill_fits (pl := (pl.toArray[·]?)) (p :: r) (n :: ns) tot #[] z.cells h hz2 (fun j hj => by simp at hj) (Nat.zero_le _)
      rw [this, ← hc]
      simp [catA, catP]
    · cases hz
  · cases hp
theorem evParts_rho {ρ : Operand → Value} {l : Slots} (A : Agr ρ l) : ∀ (xs : List (Nat × Operand)) (us : List (Nat × Value)), evParts l xs = some us → xs.map (fun (i, x) => (i, ρ x)) = us
  | [], us, h => by
    obtain rfl := Option.some.inj h
    rfl
  | x :: r, us, h => by
    unfold evParts at h
    split at h
    · rename_i v vs h1 h2
      obtain rfl := Option.some.inj h
      simp [A x.2 v h1, evParts_rho A r vs h2]
    · cases h
theorem build_ok {P : Program} {l : Slots} {L : Blks} {o : Oper} {t : TypeId} {ps : Array (Nat × Operand)} {xs : List (Nat × Value)} {c : Array Value} (ho : o.op = .build t ps) (hx : evParts l ps.toList = some xs) (hb : P.built t xs = some c) : RunV P l L o (.agg c) := fun ρ w A _ => by
  have hp := evParts_rho A _ _ hx
  have hq := run_build' (P := P) (w := w) (t := t) (ps := xs.toArray) (z := .agg c) (cs := []) (by simp [aBuild, hb])
  have hm : (ps.map fun (i, x) => (i, ρ x)) = xs.toArray := by
    apply Array.toList_inj.1
    rw [Array.toList_map]
    exact hp
  simp [execOp, ho, hm, hq]
end
end Go.Proofs.Ytniplfjnpjihoaa
namespace Go.Proofs.Ytniplfjnpjihoaa
open Go.RowKit
theorem en_tnew : Enters Try.prog 10 := fun args w => by simp [go_sem]
theorem en_take : Enters Try.prog 45 := fun args w => by simp [go_sem]
theorem en_tkey : Enters Try.prog 32 := fun args w => by simp [go_sem]
/-- A tape: the bytes that are left, how many were taken. -/
abbrev TB (X : List Nat) (u : Nat) : Obj := .cells #[sB X, iN u] 84
set_option maxRecDepth 100000 in
theorem take_any (g n : Nat) (X : List Nat) (u : Nat) (hX : ∀ i, X.getD i 0 < 256) (hu : u < 4611686018427387904) (hn : n ≤ 65536) (w0 : World) (hg : w0.heap[g]? = some (TB X u)) :
    Calls Try.prog 45 #[pT g, iN n] w0 fun e w' => e = .returned (sB (takN n X)) ∧ Turn g (TB (X.drop n) (u + n)) w0 w' := by
  refine enter_fr Try.func45 rfl Try.ntmps45 (by simp) fun ac (FF : Fr 42 ac [(0, pT g), (1, iN n)]) => ?_
  have MM : MemS (fun k => k < w0.heap.size ∧ ∀ x ∈ (g, oC #[sB X, iN u] 84) :: ([] : Blks), x.1 ≠ k) w0 w0 ((g, oC #[sB X, iN u] 84) :: ([] : Blks)) [] := MemS.startN (one_has hg) ⟨fun y hy => (nomatch hy), trivial⟩
  refine wp_seq (rg_c FF MM [(0, t_ (sB []))] 5 [] [] (⟨(by kernel_rfl), fun _ _ FF1 MM1 => then_n ?_⟩))
  refine wp_seq ?_
  refine wp_seq (rg_c FF1 MM1 [(1, f_ (.bool false)), (2, w_ 3), (3, w_ 3)] 5 [15] [] (⟨(ptrSome_ok (t := 27) (t' := 27) (x := (.tmp 6)) (y := (.const (.pointer none))) (by kernel_rfl) rfl rfl Try.underlying27), (by have := hn; omega), (by have := hn; omega), fun _ _ FF2 MM2 => then_n ?_⟩))
  refine wp_cond_false (FF2.ev 0 rfl) ?_
  refine wp_skip ?_
  refine then_n ?_
  refine wp_seq (rg_c FF2 MM2 [(1, n_ (.slice none n n) (.cells (cn .u8 (List.replicate n 0)) 5))] 6 [] [] (⟨(make_ok (t := 73) (e := 5) (p := (.tmp 16)) (q := (.tmp 16)) (by kernel_rfl) rfl rfl Try.underlying73 (by kernel_rfl) (by have := hn; omega)), fun bo => fun _ _ FF3 MM3 => then_n ?_⟩))
  refine wp_mid (fun a' w' => Fr 42 a' [(5, .slice (some ⟨bo, 0, none⟩) n n), (4, sB []), (0, pT g), (1, iN n)] ∧ MemS (fun k => k < w0.heap.size ∧ ∀ x ∈ (g, oC #[sB X, iN u] 84) :: ([] : Blks), x.1 ≠ k) w0 w' ((bo, .cells (cn .u8 (takN n X)) 5) :: (g, oC #[sB (X.drop n), iN u] 84) :: ([] : Blks)) []) ?_ ?_
  · skip
    refine draw_open (N := 15) (by kernel_rfl) (by kernel_rfl) MM3 fun wq4 (MM5 : MemS (fun k => k < w0.heap.size ∧ ∀ x ∈ (g, oC #[sB X, iN u] 84) :: ([] : Blks), x.1 ≠ k) w0 wq4 ((bo, .cells (cn .u8 (List.replicate n 0)) 5) :: (g, oC #[sB X, iN u] 84) :: ([] : Blks)) []) => ?_
    refine take_op FF3 (i := 0) (oi := (opAt Try.f45 4 0)) (v := (pT g)) (d := 18) (by kernel_rfl) (by kernel_rfl) (by kernel_rfl) (by kernel_rfl) (fun _ _ _ _ _ h => h) (by kernel_rfl) (by decide) (by kernel_rfl) (mvV (x := (.tmp 0)) (by kernel_rfl) rfl) fun _ FF6 => ?_
    refine take_op FF6 (i := 1) (oi := (opAt Try.f45 4 1)) (v := (pT g)) (d := 19) (by kernel_rfl) (by kernel_rfl) (by kernel_rfl) (by kernel_rfl) (fun _ _ _ _ _ h => h) (by kernel_rfl) (by decide) (by kernel_rfl) (mvV (x := (.tmp 0)) (by kernel_rfl) rfl) fun _ FF7 => ?_
    refine take_op FF7 (i := 2) (oi := (opAt Try.f45 4 2)) (v := (pT g)) (d := 20) (by kernel_rfl) (by kernel_rfl) (by kernel_rfl) (by kernel_rfl) (fun _ _ _ _ _ h => h) (by kernel_rfl) (by decide) (by kernel_rfl) (nilV (x := (.tmp 19)) (by kernel_rfl) rfl) fun _ FF8 => ?_
    refine take_op FF8 (i := 3) (oi := (opAt Try.f45 4 3)) (v := (pT g)) (d := 21) (by kernel_rfl) (by kernel_rfl) (by kernel_rfl) (by kernel_rfl) (fun _ _ _ _ _ h => h) (by kernel_rfl) (by decide) (by kernel_rfl) (fldV (x := (.tmp 20)) (t := 84) (k := 0) (cs := []) (by kernel_rfl) rfl (by kernel_rfl)) fun _ FF9 => ?_
    refine take_op FF9 (i := 5) (oi := (opAt Try.f45 4 5)) (v := (.slice (some ⟨bo, 0, none⟩) n n)) (d := 23) (by kernel_rfl) (by kernel_rfl) (by kernel_rfl) (by kernel_rfl) (fun _ _ _ _ _ h => h) (by kernel_rfl) (by decide) (by kernel_rfl) (mvV (x := (.tmp 5)) (by kernel_rfl) rfl) fun _ FF10 => ?_
    refine take_op FF10 (i := 6) (oi := (opAt Try.f45 4 6)) (v := (pT g)) (d := 24) (by kernel_rfl) (by kernel_rfl) (by kernel_rfl) (by kernel_rfl) (fun _ _ _ _ _ h => h) (by kernel_rfl) (by decide) (by kernel_rfl) (mvV (x := (.tmp 0)) (by kernel_rfl) rfl) fun _ FF11 => ?_
    refine take_op FF11 (i := 7) (oi := (opAt Try.f45 4 7)) (v := (pT g)) (d := 25) (by kernel_rfl) (by kernel_rfl) (by kernel_rfl) (by kernel_rfl) (fun _ _ _ _ _ h => h) (by kernel_rfl) (by decide) (by kernel_rfl) (nilV (x := (.tmp 24)) (by kernel_rfl) rfl) fun _ FF12 => ?_
    refine take_op FF12 (i := 8) (oi := (opAt Try.f45 4 8)) (v := (pT g)) (d := 26) (by kernel_rfl) (by kernel_rfl) (by kernel_rfl) (by kernel_rfl) (fun _ _ _ _ _ h => h) (by kernel_rfl) (by decide) (by kernel_rfl) (fldV (x := (.tmp 25)) (t := 84) (k := 0) (cs := []) (by kernel_rfl) rfl (by kernel_rfl)) fun _ FF13 => ?_
    refine any_two (i := 4) (oi := (opAt Try.f45 4 4)) (j := 9) (oj := (opAt Try.f45 4 9)) (by kernel_rfl) (by kernel_rfl) (by kernel_rfl) ?_ ?_
    · skip
      refine rp_c 1 FF13 MM5 [(0, l_ 1 (sB X))] 19 [26, 23, 22] [] (⟨rfl, rfl, fun _ _ FF14 MM14 => ?_⟩)
      refine wpl_nil (onN_n ?_)
      refine any_one (i := 9) (o := (opAt Try.f45 4 9)) (by kernel_rfl) (by kernel_rfl) ?_
      refine rp_c 1 FF14 MM14 [(0, l_ 1 (sB X))] 24 [27] [] (⟨rfl, rfl, fun _ _ FF15 MM15 => ?_⟩)
      refine wpl_nil (onN_n ?_)
      refine any_one (i := 10) (o := (opAt Try.f45 4 10)) (by kernel_rfl) (by kernel_rfl) ?_
      refine rp_c 1 FF15 MM15 [(0, r_ (iN (min X.length n)) [(0, .cells (cn .u8 (takN n X)) 5)])] 23 [28] [] (⟨(copyStr_ok (p := .tmp 23) (q := .tmp 27) (t := 73) (tq := 9) (e := 5) (T := 5) (off := 0) (len := n) (X := X) (cs := cn .u8 (List.replicate n 0)) (i := 0) (by kernel_rfl) rfl rfl hX Try.underlying73 (by kernel_rfl) rfl (by rw [cn_size, List.length_replicate, Nat.zero_add]; exact Nat.le_refl _) (tak_cells n X)), fun _ _ FF16 MM16 => ?_⟩)
      refine wpl_nil (onN_n ?_)
      refine any_one (i := 11) (o := (opAt Try.f45 4 11)) (by kernel_rfl) (by kernel_rfl) ?_
      refine rp_c 1 FF16 MM16 [(0, t_ (sB (X.drop n)))] 19 [29] [] (⟨(by simp only [bs_size]; omega), (Nat.zero_le _), (vS2 ((bs_from _ _).trans (congrArg bs (dropX_min X n)))), fun _ _ FF17 MM17 => ?_⟩)
      refine wpl_nil (onN_n ?_)
      refine take_op FF17 (i := 12) (oi := (opAt Try.f45 4 12)) (v := (pT g)) (d := 30) (by kernel_rfl) (by kernel_rfl) (by kernel_rfl) (by kernel_rfl) (fun _ _ _ _ _ h => h) (by kernel_rfl) (by decide) (by kernel_rfl) (nilV (x := (.tmp 18)) (by kernel_rfl) rfl) fun _ FF18 => ?_
      refine take_op FF18 (i := 13) (oi := (opAt Try.f45 4 13)) (v := (pT g)) (d := 31) (by kernel_rfl) (by kernel_rfl) (by kernel_rfl) (by kernel_rfl) (fun _ _ _ _ _ h => h) (by kernel_rfl) (by decide) (by kernel_rfl) (fldV (x := (.tmp 30)) (t := 84) (k := 0) (cs := []) (by kernel_rfl) rfl (by kernel_rfl)) fun _ FF19 => ?_
      refine any_one (i := 14) (o := (opAt Try.f45 4 14)) (by kernel_rfl) (by kernel_rfl) ?_
      refine rp_c 1 FF19 MM17 [(0, s_ 1 (oC #[sB (X.drop n), iN u] 84))] 6 [] [] (⟨rfl, (by simp), (.inl rfl), rfl, fun _ _ FF20 MM20 => ?_⟩)
      refine wpl_nil (onN_n ?_)
      refine any_none (by kernel_rfl) (then_n ?_)
      exact ⟨FF20.pick [0, 1, 2, 3], MM20⟩
    · skip
      refine rp_c 1 FF13 MM5 [(0, l_ 1 (sB X))] 24 [27] [20, 19] (⟨rfl, rfl, fun _ _ FF21 MM21 => ?_⟩)
      refine wpl_nil (onN_n ?_)
      refine any_two (i := 4) (oi := (opAt Try.f45 4 4)) (j := 10) (oj := (opAt Try.f45 4 10)) (by kernel_rfl) (by kernel_rfl) (by kernel_rfl) ?_ ?_
      · skip
        refine rp_c 1 FF21 MM21 [(0, l_ 1 (sB X))] 28 [] [21] (⟨rfl, rfl, fun _ _ FF22 MM22 => ?_⟩)
        refine wpl_nil (onN_n ?_)
        refine any_one (i := 10) (o := (opAt Try.f45 4 10)) (by kernel_rfl) (by kernel_rfl) ?_
        refine rp_c 1 FF22 MM22 [(0, r_ (iN (min X.length n)) [(0, .cells (cn .u8 (takN n X)) 5)])] 23 [28] [] (⟨(copyStr_ok (p := .tmp 23) (q := .tmp 27) (t := 73) (tq := 9) (e := 5) (T := 5) (off := 0) (len := n) (X := X) (cs := cn .u8 (List.replicate n 0)) (i := 0) (by kernel_rfl) rfl rfl hX Try.underlying73 (by kernel_rfl) rfl (by rw [cn_size, List.length_replicate, Nat.zero_add]; exact Nat.le_refl _) (tak_cells n X)), fun _ _ FF23 MM23 => ?_⟩)
        refine wpl_nil (onN_n ?_)
        refine any_one (i := 11) (o := (opAt Try.f45 4 11)) (by kernel_rfl) (by kernel_rfl) ?_
        refine rp_c 1 FF23 MM23 [(0, t_ (sB (X.drop n)))] 19 [29] [] (⟨(by simp only [bs_size]; omega), (Nat.zero_le _), (vS2 ((bs_from _ _).trans (congrArg bs (dropX_min X n)))), fun _ _ FF24 MM24 => ?_⟩)
        refine wpl_nil (onN_n ?_)
        refine take_op FF24 (i := 12) (oi := (opAt Try.f45 4 12)) (v := (pT g)) (d := 30) (by kernel_rfl) (by kernel_rfl) (by kernel_rfl) (by kernel_rfl) (fun _ _ _ _ _ h => h) (by kernel_rfl) (by decide) (by kernel_rfl) (nilV (x := (.tmp 18)) (by kernel_rfl) rfl) fun _ FF25 => ?_
        refine take_op FF25 (i := 13) (oi := (opAt Try.f45 4 13)) (v := (pT g)) (d := 31) (by kernel_rfl) (by kernel_rfl) (by kernel_rfl) (by kernel_rfl) (fun _ _ _ _ _ h => h) (by kernel_rfl) (by decide) (by kernel_rfl) (fldV (x := (.tmp 30)) (t := 84) (k := 0) (cs := []) (by kernel_rfl) rfl (by kernel_rfl)) fun _ FF26 => ?_
        refine any_one (i := 14) (o := (opAt Try.f45 4 14)) (by kernel_rfl) (by kernel_rfl) ?_
        refine rp_c 1 FF26 MM24 [(0, s_ 1 (oC #[sB (X.drop n), iN u] 84))] 6 [] [] (⟨rfl, (by simp), (.inl rfl), rfl, fun _ _ FF27 MM27 => ?_⟩)
        refine wpl_nil (onN_n ?_)
        refine any_none (by kernel_rfl) (then_n ?_)
        exact ⟨FF27.pick [0, 1, 2, 3], MM27⟩
      · skip
        refine rp_c 1 FF21 MM21 [(0, r_ (iN (min X.length n)) [(0, .cells (cn .u8 (takN n X)) 5)])] 22 [28] [] (⟨(copyStr_ok (p := .tmp 23) (q := .tmp 27) (t := 73) (tq := 9) (e := 5) (T := 5) (off := 0) (len := n) (X := X) (cs := cn .u8 (List.replicate n 0)) (i := 0) (by kernel_rfl) rfl rfl hX Try.underlying73 (by kernel_rfl) rfl (by rw [cn_size, List.length_replicate, Nat.zero_add]; exact Nat.le_refl _) (tak_cells n X)), fun _ _ FF28 MM28 => ?_⟩)
        refine wpl_nil (onN_n ?_)
        refine any_one (i := 4) (o := (opAt Try.f45 4 4)) (by kernel_rfl) (by kernel_rfl) ?_
        refine rp_c 1 FF28 MM28 [(0, l_ 1 (sB X))] 29 [] [21] (⟨rfl, rfl, fun _ _ FF29 MM29 => ?_⟩)
        refine wpl_nil (onN_n ?_)
        refine any_one (i := 11) (o := (opAt Try.f45 4 11)) (by kernel_rfl) (by kernel_rfl) ?_
        refine rp_c 1 FF29 MM29 [(0, t_ (sB (X.drop n)))] 19 [29] [] (⟨(by simp only [bs_size]; omega), (Nat.zero_le _), (vS2 ((bs_from _ _).trans (congrArg bs (dropX_min X n)))), fun _ _ FF30 MM30 => ?_⟩)
        refine wpl_nil (onN_n ?_)
        refine take_op FF30 (i := 12) (oi := (opAt Try.f45 4 12)) (v := (pT g)) (d := 30) (by kernel_rfl) (by kernel_rfl) (by kernel_rfl) (by kernel_rfl) (fun _ _ _ _ _ h => h) (by kernel_rfl) (by decide) (by kernel_rfl) (nilV (x := (.tmp 18)) (by kernel_rfl) rfl) fun _ FF31 => ?_
        refine take_op FF31 (i := 13) (oi := (opAt Try.f45 4 13)) (v := (pT g)) (d := 31) (by kernel_rfl) (by kernel_rfl) (by kernel_rfl) (by kernel_rfl) (fun _ _ _ _ _ h => h) (by kernel_rfl) (by decide) (by kernel_rfl) (fldV (x := (.tmp 30)) (t := 84) (k := 0) (cs := []) (by kernel_rfl) rfl (by kernel_rfl)) fun _ FF32 => ?_
        refine any_one (i := 14) (o := (opAt Try.f45 4 14)) (by kernel_rfl) (by kernel_rfl) ?_
        refine rp_c 1 FF32 MM30 [(0, s_ 1 (oC #[sB (X.drop n), iN u] 84))] 6 [] [] (⟨rfl, (by simp), (.inl rfl), rfl, fun _ _ FF33 MM33 => ?_⟩)
        refine wpl_nil (onN_n ?_)
        refine any_none (by kernel_rfl) (then_n ?_)
        exact ⟨FF33.pick [0, 1, 2, 3], MM33⟩
  · rintro ac34 wd34 ⟨FF34, MM34⟩
    refine wp_seq (rg_c FF34 MM34 [(3, l_ 1 (iN u)), (4, s_ 1 (oC #[sB (X.drop n), iN (u + n)] 84))] 6 [] [] (⟨rfl, rfl, (by have := hn; omega), rfl, (by simp), (.inl rfl), rfl, fun _ _ FF35 MM35 => then_n ?_⟩))
    refine wp_seq (rg_c FF35 MM35 [(1, l_ 0 (sB (takN n X)))] 6 [] [] (⟨rfl, (str_all (takN_len _ _) (takN_lt hX n)), fun _ _ FF36 MM36 => then_n ?_⟩))
    refine wp_ret ?_
    repeat first | refine then_ret ?_ | refine inb_ret ?_
    exact (ret_fr FF36 0 Try.results45 rfl ⟨rfl, MM36.turn (O := []) (fun i x hx => by simp at hx) 1 rfl (fun x hx => (nomatch hx))⟩)
set_option maxRecDepth 100000 in
theorem tkey_any (g : Nat) (X : List Nat) (u : Nat) (hX : ∀ i, X.getD i 0 < 256) (hu : u < 4611686018427387904)  (w0 : World) (hg : w0.heap[g]? = some (TB X u)) :
    Calls Try.prog 32 #[pT g] w0 fun e w' => e = .returned (.agg (cn .u8 (takN 32 X))) ∧ Turn g (TB (X.drop 32) (u + 32)) w0 w' := by
  refine enter_fr Try.func32 rfl Try.ntmps32 (by simp) fun ac (FF : Fr 9 ac [(0, pT g)]) => ?_
  have MM : MemS (fun k => k < w0.heap.size ∧ ∀ x ∈ (g, oC #[sB X, iN u] 84) :: ([] : Blks), x.1 ≠ k) w0 w0 ((g, oC #[sB X, iN u] 84) :: ([] : Blks)) [] := MemS.startN (one_has hg) ⟨fun y hy => (nomatch hy), trivial⟩
  refine wp_seq (rg_c FF MM [(0, s_ 0 (.cells (cn .u8 (List.replicate 32 0)) 42))] 3 [] [] (⟨(by kernel_rfl), fun br => fun _ _ FF1 MM1 => then_n ?_⟩))
  refine wp_seq (rg_c FF1 MM1 [(0, s_ 0 (.cells (cn .u8 (List.replicate 32 0)) 42))] 4 [] [] (⟨(by kernel_rfl), fun bk => fun _ _ FF2 MM2 => then_n ?_⟩))
  refine wp_mid (fun a' w' => Fr 9 a' [(3, pT bk), (2, pT br)] ∧ MemS (fun k => k < w0.heap.size ∧ ∀ x ∈ (g, oC #[sB X, iN u] 84) :: ([] : Blks), x.1 ≠ k) w0 w' ((bk, .cells (cn .u8 (takN 32 X)) 42) :: (br, .cells (cn .u8 (List.replicate 32 0)) 42) :: (g, oC #[sB (X.drop 32), iN (u + 32)] 84) :: ([] : Blks)) []) ?_ ?_
  · skip
    refine draw_open (N := 4) (by kernel_rfl) (by kernel_rfl) MM2 fun wq3 (MM4 : MemS (fun k => k < w0.heap.size ∧ ∀ x ∈ (g, oC #[sB X, iN u] 84) :: ([] : Blks), x.1 ≠ k) w0 wq3 ((bk, .cells (cn .u8 (List.replicate 32 0)) 42) :: (br, .cells (cn .u8 (List.replicate 32 0)) 42) :: (g, oC #[sB X, iN u] 84) :: ([] : Blks)) []) => ?_
    refine take_op FF2 (i := 1) (oi := (opAt Try.f32 2 1)) (v := (pT g)) (d := 5) (by kernel_rfl) (by kernel_rfl) (by kernel_rfl) (by kernel_rfl) (fun _ _ _ _ _ h => h) (by kernel_rfl) (by decide) (by kernel_rfl) (mvV (x := (.tmp 0)) (by kernel_rfl) rfl) fun _ FF5 => ?_
    refine any_two (i := 0) (oi := (opAt Try.f32 2 0)) (j := 2) (oj := (opAt Try.f32 2 2)) (by kernel_rfl) (by kernel_rfl) (by kernel_rfl) ?_ ?_
    · skip
      refine rp_c 1 FF5 MM4 [] 6 [] [0] (⟨by decide, by decide, by decide, fun _ _ FF6 MM6 => ?_⟩)
      refine wpl_nil (onN_n ?_)
      refine any_one (i := 2) (o := (opAt Try.f32 2 2)) (by kernel_rfl) (by kernel_rfl) ?_
      refine rp_c 1 FF6 MM6 [(0, c_ (sB (takN 32 X)) [(2, oC #[sB (X.drop 32), iN (u + 32)] 84)])] 5 [6] [] (⟨(callU_turn en_take (g := g) (ob := TB X u) rfl fun w hg => by have h0 := take_any g 32 X u hX (by omega) (by decide) w hg; exact h0), fun _ _ FF7 MM7 => ?_⟩)
      refine wpl_nil (onN_n ?_)
      refine any_one (i := 3) (o := (opAt Try.f32 2 3)) (by kernel_rfl) (by kernel_rfl) ?_
      refine rp_c 1 FF7 MM7 [(0, r_ (iN (min (takN 32 X).length 32)) [(0, .cells (cn .u8 (takN 32 X)) 42)])] 4 [] [] (⟨(copyStr_ok (p := .tmp 4) (q := .tmp 6) (t := 73) (tq := 9) (e := 5) (T := 42) (off := 0) (len := 32) (X := takN 32 X) (cs := cn .u8 (List.replicate 32 0)) (i := 0) (by kernel_rfl) rfl rfl (takN_lt hX 32) Try.underlying73 (by kernel_rfl) rfl (by rw [cn_size, List.length_replicate]; decide) (by rw [List.take_of_length_le (by rw [takN_len]; decide)]; exact setFrom_new8 (by rw [List.length_replicate, takN_len]))), fun _ _ FF8 MM8 => ?_⟩)
      refine wpl_nil (onN_n ?_)
      refine any_none (by kernel_rfl) (then_n ?_)
      exact ⟨FF8.pick [0, 1], MM8⟩
    · skip
      refine rp_c 1 FF5 MM4 [(0, c_ (sB (takN 32 X)) [(2, oC #[sB (X.drop 32), iN (u + 32)] 84)])] 4 [6] [0] (⟨(callU_turn en_take (g := g) (ob := TB X u) rfl fun w hg => by have h0 := take_any g 32 X u hX (by omega) (by decide) w hg; exact h0), fun _ _ FF9 MM9 => ?_⟩)
      refine wpl_nil (onN_n ?_)
      refine any_one (i := 0) (o := (opAt Try.f32 2 0)) (by kernel_rfl) (by kernel_rfl) ?_
      refine rp_c 1 FF9 MM9 [] 7 [] [] (⟨by decide, by decide, by decide, fun _ _ FF10 MM10 => ?_⟩)
      refine wpl_nil (onN_n ?_)
      refine any_one (i := 3) (o := (opAt Try.f32 2 3)) (by kernel_rfl) (by kernel_rfl) ?_
      refine rp_c 1 FF10 MM10 [(0, r_ (iN (min (takN 32 X).length 32)) [(0, .cells (cn .u8 (takN 32 X)) 42)])] 4 [] [] (⟨(copyStr_ok (p := .tmp 4) (q := .tmp 6) (t := 73) (tq := 9) (e := 5) (T := 42) (off := 0) (len := 32) (X := takN 32 X) (cs := cn .u8 (List.replicate 32 0)) (i := 0) (by kernel_rfl) rfl rfl (takN_lt hX 32) Try.underlying73 (by kernel_rfl) rfl (by rw [cn_size, List.length_replicate]; decide) (by rw [List.take_of_length_le (by rw [takN_len]; decide)]; exact setFrom_new8 (by rw [List.length_replicate, takN_len]))), fun _ _ FF11 MM11 => ?_⟩)
      refine wpl_nil (onN_n ?_)
      refine any_none (by kernel_rfl) (then_n ?_)
      exact ⟨FF11.pick [0, 1], MM11⟩
  · rintro ac12 wd12 ⟨FF12, MM12⟩
    refine wp_seq (rg_c FF12 MM12 [(0, b_ 0), (0, b_ 1)] 4 [] [] (⟨rfl, ((cn_size _ _).trans (takN_len _ _)), rfl, ((cn_size _ _).trans (List.length_replicate ..)), ((cn_size _ _).trans (takN_len _ _)), (cn_one _ _), rfl, fun _ _ FF13 MM13 => then_n ?_⟩))
    refine wp_ret ?_
    repeat first | refine then_ret ?_ | refine inb_ret ?_
    exact (retc FF13 MM13 (k := 32) (i := 1) (j := 1) Try.results32 rfl rfl Try.underlying42 rfl (by kernel_rfl) ((cn_size _ _).trans (takN_len _ _)) ⟨rfl, MM13.turn (O := []) (fun i x hx => by simp at hx) 2 rfl (fun x hx => (nomatch hx))⟩)
end Go.Proofs.Ytniplfjnpjihoaa
namespace Go.Proofs.Ytniplfjnpjihoaa
open Go.RowKit
theorem en_crotl : Enters Try.prog 96 := fun args w => by simp [go_sem]
theorem en_quarter : Enters Try.prog 88 := fun args w => by simp [go_sem]
theorem en_cword : Enters Try.prog 72 := fun args w => by simp [go_sem]
theorem en_laid : Enters Try.prog 56 := fun args w => by simp [go_sem]
theorem en_stirred : Enters Try.prog 73 := fun args w => by simp [go_sem]
theorem en_cblk : Enters Try.prog 58 := fun args w => by simp [go_sem]
theorem en_cturn : Enters Try.prog 57 := fun args w => by simp [go_sem]
set_option maxRecDepth 100000 in
theorem crotl_w (x n : Nat) (hx : x < 4294967296) (h0 : 0 < n) (hn : n < 32) (w0 : World) :
    Calls Try.prog 96 #[.int .u32 (x : Nat), iN n] w0 fun e w' => e = .returned (.int .u32 (rN (2 ^ n) (2 ^ (32 - n)) x : Nat)) ∧ Below w0.heap.size w0 w' := by
  refine enter_fr Try.func96 rfl Try.ntmps96 (by simp) fun ac (FF : Fr 17 ac [(0, .int .u32 (x : Nat)), (1, iN n)]) => ?_
  have MM := MemS.start w0
  refine wp_seq (rg_c FF MM [] 5 [] [] (fun _ _ FF1 MM1 => then_n ?_))
  refine wp_seq (rg_c FF1 MM1 [(2, t_ (iW n))] 6 [] [1] (⟨(by have := h0; have := hn; omega), by decide, (vI ((and_low 5 _).trans (by omega))), fun _ _ FF2 MM2 => then_n ?_⟩))
  refine wp_seq (rg_c FF2 MM2 [(5, u_ 1 (iW (32 - n))), (1, t_ (.int .u32 (rN (2 ^ n) (2 ^ (32 - n)) x : Nat)))] 0 [4] [] (⟨by omega, by omega, rfl, (by show _ ≤ 32; have := hx; omega), (Nat.mod_lt _ (by decide)), (Nat.lt_of_le_of_lt (Nat.div_le_self _ _) hx), rfl, fun _ _ FF3 MM3 => then_n ?_⟩))
  refine wp_ret ?_
  repeat first | refine then_ret ?_ | refine inb_ret ?_
  exact (ret_fr FF3 0 Try.results96 rfl ⟨rfl, MM3.below⟩)
theorem crotl_any (x n m d : Nat) (hx : x < 4294967296) (h0 : 0 < n) (hn : n < 32) (hm : 2 ^ n = m) (hd : 2 ^ (32 - n) = d) (w : World) : Calls Try.prog 96 #[.int .u32 (x : Nat), iN n] w fun e w' => e = .returned (.int .u32 (rN m d x : Nat)) ∧ Below w.heap.size w w' := by
  subst hm hd
  exact crotl_w x n hx h0 hn w
set_option maxRecDepth 100000 in
theorem quarter_any (a b c d : Nat) (hb : b < 4294967296) (hd : d < 4294967296) (w0 : World) :
    Calls Try.prog 88 #[.int .u32 (a : Nat), .int .u32 (b : Nat), .int .u32 (c : Nat), .int .u32 (d : Nat)] w0 fun e w' => e = .returned (.tuple #[.int .u32 ((q4 a b c d).a : Nat), .int .u32 ((q4 a b c d).b : Nat), .int .u32 ((q4 a b c d).c : Nat), .int .u32 ((q4 a b c d).d : Nat)]) ∧ Below w0.heap.size w0 w' := by
  refine enter_fr Try.func88 rfl Try.ntmps88 (by simp) fun ac (FF : Fr 44 ac [(0, .int .u32 (a : Nat)), (1, .int .u32 (b : Nat)), (2, .int .u32 (c : Nat)), (3, .int .u32 (d : Nat))]) => ?_
  have MM := MemS.start w0
  refine wp_seq (rg_c FF MM [] 12 [] [] (fun _ _ FF1 MM1 => then_n ?_))
  obtain ⟨a1, ea1⟩ : ∃ z, (a + b) % 4294967296 = z := ⟨_, rfl⟩
  have ha1 : a1 < 4294967296 := ea1 ▸ (Nat.mod_lt _ (by decide))
  refine wp_seq (rg_c FF1 MM1 [(2, t_ (.int .u32 (a1 : Nat)))] 12 [] [] (⟨(vI ea1), fun _ _ FF2 MM2 => then_n ?_⟩))
  obtain ⟨d1, ed1⟩ : ∃ z, rN 65536 65536 (d ^^^ a1) = z := ⟨_, rfl⟩
  have hd1 : d1 < 4294967296 := ed1 ▸ rN_lt 65536 65536 _ (xor_lt hd ha1)
  refine wp_seq (rg_c FF2 MM2 [(3, t_ (.int .u32 (d1 : Nat)))] 12 [] [] (⟨hd, ha1, (by rw [← ed1]; exact (callP_of en_crotl (crotl_any (d ^^^ a1) 16 65536 65536 (xor_lt hd ha1) (by decide) (by decide) rfl rfl) _)), fun _ _ FF3 MM3 => then_n ?_⟩))
  obtain ⟨c1, ec1⟩ : ∃ z, (c + d1) % 4294967296 = z := ⟨_, rfl⟩
  have hc1 : c1 < 4294967296 := ec1 ▸ (Nat.mod_lt _ (by decide))
  refine wp_seq (rg_c FF3 MM3 [(2, t_ (.int .u32 (c1 : Nat)))] 12 [] [] (⟨(vI ec1), fun _ _ FF4 MM4 => then_n ?_⟩))
  obtain ⟨b1, eb1⟩ : ∃ z, rN 4096 1048576 (b ^^^ c1) = z := ⟨_, rfl⟩
  have hb1 : b1 < 4294967296 := eb1 ▸ rN_lt 4096 1048576 _ (xor_lt hb hc1)
  refine wp_seq (rg_c FF4 MM4 [(3, t_ (.int .u32 (b1 : Nat)))] 12 [] [] (⟨hb, hc1, (by rw [← eb1]; exact (callP_of en_crotl (crotl_any (b ^^^ c1) 12 4096 1048576 (xor_lt hb hc1) (by decide) (by decide) rfl rfl) _)), fun _ _ FF5 MM5 => then_n ?_⟩))
  obtain ⟨a2, ea2⟩ : ∃ z, (a1 + b1) % 4294967296 = z := ⟨_, rfl⟩
  have ha2 : a2 < 4294967296 := ea2 ▸ (Nat.mod_lt _ (by decide))
  refine wp_seq (rg_c FF5 MM5 [(2, t_ (.int .u32 (a2 : Nat)))] 12 [] [] (⟨(vI ea2), fun _ _ FF6 MM6 => then_n ?_⟩))
  obtain ⟨d2, ed2⟩ : ∃ z, rN 256 16777216 (d1 ^^^ a2) = z := ⟨_, rfl⟩
  have hd2 : d2 < 4294967296 := ed2 ▸ rN_lt 256 16777216 _ (xor_lt hd1 ha2)
  refine wp_seq (rg_c FF6 MM6 [(3, t_ (.int .u32 (d2 : Nat)))] 12 [] [] (⟨hd1, ha2, (by rw [← ed2]; exact (callP_of en_crotl (crotl_any (d1 ^^^ a2) 8 256 16777216 (xor_lt hd1 ha2) (by decide) (by decide) rfl rfl) _)), fun _ _ FF7 MM7 => then_n ?_⟩))
  obtain ⟨c2, ec2⟩ : ∃ z, (c1 + d2) % 4294967296 = z := ⟨_, rfl⟩
  have hc2 : c2 < 4294967296 := ec2 ▸ (Nat.mod_lt _ (by decide))
  refine wp_seq (rg_c FF7 MM7 [(2, t_ (.int .u32 (c2 : Nat)))] 12 [] [] (⟨(vI ec2), fun _ _ FF8 MM8 => then_n ?_⟩))
  obtain ⟨b2, eb2⟩ : ∃ z, rN 128 33554432 (b1 ^^^ c2) = z := ⟨_, rfl⟩
  have hb2 : b2 < 4294967296 := eb2 ▸ rN_lt 128 33554432 _ (xor_lt hb1 hc2)
  refine wp_seq (rg_c FF8 MM8 [(3, t_ (.int .u32 (b2 : Nat)))] 12 [] [] (⟨hb1, hc2, (by rw [← eb2]; exact (callP_of en_crotl (crotl_any (b1 ^^^ c2) 7 128 33554432 (xor_lt hb1 hc2) (by decide) (by decide) rfl rfl) _)), fun _ _ FF9 MM9 => then_n ?_⟩))
  refine wp_seq (rg_c FF9 MM9 [] 12 [] [] (fun _ _ FF10 MM10 => then_n ?_))
  refine wp_ret ?_
  repeat first | refine then_ret ?_ | refine inb_ret ?_
  exact (ret_tup4 FF10 3 2 1 0 Try.results88 rfl rfl rfl rfl ⟨by subst ea1 ed1 ec1 eb1 ea2 ed2 ec2 eb2; rfl, MM10.below⟩)
set_option maxRecDepth 100000 in
theorem cword_any (X : List Nat) (hl : X.length = 4) (hX : ∀ i, X.getD i 0 < 256) (w0 : World) :
    Calls Try.prog 72 #[.agg (cn .u8 X)] w0 fun e w' => e = .returned (.int .u32 (cwdL X : Nat)) ∧ Below w0.heap.size w0 w' := by
  refine enter_fr Try.func72 rfl Try.ntmps72 (by simp) fun ac (FF : Fr 21 ac [(0, .agg (cn .u8 X))]) => ?_
  have MM := MemS.start w0
  have h0 := hX 0
  have h1 := hX 1
  have h2 := hX 2
  have h3 := hX 3
  refine wp_seq (rg_c FF MM [(0, s_ 0 (.cells (cn .u8 X) 142))] 3 [] [0] (⟨(by kernel_rfl), fun b1 => fun _ _ FF1 MM1 => then_n ?_⟩))
  refine wp_seq (rg_c FF1 MM1 [(0, w_ 1), (0, l_ 0 (iB (X.getD 0 0))), (0, w_ 1), (0, w_ 1), (0, l_ 0 (iB (X.getD 1 0))), (0, w_ 1), (0, t_ (.int .u32 (X.getD 1 0 * 256 : Nat))), (0, t_ (.int .u32 (X.getD 0 0 + X.getD 1 0 * 256 : Nat))), (0, w_ 1), (0, l_ 0 (iB (X.getD 2 0))), (0, w_ 1), (0, t_ (.int .u32 (X.getD 2 0 * 65536 : Nat))), (0, t_ (.int .u32 (X.getD 0 0 + X.getD 1 0 * 256 + X.getD 2 0 * 65536 : Nat))), (0, w_ 1), (0, l_ 0 (iB (X.getD 3 0))), (0, w_ 1), (0, t_ (.int .u32 (X.getD 3 0 * 16777216 : Nat))), (0, t_ (.int .u32 (cwdL X : Nat)))] 0 [2] [] (⟨by decide, rfl, (cn_get _ _ _ (by rw [hl]; decide)), (by have := hX 0; omega), by decide, rfl, (cn_get _ _ _ (by rw [hl]; decide)), (by have := hX 1; omega), (vI (Nat.mod_eq_of_lt (by omega))), by omega, by omega, (vI (or_shl 8 h0)), by decide, rfl, (cn_get _ _ _ (by rw [hl]; decide)), (by have := hX 2; omega), (vI (Nat.mod_eq_of_lt (by omega))), by omega, by omega, (vI (or_shl 16 (by omega))), by decide, rfl, (cn_get _ _ _ (by rw [hl]; decide)), (by have := hX 3; omega), (vI (Nat.mod_eq_of_lt (by omega))), by omega, by omega, (vI (cwdL_or hX)), fun _ _ FF2 MM2 => then_n ?_⟩))
  refine wp_ret ?_
  repeat first | refine then_ret ?_ | refine inb_ret ?_
  exact (ret_fr FF2 0 Try.results72 rfl ⟨rfl, MM2.below⟩)
set_option maxRecDepth 100000 in
theorem laid_any (ks ns : List Nat) (c : Nat) (hks : Bytes 32 ks) (hns : Bytes 12 ns) (w0 : World) :
    Calls Try.prog 56 #[.agg (cn .u8 ks), .int .u32 (c : Nat), .agg (cn .u8 ns)] w0 fun e w' => e = .returned (.agg (cn .u32 (laid ks c ns))) ∧ Below w0.heap.size w0 w' := by
  refine enter_fr Try.func56 rfl Try.ntmps56 (by simp) fun ac (FF : Fr 39 ac [(0, .agg (cn .u8 ks)), (1, .int .u32 (c : Nat)), (2, .agg (cn .u8 ns))]) => ?_
  have MM := MemS.start w0
  refine wp_seq (rg_c FF MM [(0, s_ 0 (.cells (cn .u8 ks) 42)), (0, s_ 0 (.cells (cn .u8 ns) 45)), (0, s_ 0 (.cells (cn .u32 (List.replicate 16 0)) 126))] 7 [] [0, 2] (⟨(by kernel_rfl), fun bk => ⟨(by kernel_rfl), fun bn => ⟨(by kernel_rfl), fun br => fun _ _ FF1 MM1 => then_n ?_⟩⟩⟩))
  refine wp_seq (rg_c FF1 MM1 [(1, t_ (.agg (cn .u32 ([1634760805, 857760878, 2036477234, 1797285236, 0, 0, 0, 0, 0, 0, 0, 0, c, 0, 0, 0])))), (0, s_ 0 (.cells (cn .u32 (List.replicate 16 0)) 126)), (0, b_ 0)] 8 [] [1] (⟨(by kernel_rfl), (by kernel_rfl), fun bw => ⟨rfl, ((cn_size _ _).trans (List.length_replicate ..)), ((cn_size _ _).trans rfl), (cn_one _ _), rfl, fun _ wd2 FF2 MM2 => then_n ?_⟩⟩))
  have MMr4 : MemS (fun k => k < w0.heap.size) w0 wd2 [(bw, .cells (cn .u32 (setTo 4 ks (lay0 c) 0)) 126), (br, .cells (cn .u32 (List.replicate 16 0)) 126), (bn, .cells (cn .u8 ns) 45), (bk, .cells (cn .u8 ks) 42)] [] := MM2
  refine wp_seq ?_
  refine wp_seq (rg_c FF2 MMr4 [] 13 [] [] (fun _ _ FF3 MM3 => then_n ?_))
  refine wp_for (fun a' w' => ∃ i : Nat, i ≤ 8 ∧ Fr 39 a' [(12, iN i), (7, pT bw), (6, pT br), (5, pT bn), (3, pT bk)] ∧ MemS (fun k => k < w0.heap.size) w0 w' [(bw, .cells (cn .u32 (setTo 4 ks (lay0 c) i)) 126), (br, .cells (cn .u32 (List.replicate 16 0)) 126), (bn, .cells (cn .u8 ns) 45), (bk, .cells (cn .u8 ks) 42)] []) (fun a' _ => (8 - cnt 12 a').toNat) ⟨0, Nat.zero_le _, FF3.pick [0, 1, 2, 3, 4], MM3⟩ ?_
  rintro ac4 wd4 ⟨i, hi, FF4, MM4⟩
  have hc := cnt_of (FF4.get 0 rfl)
  refine rg_c FF4 MM4 [] 14 [] [] (fun _ _ FF5 MM5 => ?_)
  by_cases hlt : i < 8
  · skip
    refine then_n (.inl ⟨(FF5.ev 0 rfl).trans (dec_t hlt), ?_⟩)
    refine wp_seq (rg_c FF5 MM5 [] 13 [] [] (fun _ _ FF6 MM6 => then_n ?_))
    refine rg_c FF6 MM6 [(4, w_ 2), (1, l_ 3 (.agg (cn .u8 (quad ks i)))), (0, t_ (.int .u32 (cwdAt ks i : Nat))), (0, w_ 1), (0, s_ 0 (.cells (cn .u32 ((setTo 4 ks (lay0 c) i).set (4 + i) (cwdAt ks i))) 126))] 13 [] [] (⟨by omega, by omega, by omega, by decide, by omega, by omega, rfl, (quad_part (by rw [hks.len]; omega)), ((cn_size _ _).trans rfl), (callP_of en_cword (cword_any (quad ks i) rfl (quad_lt hks.lt i)) _), by omega, rfl, (by rw [cn_size, (setTo_len16 _ _ _ _)]; omega), (.inl rfl), (cn_set _ _ _ _), fun _ wd7 FF7 MM7 => ?_⟩)
    have MMr16 : MemS (fun k => k < w0.heap.size) w0 wd7 [(bw, .cells (cn .u32 (setTo 4 ks (lay0 c) (i + 1))) 126), (br, .cells (cn .u32 (List.replicate 16 0)) 126), (bn, .cells (cn .u8 ns) 45), (bk, .cells (cn .u8 ks) 42)] [] := MM7
    refine inb_n (then_n ?_)
    refine rg_c FF7 MMr16 [] 13 [] [] (⟨by omega, fun _ _ FF8 MM8 => ?_⟩)
    have hd := cnt_of (FF8.get 0 rfl)
    refine then_n ⟨⟨i + 1, by omega, FF8.pick [0, 2, 3, 4, 5], MM8⟩, ?_⟩
    rw [hc, hd]; omega
  · skip
    refine then_n (.inr ⟨(FF5.ev 0 rfl).trans (dec_f hlt), ?_⟩)
    obtain rfl : i = 8 := by omega
    refine then_n ?_
    refine wp_seq ?_
    refine wp_seq (rg_c FF5 MM5 [] 13 [25] [] (fun _ wd9 FF9 MM9 => then_n ?_))
    have MMr28 : MemS (fun k => k < w0.heap.size) w0 wd9 [(bw, .cells (cn .u32 (setTo 13 ns (setTo 4 ks (lay0 c) 8) 0)) 126), (br, .cells (cn .u32 (List.replicate 16 0)) 126), (bn, .cells (cn .u8 ns) 45), (bk, .cells (cn .u8 ks) 42)] [] := MM9
    refine wp_for (fun a' w' => ∃ i : Nat, i ≤ 3 ∧ Fr 39 a' [(25, iN i), (12, iN 8), (7, pT bw), (6, pT br), (5, pT bn), (3, pT bk)] ∧ MemS (fun k => k < w0.heap.size) w0 w' [(bw, .cells (cn .u32 (setTo 13 ns (setTo 4 ks (lay0 c) 8) i)) 126), (br, .cells (cn .u32 (List.replicate 16 0)) 126), (bn, .cells (cn .u8 ns) 45), (bk, .cells (cn .u8 ks) 42)] []) (fun a' _ => (3 - cnt 25 a').toNat) ⟨0, Nat.zero_le _, FF9.pick [0, 1, 2, 3, 4, 5], MMr28⟩ ?_
    rintro ac10 wd10 ⟨i, hi, FF10, MM10⟩
    have hc := cnt_of (FF10.get 0 rfl)
    refine rg_c FF10 MM10 [] 27 [] [] (fun _ wd11 FF11 MM11 => ?_)
    by_cases hlt : i < 3
    · skip
      refine then_n (.inl ⟨(FF11.ev 0 rfl).trans (dec_t hlt), ?_⟩)
      refine wp_seq (rg_c FF11 MM11 [] 26 [] [] (fun _ _ FF12 MM12 => then_n ?_))
      refine rg_c FF12 MM12 [(4, w_ 2), (1, l_ 2 (.agg (cn .u8 (quad ns i)))), (0, t_ (.int .u32 (cwdAt ns i : Nat))), (0, w_ 1), (0, s_ 0 (.cells (cn .u32 ((setTo 13 ns (setTo 4 ks (lay0 c) 8) i).set (13 + i) (cwdAt ns i))) 126))] 26 [] [] (⟨by omega, by omega, by omega, by decide, by omega, by omega, rfl, (quad_part (by rw [hns.len]; omega)), ((cn_size _ _).trans rfl), (callP_of en_cword (cword_any (quad ns i) rfl (quad_lt hns.lt i)) _), by omega, rfl, (by rw [cn_size, ((setTo_len _ _ _ _).trans (setTo_len16 _ _ _ _))]; omega), (.inl rfl), (cn_set _ _ _ _), fun _ wd13 FF13 MM13 => ?_⟩)
      have MMr38 : MemS (fun k => k < w0.heap.size) w0 wd13 [(bw, .cells (cn .u32 (setTo 13 ns (setTo 4 ks (lay0 c) 8) (i + 1))) 126), (br, .cells (cn .u32 (List.replicate 16 0)) 126), (bn, .cells (cn .u8 ns) 45), (bk, .cells (cn .u8 ks) 42)] [] := MM13
      refine inb_n (then_n ?_)
      refine rg_c FF13 MMr38 [] 26 [] [] (⟨by omega, fun _ _ FF14 MM14 => ?_⟩)
      have hd := cnt_of (FF14.get 0 rfl)
      refine then_n ⟨⟨i + 1, by omega, FF14.pick [0, 2, 3, 4, 5, 6], MM14⟩, ?_⟩
      rw [hc, hd]; omega
    · skip
      refine then_n (.inr ⟨(FF11.ev 0 rfl).trans (dec_f hlt), ?_⟩)
      obtain rfl : i = 3 := by omega
      have MMr47 : MemS (fun k => k < w0.heap.size) w0 wd11 [(bw, .cells (cn .u32 (laid ks c ns)) 126), (br, .cells (cn .u32 (List.replicate 16 0)) 126), (bn, .cells (cn .u8 ns) 45), (bk, .cells (cn .u8 ks) 42)] [] := MM11
      refine then_n ?_
      refine wp_seq (rg_c FF11 MMr47 [(0, b_ 0), (0, b_ 1)] 26 [] [] (⟨rfl, ((cn_size _ _).trans rfl), rfl, ((cn_size _ _).trans (List.length_replicate ..)), ((cn_size _ _).trans rfl), (cn_one _ _), rfl, fun _ _ FF15 MM15 => then_n ?_⟩))
      refine wp_ret ?_
      repeat first | refine then_ret ?_ | refine inb_ret ?_
      exact (retc FF15 MM15 (k := 16) (i := 1) (j := 3) Try.results56 rfl rfl Try.underlying126 rfl (by kernel_rfl) ((cn_size _ _).trans rfl) ⟨rfl, MM15.below⟩)
end Go.Proofs.Ytniplfjnpjihoaa
namespace Go.Proofs.Ytniplfjnpjihoaa
open Go.RowKit
set_option maxHeartbeats 1000000 in
set_option maxRecDepth 100000 in
theorem stirred_any (l : List Nat) (H : Words l) (w0 : World) :
    Calls Try.prog 73 #[.agg (cn .u32 l)] w0 fun e w' => e = .returned (.agg (cn .u32 (dblN l 10))) ∧ Below w0.heap.size w0 w' := by
  refine enter_fr Try.func73 rfl Try.ntmps73 (by simp) fun ac (FF : Fr 151 ac [(0, .agg (cn .u32 l))]) => ?_
  have MM := MemS.start w0
  refine wp_seq (rg_c FF MM [(0, s_ 0 (.cells (cn .u32 l) 126)), (0, s_ 0 (.cells (cn .u32 (List.replicate 16 0)) 126))] 3 [] [0] (⟨(by kernel_rfl), fun bw => ⟨(by kernel_rfl), fun br => fun _ _ FF1 MM1 => then_n ?_⟩⟩))
  refine wp_seq ?_
  refine wp_seq (rg_c FF1 MM1 [] 4 [] [] (fun _ wd2 FF2 MM2 => then_n ?_))
  have MMr5 : MemS (fun k => k < w0.heap.size) w0 wd2 [(br, .cells (cn .u32 (List.replicate 16 0)) 126), (bw, .cells (cn .u32 (dblN l 0)) 126)] [] := MM2
  refine wp_for (fun a' w' => ∃ i : Nat, i ≤ 10 ∧ Fr 151 a' [(3, iN i), (2, pT br), (1, pT bw)] ∧ MemS (fun k => k < w0.heap.size) w0 w' [(br, .cells (cn .u32 (List.replicate 16 0)) 126), (bw, .cells (cn .u32 (dblN l i)) 126)] []) (fun a' _ => (10 - cnt 3 a').toNat) ⟨0, Nat.zero_le _, FF2.pick [0, 1, 2], MMr5⟩ ?_
  rintro ac3 wd3 ⟨i, hi, FF3, MM3⟩
  have hc := cnt_of (FF3.get 0 rfl)
  refine rg_c FF3 MM3 [] 5 [] [] (fun _ wd4 FF4 MM4 => ?_)
  by_cases hlt : i < 10
  · skip
    refine then_n (.inl ⟨(FF4.ev 0 rfl).trans (dec_t hlt), ?_⟩)
    obtain ⟨l0, e0⟩ : ∃ z, dblN l i = z := ⟨_, rfl⟩
    have H0 : Words l0 := e0 ▸ H.dblN i
    have MMr15 : MemS (fun k => k < w0.heap.size) w0 wd4 [(br, .cells (cn .u32 (List.replicate 16 0)) 126), (bw, .cells (cn .u32 l0) 126)] [] := by rw [← e0]; exact MM4
    refine wp_seq (rg_c FF4 MMr15 [(0, w_ 1), (0, l_ 1 (.int .u32 (l0.getD 0 0 : Nat))), (0, w_ 1), (0, l_ 1 (.int .u32 (l0.getD 4 0 : Nat))), (0, w_ 1), (0, l_ 1 (.int .u32 (l0.getD 8 0 : Nat))), (0, w_ 1), (0, l_ 1 (.int .u32 (l0.getD 12 0 : Nat))), (0, t_ (.tuple #[.int .u32 ((q4 (l0.getD 0 0) (l0.getD 4 0) (l0.getD 8 0) (l0.getD 12 0)).a : Nat), .int .u32 ((q4 (l0.getD 0 0) (l0.getD 4 0) (l0.getD 8 0) (l0.getD 12 0)).b : Nat), .int .u32 ((q4 (l0.getD 0 0) (l0.getD 4 0) (l0.getD 8 0) (l0.getD 12 0)).c : Nat), .int .u32 ((q4 (l0.getD 0 0) (l0.getD 4 0) (l0.getD 8 0) (l0.getD 12 0)).d : Nat)])), (5, w_ 1), (0, s_ 1 (.cells (cn .u32 (l0.set 0 ((q4 (l0.getD 0 0) (l0.getD 4 0) (l0.getD 8 0) (l0.getD 12 0)).a))) 126)), (0, w_ 1), (0, s_ 1 (.cells (cn .u32 ((l0.set 0 ((q4 (l0.getD 0 0) (l0.getD 4 0) (l0.getD 8 0) (l0.getD 12 0)).a)).set 4 ((q4 (l0.getD 0 0) (l0.getD 4 0) (l0.getD 8 0) (l0.getD 12 0)).b))) 126)), (0, w_ 1), (0, s_ 1 (.cells (cn .u32 (((l0.set 0 ((q4 (l0.getD 0 0) (l0.getD 4 0) (l0.getD 8 0) (l0.getD 12 0)).a)).set 4 ((q4 (l0.getD 0 0) (l0.getD 4 0) (l0.getD 8 0) (l0.getD 12 0)).b)).set 8 ((q4 (l0.getD 0 0) (l0.getD 4 0) (l0.getD 8 0) (l0.getD 12 0)).c))) 126)), (0, w_ 1), (0, s_ 1 (.cells (cn .u32 ((((l0.set 0 ((q4 (l0.getD 0 0) (l0.getD 4 0) (l0.getD 8 0) (l0.getD 12 0)).a)).set 4 ((q4 (l0.getD 0 0) (l0.getD 4 0) (l0.getD 8 0) (l0.getD 12 0)).b)).set 8 ((q4 (l0.getD 0 0) (l0.getD 4 0) (l0.getD 8 0) (l0.getD 12 0)).c)).set 12 ((q4 (l0.getD 0 0) (l0.getD 4 0) (l0.getD 8 0) (l0.getD 12 0)).d))) 126))] 4 [] [] (⟨by decide, rfl, (cn_get _ _ _ (by rw [H0.len]; decide)), by decide, rfl, (cn_get _ _ _ (by rw [H0.len]; decide)), by decide, rfl, (cn_get _ _ _ (by rw [H0.len]; decide)), by decide, rfl, (cn_get _ _ _ (by rw [H0.len]; decide)), (callP_of en_quarter (quarter_any (l0.getD 0 0) (l0.getD 4 0) (l0.getD 8 0) (l0.getD 12 0) (H0.lt 4) (H0.lt 12)) _), by decide, rfl, (by rw [cn_size, H0.len]; decide), (.inl rfl), (cn_set _ _ _ _), by decide, rfl, (by rw [cn_size, (len_set H0.len)]; decide), (.inl rfl), (cn_set _ _ _ _), by decide, rfl, (by rw [cn_size, (len_set (len_set H0.len))]; decide), (.inl rfl), (cn_set _ _ _ _), by decide, rfl, (by rw [cn_size, (len_set (len_set (len_set H0.len)))]; decide), (.inl rfl), (cn_set _ _ _ _), fun _ wd5 FF5 MM5 => then_n ?_⟩))
    obtain ⟨l1, e1⟩ : ∃ z, qAt l0 0 4 8 12 = z := ⟨_, rfl⟩
    have H1 : Words l1 := e1 ▸ H0.qAt 0 4 8 12
    have MMr19 : MemS (fun k => k < w0.heap.size) w0 wd5 [(br, .cells (cn .u32 (List.replicate 16 0)) 126), (bw, .cells (cn .u32 l1) 126)] [] := by rw [← e1]; exact MM5
    refine wp_seq (rg_c FF5 MMr19 [(0, w_ 1), (0, l_ 1 (.int .u32 (l1.getD 1 0 : Nat))), (0, w_ 1), (0, l_ 1 (.int .u32 (l1.getD 5 0 : Nat))), (0, w_ 1), (0, l_ 1 (.int .u32 (l1.getD 9 0 : Nat))), (0, w_ 1), (0, l_ 1 (.int .u32 (l1.getD 13 0 : Nat))), (0, t_ (.tuple #[.int .u32 ((q4 (l1.getD 1 0) (l1.getD 5 0) (l1.getD 9 0) (l1.getD 13 0)).a : Nat), .int .u32 ((q4 (l1.getD 1 0) (l1.getD 5 0) (l1.getD 9 0) (l1.getD 13 0)).b : Nat), .int .u32 ((q4 (l1.getD 1 0) (l1.getD 5 0) (l1.getD 9 0) (l1.getD 13 0)).c : Nat), .int .u32 ((q4 (l1.getD 1 0) (l1.getD 5 0) (l1.getD 9 0) (l1.getD 13 0)).d : Nat)])), (5, w_ 1), (0, s_ 1 (.cells (cn .u32 (l1.set 1 ((q4 (l1.getD 1 0) (l1.getD 5 0) (l1.getD 9 0) (l1.getD 13 0)).a))) 126)), (0, w_ 1), (0, s_ 1 (.cells (cn .u32 ((l1.set 1 ((q4 (l1.getD 1 0) (l1.getD 5 0) (l1.getD 9 0) (l1.getD 13 0)).a)).set 5 ((q4 (l1.getD 1 0) (l1.getD 5 0) (l1.getD 9 0) (l1.getD 13 0)).b))) 126)), (0, w_ 1), (0, s_ 1 (.cells (cn .u32 (((l1.set 1 ((q4 (l1.getD 1 0) (l1.getD 5 0) (l1.getD 9 0) (l1.getD 13 0)).a)).set 5 ((q4 (l1.getD 1 0) (l1.getD 5 0) (l1.getD 9 0) (l1.getD 13 0)).b)).set 9 ((q4 (l1.getD 1 0) (l1.getD 5 0) (l1.getD 9 0) (l1.getD 13 0)).c))) 126)), (0, w_ 1), (0, s_ 1 (.cells (cn .u32 ((((l1.set 1 ((q4 (l1.getD 1 0) (l1.getD 5 0) (l1.getD 9 0) (l1.getD 13 0)).a)).set 5 ((q4 (l1.getD 1 0) (l1.getD 5 0) (l1.getD 9 0) (l1.getD 13 0)).b)).set 9 ((q4 (l1.getD 1 0) (l1.getD 5 0) (l1.getD 9 0) (l1.getD 13 0)).c)).set 13 ((q4 (l1.getD 1 0) (l1.getD 5 0) (l1.getD 9 0) (l1.getD 13 0)).d))) 126))] 4 [] [] (⟨by decide, rfl, (cn_get _ _ _ (by rw [H1.len]; decide)), by decide, rfl, (cn_get _ _ _ (by rw [H1.len]; decide)), by decide, rfl, (cn_get _ _ _ (by rw [H1.len]; decide)), by decide, rfl, (cn_get _ _ _ (by rw [H1.len]; decide)), (callP_of en_quarter (quarter_any (l1.getD 1 0) (l1.getD 5 0) (l1.getD 9 0) (l1.getD 13 0) (H1.lt 5) (H1.lt 13)) _), by decide, rfl, (by rw [cn_size, H1.len]; decide), (.inl rfl), (cn_set _ _ _ _), by decide, rfl, (by rw [cn_size, (len_set H1.len)]; decide), (.inl rfl), (cn_set _ _ _ _), by decide, rfl, (by rw [cn_size, (len_set (len_set H1.len))]; decide), (.inl rfl), (cn_set _ _ _ _), by decide, rfl, (by rw [cn_size, (len_set (len_set (len_set H1.len)))]; decide), (.inl rfl), (cn_set _ _ _ _), fun _ wd6 FF6 MM6 => then_n ?_⟩))
    obtain ⟨l2, e2⟩ : ∃ z, qAt l1 1 5 9 13 = z := ⟨_, rfl⟩
    have H2 : Words l2 := e2 ▸ H1.qAt 1 5 9 13
    have MMr23 : MemS (fun k => k < w0.heap.size) w0 wd6 [(br, .cells (cn .u32 (List.replicate 16 0)) 126), (bw, .cells (cn .u32 l2) 126)] [] := by rw [← e2]; exact MM6
    refine wp_seq (rg_c FF6 MMr23 [(0, w_ 1), (0, l_ 1 (.int .u32 (l2.getD 2 0 : Nat))), (0, w_ 1), (0, l_ 1 (.int .u32 (l2.getD 6 0 : Nat))), (0, w_ 1), (0, l_ 1 (.int .u32 (l2.getD 10 0 : Nat))), (0, w_ 1), (0, l_ 1 (.int .u32 (l2.getD 14 0 : Nat))), (0, t_ (.tuple #[.int .u32 ((q4 (l2.getD 2 0) (l2.getD 6 0) (l2.getD 10 0) (l2.getD 14 0)).a : Nat), .int .u32 ((q4 (l2.getD 2 0) (l2.getD 6 0) (l2.getD 10 0) (l2.getD 14 0)).b : Nat), .int .u32 ((q4 (l2.getD 2 0) (l2.getD 6 0) (l2.getD 10 0) (l2.getD 14 0)).c : Nat), .int .u32 ((q4 (l2.getD 2 0) (l2.getD 6 0) (l2.getD 10 0) (l2.getD 14 0)).d : Nat)])), (5, w_ 1), (0, s_ 1 (.cells (cn .u32 (l2.set 2 ((q4 (l2.getD 2 0) (l2.getD 6 0) (l2.getD 10 0) (l2.getD 14 0)).a))) 126)), (0, w_ 1), (0, s_ 1 (.cells (cn .u32 ((l2.set 2 ((q4 (l2.getD 2 0) (l2.getD 6 0) (l2.getD 10 0) (l2.getD 14 0)).a)).set 6 ((q4 (l2.getD 2 0) (l2.getD 6 0) (l2.getD 10 0) (l2.getD 14 0)).b))) 126)), (0, w_ 1), (0, s_ 1 (.cells (cn .u32 (((l2.set 2 ((q4 (l2.getD 2 0) (l2.getD 6 0) (l2.getD 10 0) (l2.getD 14 0)).a)).set 6 ((q4 (l2.getD 2 0) (l2.getD 6 0) (l2.getD 10 0) (l2.getD 14 0)).b)).set 10 ((q4 (l2.getD 2 0) (l2.getD 6 0) (l2.getD 10 0) (l2.getD 14 0)).c))) 126)), (0, w_ 1), (0, s_ 1 (.cells (cn .u32 ((((l2.set 2 ((q4 (l2.getD 2 0) (l2.getD 6 0) (l2.getD 10 0) (l2.getD 14 0)).a)).set 6 ((q4 (l2.getD 2 0) (l2.getD 6 0) (l2.getD 10 0) (l2.getD 14 0)).b)).set 10 ((q4 (l2.getD 2 0) (l2.getD 6 0) (l2.getD 10 0) (l2.getD 14 0)).c)).set 14 ((q4 (l2.getD 2 0) (l2.getD 6 0) (l2.getD 10 0) (l2.getD 14 0)).d))) 126))] 4 [] [] (⟨by decide, rfl, (cn_get _ _ _ (by rw [H2.len]; decide)), by decide, rfl, (cn_get _ _ _ (by rw [H2.len]; decide)), by decide, rfl, (cn_get _ _ _ (by rw [H2.len]; decide)), by decide, rfl, (cn_get _ _ _ (by rw [H2.len]; decide)), (callP_of en_quarter (quarter_any (l2.getD 2 0) (l2.getD 6 0) (l2.getD 10 0) (l2.getD 14 0) (H2.lt 6) (H2.lt 14)) _), by decide, rfl, (by rw [cn_size, H2.len]; decide), (.inl rfl), (cn_set _ _ _ _), by decide, rfl, (by rw [cn_size, (len_set H2.len)]; decide), (.inl rfl), (cn_set _ _ _ _), by decide, rfl, (by rw [cn_size, (len_set (len_set H2.len))]; decide), (.inl rfl), (cn_set _ _ _ _), by decide, rfl, (by rw [cn_size, (len_set (len_set (len_set H2.len)))]; decide), (.inl rfl), (cn_set _ _ _ _), fun _ wd7 FF7 MM7 => then_n ?_⟩))
    obtain ⟨l3, e3⟩ : ∃ z, qAt l2 2 6 10 14 = z := ⟨_, rfl⟩
    have H3 : Words l3 := e3 ▸ H2.qAt 2 6 10 14
    have MMr27 : MemS (fun k => k < w0.heap.size) w0 wd7 [(br, .cells (cn .u32 (List.replicate 16 0)) 126), (bw, .cells (cn .u32 l3) 126)] [] := by rw [← e3]; exact MM7
    refine wp_seq (rg_c FF7 MMr27 [(0, w_ 1), (0, l_ 1 (.int .u32 (l3.getD 3 0 : Nat))), (0, w_ 1), (0, l_ 1 (.int .u32 (l3.getD 7 0 : Nat))), (0, w_ 1), (0, l_ 1 (.int .u32 (l3.getD 11 0 : Nat))), (0, w_ 1), (0, l_ 1 (.int .u32 (l3.getD 15 0 : Nat))), (0, t_ (.tuple #[.int .u32 ((q4 (l3.getD 3 0) (l3.getD 7 0) (l3.getD 11 0) (l3.getD 15 0)).a : Nat), .int .u32 ((q4 (l3.getD 3 0) (l3.getD 7 0) (l3.getD 11 0) (l3.getD 15 0)).b : Nat), .int .u32 ((q4 (l3.getD 3 0) (l3.getD 7 0) (l3.getD 11 0) (l3.getD 15 0)).c : Nat), .int .u32 ((q4 (l3.getD 3 0) (l3.getD 7 0) (l3.getD 11 0) (l3.getD 15 0)).d : Nat)])), (5, w_ 1), (0, s_ 1 (.cells (cn .u32 (l3.set 3 ((q4 (l3.getD 3 0) (l3.getD 7 0) (l3.getD 11 0) (l3.getD 15 0)).a))) 126)), (0, w_ 1), (0, s_ 1 (.cells (cn .u32 ((l3.set 3 ((q4 (l3.getD 3 0) (l3.getD 7 0) (l3.getD 11 0) (l3.getD 15 0)).a)).set 7 ((q4 (l3.getD 3 0) (l3.getD 7 0) (l3.getD 11 0) (l3.getD 15 0)).b))) 126)), (0, w_ 1), (0, s_ 1 (.cells (cn .u32 (((l3.set 3 ((q4 (l3.getD 3 0) (l3.getD 7 0) (l3.getD 11 0) (l3.getD 15 0)).a)).set 7 ((q4 (l3.getD 3 0) (l3.getD 7 0) (l3.getD 11 0) (l3.getD 15 0)).b)).set 11 ((q4 (l3.getD 3 0) (l3.getD 7 0) (l3.getD 11 0) (l3.getD 15 0)).c))) 126)), (0, w_ 1), (0, s_ 1 (.cells (cn .u32 ((((l3.set 3 ((q4 (l3.getD 3 0) (l3.getD 7 0) (l3.getD 11 0) (l3.getD 15 0)).a)).set 7 ((q4 (l3.getD 3 0) (l3.getD 7 0) (l3.getD 11 0) (l3.getD 15 0)).b)).set 11 ((q4 (l3.getD 3 0) (l3.getD 7 0) (l3.getD 11 0) (l3.getD 15 0)).c)).set 15 ((q4 (l3.getD 3 0) (l3.getD 7 0) (l3.getD 11 0) (l3.getD 15 0)).d))) 126))] 4 [] [] (⟨by decide, rfl, (cn_get _ _ _ (by rw [H3.len]; decide)), by decide, rfl, (cn_get _ _ _ (by rw [H3.len]; decide)), by decide, rfl, (cn_get _ _ _ (by rw [H3.len]; decide)), by decide, rfl, (cn_get _ _ _ (by rw [H3.len]; decide)), (callP_of en_quarter (quarter_any (l3.getD 3 0) (l3.getD 7 0) (l3.getD 11 0) (l3.getD 15 0) (H3.lt 7) (H3.lt 15)) _), by decide, rfl, (by rw [cn_size, H3.len]; decide), (.inl rfl), (cn_set _ _ _ _), by decide, rfl, (by rw [cn_size, (len_set H3.len)]; decide), (.inl rfl), (cn_set _ _ _ _), by decide, rfl, (by rw [cn_size, (len_set (len_set H3.len))]; decide), (.inl rfl), (cn_set _ _ _ _), by decide, rfl, (by rw [cn_size, (len_set (len_set (len_set H3.len)))]; decide), (.inl rfl), (cn_set _ _ _ _), fun _ wd8 FF8 MM8 => then_n ?_⟩))
    obtain ⟨l4, e4⟩ : ∃ z, qAt l3 3 7 11 15 = z := ⟨_, rfl⟩
    have H4 : Words l4 := e4 ▸ H3.qAt 3 7 11 15
    have MMr31 : MemS (fun k => k < w0.heap.size) w0 wd8 [(br, .cells (cn .u32 (List.replicate 16 0)) 126), (bw, .cells (cn .u32 l4) 126)] [] := by rw [← e4]; exact MM8
    refine wp_seq (rg_c FF8 MMr31 [(0, w_ 1), (0, l_ 1 (.int .u32 (l4.getD 0 0 : Nat))), (0, w_ 1), (0, l_ 1 (.int .u32 (l4.getD 5 0 : Nat))), (0, w_ 1), (0, l_ 1 (.int .u32 (l4.getD 10 0 : Nat))), (0, w_ 1), (0, l_ 1 (.int .u32 (l4.getD 15 0 : Nat))), (0, t_ (.tuple #[.int .u32 ((q4 (l4.getD 0 0) (l4.getD 5 0) (l4.getD 10 0) (l4.getD 15 0)).a : Nat), .int .u32 ((q4 (l4.getD 0 0) (l4.getD 5 0) (l4.getD 10 0) (l4.getD 15 0)).b : Nat), .int .u32 ((q4 (l4.getD 0 0) (l4.getD 5 0) (l4.getD 10 0) (l4.getD 15 0)).c : Nat), .int .u32 ((q4 (l4.getD 0 0) (l4.getD 5 0) (l4.getD 10 0) (l4.getD 15 0)).d : Nat)])), (5, w_ 1), (0, s_ 1 (.cells (cn .u32 (l4.set 0 ((q4 (l4.getD 0 0) (l4.getD 5 0) (l4.getD 10 0) (l4.getD 15 0)).a))) 126)), (0, w_ 1), (0, s_ 1 (.cells (cn .u32 ((l4.set 0 ((q4 (l4.getD 0 0) (l4.getD 5 0) (l4.getD 10 0) (l4.getD 15 0)).a)).set 5 ((q4 (l4.getD 0 0) (l4.getD 5 0) (l4.getD 10 0) (l4.getD 15 0)).b))) 126)), (0, w_ 1), (0, s_ 1 (.cells (cn .u32 (((l4.set 0 ((q4 (l4.getD 0 0) (l4.getD 5 0) (l4.getD 10 0) (l4.getD 15 0)).a)).set 5 ((q4 (l4.getD 0 0) (l4.getD 5 0) (l4.getD 10 0) (l4.getD 15 0)).b)).set 10 ((q4 (l4.getD 0 0) (l4.getD 5 0) (l4.getD 10 0) (l4.getD 15 0)).c))) 126)), (0, w_ 1), (0, s_ 1 (.cells (cn .u32 ((((l4.set 0 ((q4 (l4.getD 0 0) (l4.getD 5 0) (l4.getD 10 0) (l4.getD 15 0)).a)).set 5 ((q4 (l4.getD 0 0) (l4.getD 5 0) (l4.getD 10 0) (l4.getD 15 0)).b)).set 10 ((q4 (l4.getD 0 0) (l4.getD 5 0) (l4.getD 10 0) (l4.getD 15 0)).c)).set 15 ((q4 (l4.getD 0 0) (l4.getD 5 0) (l4.getD 10 0) (l4.getD 15 0)).d))) 126))] 4 [] [] (⟨by decide, rfl, (cn_get _ _ _ (by rw [H4.len]; decide)), by decide, rfl, (cn_get _ _ _ (by rw [H4.len]; decide)), by decide, rfl, (cn_get _ _ _ (by rw [H4.len]; decide)), by decide, rfl, (cn_get _ _ _ (by rw [H4.len]; decide)), (callP_of en_quarter (quarter_any (l4.getD 0 0) (l4.getD 5 0) (l4.getD 10 0) (l4.getD 15 0) (H4.lt 5) (H4.lt 15)) _), by decide, rfl, (by rw [cn_size, H4.len]; decide), (.inl rfl), (cn_set _ _ _ _), by decide, rfl, (by rw [cn_size, (len_set H4.len)]; decide), (.inl rfl), (cn_set _ _ _ _), by decide, rfl, (by rw [cn_size, (len_set (len_set H4.len))]; decide), (.inl rfl), (cn_set _ _ _ _), by decide, rfl, (by rw [cn_size, (len_set (len_set (len_set H4.len)))]; decide), (.inl rfl), (cn_set _ _ _ _), fun _ wd9 FF9 MM9 => then_n ?_⟩))
    obtain ⟨l5, e5⟩ : ∃ z, qAt l4 0 5 10 15 = z := ⟨_, rfl⟩
    have H5 : Words l5 := e5 ▸ H4.qAt 0 5 10 15
    have MMr35 : MemS (fun k => k < w0.heap.size) w0 wd9 [(br, .cells (cn .u32 (List.replicate 16 0)) 126), (bw, .cells (cn .u32 l5) 126)] [] := by rw [← e5]; exact MM9
    refine wp_seq (rg_c FF9 MMr35 [(0, w_ 1), (0, l_ 1 (.int .u32 (l5.getD 1 0 : Nat))), (0, w_ 1), (0, l_ 1 (.int .u32 (l5.getD 6 0 : Nat))), (0, w_ 1), (0, l_ 1 (.int .u32 (l5.getD 11 0 : Nat))), (0, w_ 1), (0, l_ 1 (.int .u32 (l5.getD 12 0 : Nat))), (0, t_ (.tuple #[.int .u32 ((q4 (l5.getD 1 0) (l5.getD 6 0) (l5.getD 11 0) (l5.getD 12 0)).a : Nat), .int .u32 ((q4 (l5.getD 1 0) (l5.getD 6 0) (l5.getD 11 0) (l5.getD 12 0)).b : Nat), .int .u32 ((q4 (l5.getD 1 0) (l5.getD 6 0) (l5.getD 11 0) (l5.getD 12 0)).c : Nat), .int .u32 ((q4 (l5.getD 1 0) (l5.getD 6 0) (l5.getD 11 0) (l5.getD 12 0)).d : Nat)])), (5, w_ 1), (0, s_ 1 (.cells (cn .u32 (l5.set 1 ((q4 (l5.getD 1 0) (l5.getD 6 0) (l5.getD 11 0) (l5.getD 12 0)).a))) 126)), (0, w_ 1), (0, s_ 1 (.cells (cn .u32 ((l5.set 1 ((q4 (l5.getD 1 0) (l5.getD 6 0) (l5.getD 11 0) (l5.getD 12 0)).a)).set 6 ((q4 (l5.getD 1 0) (l5.getD 6 0) (l5.getD 11 0) (l5.getD 12 0)).b))) 126)), (0, w_ 1), (0, s_ 1 (.cells (cn .u32 (((l5.set 1 ((q4 (l5.getD 1 0) (l5.getD 6 0) (l5.getD 11 0) (l5.getD 12 0)).a)).set 6 ((q4 (l5.getD 1 0) (l5.getD 6 0) (l5.getD 11 0) (l5.getD 12 0)).b)).set 11 ((q4 (l5.getD 1 0) (l5.getD 6 0) (l5.getD 11 0) (l5.getD 12 0)).c))) 126)), (0, w_ 1), (0, s_ 1 (.cells (cn .u32 ((((l5.set 1 ((q4 (l5.getD 1 0) (l5.getD 6 0) (l5.getD 11 0) (l5.getD 12 0)).a)).set 6 ((q4 (l5.getD 1 0) (l5.getD 6 0) (l5.getD 11 0) (l5.getD 12 0)).b)).set 11 ((q4 (l5.getD 1 0) (l5.getD 6 0) (l5.getD 11 0) (l5.getD 12 0)).c)).set 12 ((q4 (l5.getD 1 0) (l5.getD 6 0) (l5.getD 11 0) (l5.getD 12 0)).d))) 126))] 4 [] [] (⟨by decide, rfl, (cn_get _ _ _ (by rw [H5.len]; decide)), by decide, rfl, (cn_get _ _ _ (by rw [H5.len]; decide)), by decide, rfl, (cn_get _ _ _ (by rw [H5.len]; decide)), by decide, rfl, (cn_get _ _ _ (by rw [H5.len]; decide)), (callP_of en_quarter (quarter_any (l5.getD 1 0) (l5.getD 6 0) (l5.getD 11 0) (l5.getD 12 0) (H5.lt 6) (H5.lt 12)) _), by decide, rfl, (by rw [cn_size, H5.len]; decide), (.inl rfl), (cn_set _ _ _ _), by decide, rfl, (by rw [cn_size, (len_set H5.len)]; decide), (.inl rfl), (cn_set _ _ _ _), by decide, rfl, (by rw [cn_size, (len_set (len_set H5.len))]; decide), (.inl rfl), (cn_set _ _ _ _), by decide, rfl, (by rw [cn_size, (len_set (len_set (len_set H5.len)))]; decide), (.inl rfl), (cn_set _ _ _ _), fun _ wd10 FF10 MM10 => then_n ?_⟩))
    obtain ⟨l6, e6⟩ : ∃ z, qAt l5 1 6 11 12 = z := ⟨_, rfl⟩
    have H6 : Words l6 := e6 ▸ H5.qAt 1 6 11 12
    have MMr39 : MemS (fun k => k < w0.heap.size) w0 wd10 [(br, .cells (cn .u32 (List.replicate 16 0)) 126), (bw, .cells (cn .u32 l6) 126)] [] := by rw [← e6]; exact MM10
    refine wp_seq (rg_c FF10 MMr39 [(0, w_ 1), (0, l_ 1 (.int .u32 (l6.getD 2 0 : Nat))), (0, w_ 1), (0, l_ 1 (.int .u32 (l6.getD 7 0 : Nat))), (0, w_ 1), (0, l_ 1 (.int .u32 (l6.getD 8 0 : Nat))), (0, w_ 1), (0, l_ 1 (.int .u32 (l6.getD 13 0 : Nat))), (0, t_ (.tuple #[.int .u32 ((q4 (l6.getD 2 0) (l6.getD 7 0) (l6.getD 8 0) (l6.getD 13 0)).a : Nat), .int .u32 ((q4 (l6.getD 2 0) (l6.getD 7 0) (l6.getD 8 0) (l6.getD 13 0)).b : Nat), .int .u32 ((q4 (l6.getD 2 0) (l6.getD 7 0) (l6.getD 8 0) (l6.getD 13 0)).c : Nat), .int .u32 ((q4 (l6.getD 2 0) (l6.getD 7 0) (l6.getD 8 0) (l6.getD 13 0)).d : Nat)])), (5, w_ 1), (0, s_ 1 (.cells (cn .u32 (l6.set 2 ((q4 (l6.getD 2 0) (l6.getD 7 0) (l6.getD 8 0) (l6.getD 13 0)).a))) 126)), (0, w_ 1), (0, s_ 1 (.cells (cn .u32 ((l6.set 2 ((q4 (l6.getD 2 0) (l6.getD 7 0) (l6.getD 8 0) (l6.getD 13 0)).a)).set 7 ((q4 (l6.getD 2 0) (l6.getD 7 0) (l6.getD 8 0) (l6.getD 13 0)).b))) 126)), (0, w_ 1), (0, s_ 1 (.cells (cn .u32 (((l6.set 2 ((q4 (l6.getD 2 0) (l6.getD 7 0) (l6.getD 8 0) (l6.getD 13 0)).a)).set 7 ((q4 (l6.getD 2 0) (l6.getD 7 0) (l6.getD 8 0) (l6.getD 13 0)).b)).set 8 ((q4 (l6.getD 2 0) (l6.getD 7 0) (l6.getD 8 0) (l6.getD 13 0)).c))) 126)), (0, w_ 1), (0, s_ 1 (.cells (cn .u32 ((((l6.set 2 ((q4 (l6.getD 2 0) (l6.getD 7 0) (l6.getD 8 0) (l6.getD 13 0)).a)).set 7 ((q4 (l6.getD 2 0) (l6.getD 7 0) (l6.getD 8 0) (l6.getD 13 0)).b)).set 8 ((q4 (l6.getD 2 0) (l6.getD 7 0) (l6.getD 8 0) (l6.getD 13 0)).c)).set 13 ((q4 (l6.getD 2 0) (l6.getD 7 0) (l6.getD 8 0) (l6.getD 13 0)).d))) 126))] 4 [] [] (⟨by decide, rfl, (cn_get _ _ _ (by rw [H6.len]; decide)), by decide, rfl, (cn_get _ _ _ (by rw [H6.len]; decide)), by decide, rfl, (cn_get _ _ _ (by rw [H6.len]; decide)), by decide, rfl, (cn_get _ _ _ (by rw [H6.len]; decide)), (callP_of en_quarter (quarter_any (l6.getD 2 0) (l6.getD 7 0) (l6.getD 8 0) (l6.getD 13 0) (H6.lt 7) (H6.lt 13)) _), by decide, rfl, (by rw [cn_size, H6.len]; decide), (.inl rfl), (cn_set _ _ _ _), by decide, rfl, (by rw [cn_size, (len_set H6.len)]; decide), (.inl rfl), (cn_set _ _ _ _), by decide, rfl, (by rw [cn_size, (len_set (len_set H6.len))]; decide), (.inl rfl), (cn_set _ _ _ _), by decide, rfl, (by rw [cn_size, (len_set (len_set (len_set H6.len)))]; decide), (.inl rfl), (cn_set _ _ _ _), fun _ wd11 FF11 MM11 => then_n ?_⟩))
    obtain ⟨l7, e7⟩ : ∃ z, qAt l6 2 7 8 13 = z := ⟨_, rfl⟩
    have H7 : Words l7 := e7 ▸ H6.qAt 2 7 8 13
    have MMr43 : MemS (fun k => k < w0.heap.size) w0 wd11 [(br, .cells (cn .u32 (List.replicate 16 0)) 126), (bw, .cells (cn .u32 l7) 126)] [] := by rw [← e7]; exact MM11
    refine rg_c FF11 MMr43 [(0, w_ 1), (0, l_ 1 (.int .u32 (l7.getD 3 0 : Nat))), (0, w_ 1), (0, l_ 1 (.int .u32 (l7.getD 4 0 : Nat))), (0, w_ 1), (0, l_ 1 (.int .u32 (l7.getD 9 0 : Nat))), (0, w_ 1), (0, l_ 1 (.int .u32 (l7.getD 14 0 : Nat))), (0, t_ (.tuple #[.int .u32 ((q4 (l7.getD 3 0) (l7.getD 4 0) (l7.getD 9 0) (l7.getD 14 0)).a : Nat), .int .u32 ((q4 (l7.getD 3 0) (l7.getD 4 0) (l7.getD 9 0) (l7.getD 14 0)).b : Nat), .int .u32 ((q4 (l7.getD 3 0) (l7.getD 4 0) (l7.getD 9 0) (l7.getD 14 0)).c : Nat), .int .u32 ((q4 (l7.getD 3 0) (l7.getD 4 0) (l7.getD 9 0) (l7.getD 14 0)).d : Nat)])), (5, w_ 1), (0, s_ 1 (.cells (cn .u32 (l7.set 3 ((q4 (l7.getD 3 0) (l7.getD 4 0) (l7.getD 9 0) (l7.getD 14 0)).a))) 126)), (0, w_ 1), (0, s_ 1 (.cells (cn .u32 ((l7.set 3 ((q4 (l7.getD 3 0) (l7.getD 4 0) (l7.getD 9 0) (l7.getD 14 0)).a)).set 4 ((q4 (l7.getD 3 0) (l7.getD 4 0) (l7.getD 9 0) (l7.getD 14 0)).b))) 126)), (0, w_ 1), (0, s_ 1 (.cells (cn .u32 (((l7.set 3 ((q4 (l7.getD 3 0) (l7.getD 4 0) (l7.getD 9 0) (l7.getD 14 0)).a)).set 4 ((q4 (l7.getD 3 0) (l7.getD 4 0) (l7.getD 9 0) (l7.getD 14 0)).b)).set 9 ((q4 (l7.getD 3 0) (l7.getD 4 0) (l7.getD 9 0) (l7.getD 14 0)).c))) 126)), (0, w_ 1), (0, s_ 1 (.cells (cn .u32 ((((l7.set 3 ((q4 (l7.getD 3 0) (l7.getD 4 0) (l7.getD 9 0) (l7.getD 14 0)).a)).set 4 ((q4 (l7.getD 3 0) (l7.getD 4 0) (l7.getD 9 0) (l7.getD 14 0)).b)).set 9 ((q4 (l7.getD 3 0) (l7.getD 4 0) (l7.getD 9 0) (l7.getD 14 0)).c)).set 14 ((q4 (l7.getD 3 0) (l7.getD 4 0) (l7.getD 9 0) (l7.getD 14 0)).d))) 126))] 4 [] [] (⟨by decide, rfl, (cn_get _ _ _ (by rw [H7.len]; decide)), by decide, rfl, (cn_get _ _ _ (by rw [H7.len]; decide)), by decide, rfl, (cn_get _ _ _ (by rw [H7.len]; decide)), by decide, rfl, (cn_get _ _ _ (by rw [H7.len]; decide)), (callP_of en_quarter (quarter_any (l7.getD 3 0) (l7.getD 4 0) (l7.getD 9 0) (l7.getD 14 0) (H7.lt 4) (H7.lt 14)) _), by decide, rfl, (by rw [cn_size, H7.len]; decide), (.inl rfl), (cn_set _ _ _ _), by decide, rfl, (by rw [cn_size, (len_set H7.len)]; decide), (.inl rfl), (cn_set _ _ _ _), by decide, rfl, (by rw [cn_size, (len_set (len_set H7.len))]; decide), (.inl rfl), (cn_set _ _ _ _), by decide, rfl, (by rw [cn_size, (len_set (len_set (len_set H7.len)))]; decide), (.inl rfl), (cn_set _ _ _ _), fun _ wd12 FF12 MM12 => ?_⟩)
    obtain ⟨l8, e8⟩ : ∃ z, qAt l7 3 4 9 14 = z := ⟨_, rfl⟩
    have H8 : Words l8 := e8 ▸ H7.qAt 3 4 9 14
    have MMr47 : MemS (fun k => k < w0.heap.size) w0 wd12 [(br, .cells (cn .u32 (List.replicate 16 0)) 126), (bw, .cells (cn .u32 l8) 126)] [] := by rw [← e8]; exact MM12
    have e9 : l8 = dblN l (i + 1) := by subst e1 e2 e3 e4 e5 e6 e7 e8 e0; rfl
    have MMr49 : MemS (fun k => k < w0.heap.size) w0 wd12 [(br, .cells (cn .u32 (List.replicate 16 0)) 126), (bw, .cells (cn .u32 (dblN l (i + 1))) 126)] [] := by rw [← e9]; exact MMr47
    refine inb_n (then_n ?_)
    refine rg_c FF12 MMr49 [] 4 [] [] (⟨by omega, fun _ _ FF13 MM13 => ?_⟩)
    have hd := cnt_of (FF13.get 0 rfl)
    refine then_n ⟨⟨i + 1, by omega, FF13.pick [0, 1, 2], MM13⟩, ?_⟩
    rw [hc, hd]; omega
  · skip
    refine then_n (.inr ⟨(FF4.ev 0 rfl).trans (dec_f hlt), ?_⟩)
    obtain rfl : i = 10 := by omega
    refine then_n ?_
    refine wp_seq (rg_c FF4 MM4 [(0, b_ 1), (0, b_ 0)] 4 [] [] (⟨rfl, ((cn_size _ _).trans (H.dblN 10).len), rfl, ((cn_size _ _).trans (List.length_replicate ..)), ((cn_size _ _).trans (H.dblN 10).len), (cn_one _ _), rfl, fun _ _ FF14 MM14 => then_n ?_⟩))
    refine wp_ret ?_
    repeat first | refine then_ret ?_ | refine inb_ret ?_
    exact (retc FF14 MM14 (k := 16) (i := 0) (j := 1) Try.results73 rfl rfl Try.underlying126 rfl (by kernel_rfl) ((cn_size _ _).trans (H.dblN 10).len) ⟨rfl, MM14.below⟩)
end Go.Proofs.Ytniplfjnpjihoaa
namespace Go.Proofs.Ytniplfjnpjihoaa
open Go.RowKit
set_option maxRecDepth 100000 in
theorem cblk_any (l : List Nat) (H : Words l) (w0 : World) :
    Calls Try.prog 58 #[.agg (cn .u32 l)] w0 fun e w' => e = .returned (.agg (cn .u8 (blockW l))) ∧ Below w0.heap.size w0 w' := by
  refine enter_fr Try.func58 rfl Try.ntmps58 (by simp) fun ac (FF : Fr 45 ac [(0, .agg (cn .u32 l))]) => ?_
  have MM := MemS.start w0
  refine wp_seq (rg_c FF MM [(0, s_ 0 (.cells (cn .u32 l) 126)), (0, s_ 0 (.cells (cn .u8 (List.replicate 64 0)) 129))] 3 [] [0] (⟨(by kernel_rfl), fun bl => ⟨(by kernel_rfl), fun br => fun _ _ FF1 MM1 => then_n ?_⟩⟩))
  refine wp_seq (rg_c FF1 MM1 [(0, s_ 0 (.cells (cn .u8 (List.replicate 64 0)) 129))] 4 [] [] (⟨(by kernel_rfl), fun bb => fun _ wd2 FF2 MM2 => then_n ?_⟩))
  have MMr4 : MemS (fun k => k < w0.heap.size) w0 wd2 [(bb, .cells (cn .u8 (bset (dblN l 10) l 0)) 129), (br, .cells (cn .u8 (List.replicate 64 0)) 129), (bl, .cells (cn .u32 l) 126)] [] := MM2
  refine wp_seq ?_
  refine wp_seq (rg_c FF2 MMr4 [(0, b_ 2), (0, t_ (.agg (cn .u32 (dblN l 10))))] 9 [] [6] (⟨rfl, ((cn_size _ _).trans H.len), (callP_of en_stirred (stirred_any l H) _), fun _ _ FF3 MM3 => then_n ?_⟩))
  refine wp_for (fun a' w' => ∃ i : Nat, i ≤ 16 ∧ Fr 45 a' [(8, iN i), (7, .agg (cn .u32 (dblN l 10))), (3, pT bb), (2, pT br), (1, pT bl)] ∧ MemS (fun k => k < w0.heap.size) w0 w' [(bb, .cells (cn .u8 (bset (dblN l 10) l i)) 129), (br, .cells (cn .u8 (List.replicate 64 0)) 129), (bl, .cells (cn .u32 l) 126)] []) (fun a' _ => (16 - cnt 8 a').toNat) ⟨0, Nat.zero_le _, FF3.pick [0, 1, 2, 3, 4], MM3⟩ ?_
  rintro ac4 wd4 ⟨i, hi, FF4, MM4⟩
  have hc := cnt_of (FF4.get 0 rfl)
  refine rg_c FF4 MM4 [] 9 [9] [] (fun _ _ FF5 MM5 => ?_)
  by_cases hlt : i < 16
  · skip
    refine then_n (.inl ⟨(FF5.ev 0 rfl).trans (dec_t hlt), ?_⟩)
    refine wp_seq (rg_c FF5 MM5 [(1, t_ (.int .u32 ((dblN l 10).getD i 0 : Nat)))] 9 [] [] (⟨by omega, (cn_get _ _ _ (by rw [(H.dblN 10).len]; omega)), fun _ _ FF6 MM6 => then_n ?_⟩))
    refine wp_seq (rg_c FF6 MM6 [(2, w_ 1), (0, l_ 2 (.int .u32 (l.getD i 0 : Nat))), (0, t_ (.int .u32 (sumW (dblN l 10) l i : Nat)))] 9 [] [] (⟨by omega, rfl, (cn_get _ _ _ (by rw [H.len]; omega)), rfl, fun _ _ FF7 MM7 => then_n ?_⟩))
    refine rg_c FF7 MM7 [(12, t_ (iB (sumW (dblN l 10) l i % 256))), (1, t_ (.int .u32 ((sumW (dblN l 10) l i) / 256 : Nat))), (0, t_ (iB (sumW (dblN l 10) l i / 256 % 256))), (1, t_ (.int .u32 ((sumW (dblN l 10) l i) / 65536 : Nat))), (0, t_ (iB (sumW (dblN l 10) l i / 65536 % 256))), (1, t_ (.int .u32 ((sumW (dblN l 10) l i) / 16777216 : Nat))), (0, t_ (iB (sumW (dblN l 10) l i / 16777216 % 256))), (0, w_ 1), (0, s_ 0 (.cells (cn .u8 ((bset (dblN l 10) l i).set (4 * i) (sumW (dblN l 10) l i % 256))) 129)), (0, w_ 1), (0, s_ 0 (.cells (cn .u8 (((bset (dblN l 10) l i).set (4 * i) (sumW (dblN l 10) l i % 256)).set ((4 * i) + 1) (sumW (dblN l 10) l i / 256 % 256))) 129)), (0, w_ 1), (0, s_ 0 (.cells (cn .u8 ((((bset (dblN l 10) l i).set (4 * i) (sumW (dblN l 10) l i % 256)).set ((4 * i) + 1) (sumW (dblN l 10) l i / 256 % 256)).set ((4 * i) + 2) (sumW (dblN l 10) l i / 65536 % 256))) 129)), (0, w_ 1), (0, s_ 0 (.cells (cn .u8 (((((bset (dblN l 10) l i).set (4 * i) (sumW (dblN l 10) l i % 256)).set ((4 * i) + 1) (sumW (dblN l 10) l i / 256 % 256)).set ((4 * i) + 2) (sumW (dblN l 10) l i / 65536 % 256)).set ((4 * i) + 3) (sumW (dblN l 10) l i / 16777216 % 256))) 129))] 9 [] [] (⟨by omega, by omega, by omega, by omega, by omega, by omega, by omega, rfl, by decide, rfl, rfl, by decide, rfl, rfl, by decide, rfl, rfl, by omega, rfl, (by rw [cn_size, (bset_len _ _ _)]; omega), (.inl rfl), (cn_set _ _ _ _), by omega, rfl, (by rw [cn_size, (len_set (bset_len _ _ _))]; omega), (.inl rfl), (cn_set _ _ _ _), by omega, rfl, (by rw [cn_size, (len_set (len_set (bset_len _ _ _)))]; omega), (.inl rfl), (cn_set _ _ _ _), by omega, rfl, (by rw [cn_size, (len_set (len_set (len_set (bset_len _ _ _))))]; omega), (.inl rfl), (cn_set _ _ _ _), fun _ wd8 FF8 MM8 => ?_⟩)
    have MMr17 : MemS (fun k => k < w0.heap.size) w0 wd8 [(bb, .cells (cn .u8 (bset (dblN l 10) l (i + 1))) 129), (br, .cells (cn .u8 (List.replicate 64 0)) 129), (bl, .cells (cn .u32 l) 126)] [] := MM8
    refine inb_n (then_n ?_)
    refine rg_c FF8 MMr17 [] 9 [] [] (⟨by omega, fun _ _ FF9 MM9 => ?_⟩)
    have hd := cnt_of (FF9.get 0 rfl)
    refine then_n ⟨⟨i + 1, by omega, FF9.pick [0, 3, 4, 5, 6], MM9⟩, ?_⟩
    rw [hc, hd]; omega
  · skip
    refine then_n (.inr ⟨(FF5.ev 0 rfl).trans (dec_f hlt), ?_⟩)
    obtain rfl : i = 16 := by omega
    refine then_n ?_
    refine wp_seq (rg_c FF5 MM5 [(0, b_ 0), (0, b_ 1)] 9 [] [] (⟨rfl, ((cn_size _ _).trans (bset_len _ _ _)), rfl, ((cn_size _ _).trans (List.length_replicate ..)), ((cn_size _ _).trans (bset_len _ _ _)), (cn_one _ _), rfl, fun _ _ FF10 MM10 => then_n ?_⟩))
    refine wp_ret ?_
    repeat first | refine then_ret ?_ | refine inb_ret ?_
    exact (retc FF10 MM10 (k := 64) (i := 1) (j := 3) Try.results58 rfl rfl Try.underlying129 rfl (by kernel_rfl) ((cn_size _ _).trans (bset_len _ _ _)) ⟨by rw [bset_all], MM10.below⟩)
set_option maxRecDepth 100000 in
theorem Block_any (ks ns : List Nat) (c : Nat) (hks : Bytes 32 ks) (hc : c < 4294967296) (hns : Bytes 12 ns) (w0 : World) :
    Calls Try.prog 59 #[.agg (cn .u8 ks), .int .u32 (c : Nat), .agg (cn .u8 ns)] w0 fun e w' => e = .returned (sB (blockN ks c ns)) ∧ Below w0.heap.size w0 w' := by
  refine enter_fr Try.func59 rfl Try.ntmps59 (by simp) fun ac (FF : Fr 15 ac [(0, .agg (cn .u8 ks)), (1, .int .u32 (c : Nat)), (2, .agg (cn .u8 ns))]) => ?_
  have MM := MemS.start w0
  have H := laid_words hks hc hns
  refine wp_seq (rg_c FF MM [(0, s_ 0 (.cells (cn .u8 ks) 42)), (0, s_ 0 (.cells (cn .u8 ns) 45)), (0, t_ (sB []))] 7 [] [0, 2] (⟨(by kernel_rfl), fun bk => ⟨(by kernel_rfl), fun bn => ⟨(by kernel_rfl), fun _ _ FF1 MM1 => then_n ?_⟩⟩⟩))
  refine wp_seq (rg_c FF1 MM1 [(0, b_ 1), (1, b_ 0), (0, t_ (.agg (cn .u32 (laid ks c ns)))), (0, t_ (.agg (cn .u8 (blockN ks c ns)))), (0, s_ 0 (.cells (cn .u8 (List.replicate 64 0)) 129)), (0, b_ 0)] 0 [6, 7] [] (⟨rfl, ((cn_size _ _).trans hks.len), rfl, ((cn_size _ _).trans hns.len), (callP_of en_laid (laid_any ks ns c ⟨hks.len, hks.lt⟩ ⟨hns.len, hns.lt⟩) _), (callP_of en_cblk (cblk_any (laid ks c ns) H) _), (by kernel_rfl), fun bb => ⟨rfl, ((cn_size _ _).trans (List.length_replicate ..)), ((cn_size _ _).trans (blockW_len _)), (cn_one _ _), rfl, fun _ _ FF2 MM2 => then_n ?_⟩⟩))
  refine wp_seq (rg_c FF2 MM2 [(1, l_ 0 (sB (blockN ks c ns)))] 8 [] [] (⟨by decide, by decide, by decide, rfl, (str_all (blockW_len _) (blockW_lt _)), fun _ _ FF3 MM3 => then_n ?_⟩))
  refine wp_ret ?_
  repeat first | refine then_ret ?_ | refine inb_ret ?_
  exact (ret_fr FF3 0 Try.results59 rfl ⟨rfl, MM3.below⟩)
end Go.Proofs.Ytniplfjnpjihoaa
namespace Go.Proofs.Ytniplfjnpjihoaa
open Go.RowKit
set_option maxRecDepth 100000 in
theorem cturn_any (X B : List Nat) (hX : ∀ i, X.getD i 0 < 256) (hBl : B.length = 64) (hB : ∀ i, B.getD i 0 < 256) (b f n cap j : Nat) (fr : Nat × Nat) (hn : f + n ≤ X.length) (hfr : ∀ i, i < min 64 n → fr.2 = 0 ∨ f + i < fr.1) (L : Blks) (hj : L[j]? = some (b, .cells (cn .u8 X) 5 fr)) (w0 : World) (H : Has w0 L) :
    Calls Try.prog 57 #[.slice (some ⟨b, f, none⟩) n cap, .agg (cn .u8 B)] w0 fun e w' => e = .returned (.tuple #[]) ∧ Post w0 w' L ⟨fun _ => .tuple #[], none, [(j, .cells (cn .u8 (xorTo X f B (min 64 n))) 5 fr)]⟩ 0 := by
  have MM := MemS.start1 (H j _ hj)
  refine enter_fr Try.func57 rfl Try.ntmps57 (by simp) fun ac (FF : Fr 21 ac [(0, .slice (some ⟨b, f, none⟩) n cap), (1, .agg (cn .u8 B))]) => ?_
  refine wp_seq (rg_c FF MM [(0, s_ 0 (.cells (cn .u8 B) 129))] 1 [3] [] (⟨(by kernel_rfl), fun bb => fun _ _ FF1 MM1 => then_n ?_⟩))
  obtain ⟨m, hm⟩ : ∃ z, min 64 n = z := ⟨_, rfl⟩
  refine wp_seq (rg_c FF1 MM1 [(2, f_ (iN m))] 4 [7, 8] [] (⟨(min_ok (t := 3) (u := 3) (x := (.const (iN 64))) (y := (.tmp 6)) (k := .i64) (m := 64) (n := n) (r := m) (by kernel_rfl) rfl rfl hm), fun _ wd2 FF2 MM2 => then_n ?_⟩))
  have MMr5 : MemS (fun k => k < w0.heap.size ∧ k ≠ b) w0 wd2 [(bb, .cells (cn .u8 B) 129), (b, .cells (cn .u8 (xorTo X f B 0)) 5 fr)] [] := MM2
  refine wp_for (fun a' w' => ∃ i : Nat, i ≤ m ∧ Fr 21 a' [(8, iN i), (7, iN m), (3, pT bb), (0, .slice (some ⟨b, f, none⟩) n cap)] ∧ MemS (fun k => k < w0.heap.size ∧ k ≠ b) w0 w' [(bb, .cells (cn .u8 B) 129), (b, .cells (cn .u8 (xorTo X f B i)) 5 fr)] []) (fun a' _ => (m - cnt 8 a').toNat) ⟨0, Nat.zero_le _, FF2.pick [0, 1, 2, 3], MMr5⟩ ?_
  rintro ac3 wd3 ⟨i, hi, FF3, MM3⟩
  have hc := cnt_of (FF3.get 0 rfl)
  refine rg_c FF3 MM3 [] 9 [9] [] (fun _ _ FF4 MM4 => ?_)
  by_cases hlt : i < m
  · skip
    refine then_n (.inl ⟨(FF4.ev 0 rfl).trans (dec_t hlt), ?_⟩)
    refine wp_seq (rg_c FF4 MM4 [] 9 [] [] (fun _ _ FF5 MM5 => then_n ?_))
    refine rg_dc 9 FF5 MM5 [(3, l_ 1 (iB (X.getD (f + i) 0))), (1, w_ 1), (0, l_ 0 (iB (B.getD i 0)))] [(0, s_ 1 (.cells (cn .u8 (xorTo X f B (i + 1))) 5))] 9 [] [] (⟨by omega, rfl, ((cn_get _ _ _ (by rw [xorTo_len]; omega)).trans (congrArg some (vI ((xorTo_get X f B (f + i) i (by omega)).trans (if_neg (by omega)))))), by omega, rfl, (cn_get _ _ _ (by rw [hBl]; omega)), (hX (f + i)), (hB i), by omega, rfl, (by rw [cn_size, (xorTo_len _ _ _ _)]; omega), (hfr i (by omega)), (cn_set _ _ _ _), fun _ _ FF6 MM6 => ?_⟩)
    refine inb_n (then_n ?_)
    refine rg_c FF6 MM6 [] 9 [] [] (⟨by omega, fun _ _ FF7 MM7 => ?_⟩)
    have hd := cnt_of (FF7.get 0 rfl)
    refine then_n ⟨⟨i + 1, by omega, FF7.pick [0, 2, 3, 4], MM7⟩, ?_⟩
    rw [hc, hd]; omega
  · skip
    refine then_n (.inr ⟨(FF4.ev 0 rfl).trans (dec_f hlt), ?_⟩)
    obtain rfl : m = i := by omega
    subst hm
    exact (end_none FF4 Try.results57 ⟨rfl, MM4.post1 1 rfl hj⟩)
end Go.Proofs.Ytniplfjnpjihoaa
namespace Go.Proofs.Ytniplfjnpjihoaa
open Go.RowKit
theorem laid_len (ks : List Nat) (c : Nat) (ns : List Nat) : (laid ks c ns).length = 16 := rfl
theorem sl_eq {b o o' n n' c c' : Nat} (h1 : o = o') (h2 : n = n') (h3 : c = c') : Value.slice (some ⟨b, o, none⟩) n c = Value.slice (some ⟨b, o', none⟩) n' c' := by subst h1 h2 h3; rfl
theorem mask_str {ks ns X : List Nat} {c q k : Nat} (hX : ∀ i, X.getD i 0 < 256) (h : X.length ≤ 64 * k) : StrAt (cn .u8 (mTo ks c ns (X ++ List.replicate q 0) X.length k)) 0 X.length (bs (maskN ks c ns X)) := by
  have h1 := str_part (X := mTo ks c ns (X ++ List.replicate q 0) X.length k) (n := X.length + q) (off := 0) (len := X.length) ((mTo_len _ _ _ _ _ _).trans (rep_len _ _)) (mTo_lt ks c ns _ X.length (by rw [rep_len]; omega) (rep_lt hX q) k) (by omega)
  rwa [List.drop_zero, mTo_all _ _ _ _ _ _ h] at h1
set_option maxHeartbeats 1000000 in
set_option maxRecDepth 100000 in
theorem Mask_any (ks ns X : List Nat) (c : Nat) (hks : Bytes 32 ks) (hc : c < 4294967296) (hns : Bytes 12 ns) (hX : ∀ i, X.getD i 0 < 256) (w0 : World) :
    Calls Try.prog 43 #[.agg (cn .u8 ks), .int .u32 (c : Nat), .agg (cn .u8 ns), sB X] w0 fun e w' => e = .returned (sB (maskN ks c ns X)) ∧ Below w0.heap.size w0 w' := by
  refine enter_fr Try.func43 rfl Try.ntmps43 (by simp) fun ac (FF : Fr 37 ac [(0, .agg (cn .u8 ks)), (1, .int .u32 (c : Nat)), (2, .agg (cn .u8 ns)), (3, sB X)]) => ?_
  have MM := MemS.start w0
  have HW : ∀ k, Words (laid ks ((c + k) % 4294967296) ns) := fun k => laid_words hks (Nat.mod_lt _ (by decide)) hns
  refine wp_seq (rg_c FF MM [(0, s_ 0 (.cells (cn .u8 ks) 42)), (0, s_ 0 (.cells (cn .u8 ns) 45)), (0, t_ (sB []))] 9 [] [0, 2] (⟨(by kernel_rfl), fun bk => ⟨(by kernel_rfl), fun bn => ⟨(by kernel_rfl), fun _ _ FF1 MM1 => then_n ?_⟩⟩⟩))
  refine wp_seq (wp_region_list ?_)
  refine rp_c 1 FF1 MM1 [] 13 [] [3] (fun _ _ FF2 MM2 => ?_)
  refine st_new [8, 6, 4, 1, 13] FF2 MM2 (d := 13) (bytes_ok (e := 5) (x := (.tmp 12)) (by kernel_rfl) rfl hX Try.underlying9 Try.underlying73 Try.underlying5) rfl rfl (by decide) fun ac4 wd4 bo cz3 FF4 MM4 => ?_
  refine rp_c 1 FF4 MM4 [] 9 [9] [] (fun _ wd5 FF5 MM5 => ?_)
  refine wpl_nil (then_n ?_)
  have MMr9 : MemS (fun k => k < w0.heap.size) w0 wd5 [(bo, .cells (cn .u8 (mTo ks c ns (X ++ List.replicate cz3 0) X.length 0)) 5 (X.length + cz3, X.length + cz3 + 1)), (bn, .cells (cn .u8 ns) 45), (bk, .cells (cn .u8 ks) 42)] [] := MM5
  refine wp_seq (rg_c FF5 MMr9 [(0, b_ 2), (1, b_ 1), (0, t_ (.agg (cn .u32 (laid ks c ns)))), (0, s_ 0 (.cells (cn .u32 (List.replicate 16 0)) 126)), (0, b_ 0)] 0 [9, 8, 10] [] (⟨rfl, ((cn_size _ _).trans hks.len), rfl, ((cn_size _ _).trans hns.len), (callP_of en_laid (laid_any ks ns c ⟨hks.len, hks.lt⟩ ⟨hns.len, hns.lt⟩) _), (by kernel_rfl), fun bw => ⟨rfl, ((cn_size _ _).trans (List.length_replicate ..)), ((cn_size _ _).trans rfl), (cn_one _ _), rfl, fun _ wd6 FF6 MM6 => then_n ?_⟩⟩))
  have MMr11 : MemS (fun k => k < w0.heap.size) w0 wd6 [(bw, .cells (cn .u32 (laid ks ((c + 0) % 4294967296) ns)) 126), (bo, .cells (cn .u8 (mTo ks c ns (X ++ List.replicate cz3 0) X.length 0)) 5 (X.length + cz3, X.length + cz3 + 1)), (bn, .cells (cn .u8 ns) 45), (bk, .cells (cn .u8 ks) 42)] [] := by rw [show (c + 0) % 4294967296 = c by omega]; exact MM6
  refine wp_seq ?_
  refine wp_seq (rg_c FF6 MMr11 [(0, t_ (.slice (some ⟨bo, 0, none⟩) (X.length - min (64 * 0) X.length) (X.length + cz3 - min (64 * 0) X.length)))] 12 [] [] (⟨(sl_eq (by omega) (by omega) (by omega)), fun _ _ FF7 MM7 => then_n ?_⟩))
  refine wp_for2 (fun a' w' => ∃ k : Nat, ∃ o : Nat, (64 * k < X.length → o = 64 * k) ∧ Fr 37 a' [(11, .slice (some ⟨bo, o, none⟩) (X.length - min (64 * k) X.length) (X.length + cz3 - min (64 * k) X.length)), (10, pT bw), (9, .slice (some ⟨bo, 0, none⟩) X.length (X.length + cz3)), (8, sB [])] ∧ MemS (fun k => k < w0.heap.size) w0 w' [(bw, .cells (cn .u32 (laid ks ((c + k) % 4294967296) ns)) 126), (bo, .cells (cn .u8 (mTo ks c ns (X ++ List.replicate cz3 0) X.length k)) 5 (X.length + cz3, X.length + cz3 + 1)), (bn, .cells (cn .u8 ns) 45), (bk, .cells (cn .u8 ks) 42)] []) (fun a' _ => lenAt 11 a') ⟨0, 0, (fun _ => by omega), FF7.pick [0, 1, 2, 3], MM7⟩ ?_
  rintro ac8 wd8 ⟨k, o, ho, FF8, MM8⟩
  have hc1 := lenAt_of (FF8.get 0 rfl)
  refine rg_c FF8 MM8 [] 12 [21] [] (fun _ _ FF9 MM9 => ?_)
  by_cases hlt : (X.length - min (64 * k) X.length) > 0
  · skip
    refine then_n (.inl ⟨(FF9.ev 0 rfl).trans (dec_t hlt), ?_⟩)
    obtain rfl : o = min (64 * k) X.length := by omega
    refine wp_seq (rg_c FF9 MM9 [(1, b_ 0), (0, t_ (.agg (cn .u8 (blockN ks ((c + k) % 4294967296) ns)))), (0, c_ (.tuple #[]) [(1, .cells (cn .u8 (xorTo (mTo ks c ns (X ++ List.replicate cz3 0) X.length k) (min (64 * k) X.length) (blockN ks ((c + k) % 4294967296) ns) (min 64 (X.length - min (64 * k) X.length)))) 5 (X.length + cz3, X.length + cz3 + 1))])] 12 [] [] (⟨rfl, ((cn_size _ _).trans (laid_len ks ((c + k) % 4294967296) ns)), (callP_of en_cblk (cblk_any (laid ks ((c + k) % 4294967296) ns) (HW k)) _), ⟨en_cturn, fun w H => cturn_any (mTo ks c ns (X ++ List.replicate cz3 0) X.length k) (blockN ks ((c + k) % 4294967296) ns) (mTo_lt ks c ns _ X.length (by rw [rep_len]; omega) (rep_lt hX cz3) k) (blockW_len _) (blockW_lt _) _ _ _ _ 1 _ (by rw [mTo_len, rep_len]; omega) (fun i hi => .inr (show _ < X.length + cz3 by omega)) _ rfl w H⟩, fun _ wd10 FF10 MM10 => then_n ?_⟩))
    have MMr23 : MemS (fun k => k < w0.heap.size) w0 wd10 [(bw, .cells (cn .u32 (laid ks ((c + k) % 4294967296) ns)) 126), (bo, .cells (cn .u8 (mTo ks c ns (X ++ List.replicate cz3 0) X.length (k + 1))) 5 (X.length + cz3, X.length + cz3 + 1)), (bn, .cells (cn .u8 ns) 45), (bk, .cells (cn .u8 ks) 42)] [] := MM10
    refine rg_c FF10 MMr23 [(0, w_ 1), (0, l_ 0 (.int .u32 ((c + k) % 4294967296 : Nat))), (0, t_ (.int .u32 ((c + (k + 1)) % 4294967296 : Nat))), (0, w_ 1), (0, s_ 0 (.cells (cn .u32 (laid ks ((c + (k + 1)) % 4294967296) ns)) 126))] 12 [] [] (⟨by decide, rfl, rfl, (vI (by omega)), by decide, rfl, (by rw [cn_size, (laid_len ks ((c + k) % 4294967296) ns)]; decide), (.inl rfl), (cn_set _ _ _ _), fun _ _ FF11 MM11 => ?_⟩)
    refine inb_n (then_n ?_)
    by_cases hq : min 64 (X.length - min (64 * k) X.length) < X.length + cz3 - min (64 * k) X.length
    · skip
      refine rg_c FF11 MM11 [(3, f_ (iN (min 64 (X.length - min (64 * k) X.length)))), (0, t_ (.slice (some ⟨bo, min (64 * k) X.length + min 64 (X.length - min (64 * k) X.length), none⟩) (X.length - min (64 * (k + 1)) X.length) (X.length + cz3 - min (64 * (k + 1)) X.length)))] 12 [] [] (⟨(min_ok (t := 3) (u := 3) (x := (.const (iN 64))) (y := (.tmp 24)) (k := .i64) (m := 64) (n := X.length - min (64 * k) X.length) (r := min 64 (X.length - min (64 * k) X.length)) (by kernel_rfl) rfl rfl rfl), by omega, by omega, by omega, (sl_eq rfl (by omega) (by omega)), fun _ _ FF12 MM12 => ?_⟩)
      have hd1 := lenAt_of (FF12.get 0 rfl)
      refine then_n ⟨⟨k + 1, min (64 * k) X.length + min 64 (X.length - min (64 * k) X.length), (fun _ => by omega), FF12.pick [0, 1, 2, 3], MM12⟩, ?_⟩
      rw [hc1, hd1]; omega
    · skip
      refine rg_c FF11 MM11 [(3, f_ (iN (min 64 (X.length - min (64 * k) X.length)))), (0, u_ 1 (.slice (some ⟨bo, min (64 * k) X.length, none⟩) (X.length - min (64 * (k + 1)) X.length) (X.length + cz3 - min (64 * (k + 1)) X.length)))] 12 [] [] (⟨(min_ok (t := 3) (u := 3) (x := (.const (iN 64))) (y := (.tmp 24)) (k := .i64) (m := 64) (n := X.length - min (64 * k) X.length) (r := min 64 (X.length - min (64 * k) X.length)) (by kernel_rfl) rfl rfl rfl), by omega, by omega, by omega, (sl_eq rfl (by omega) (by omega)), fun _ _ FF13 MM13 => ?_⟩)
      have hd1 := lenAt_of (FF13.get 0 rfl)
      refine then_n ⟨⟨k + 1, min (64 * k) X.length, (fun _ => by omega), FF13.pick [0, 1, 2, 3], MM13⟩, ?_⟩
      rw [hc1, hd1]; omega
  · skip
    refine then_n (.inr ⟨(FF9.ev 0 rfl).trans (dec_f hlt), ?_⟩)
    refine then_n ?_
    refine wp_seq (rg_c FF9 MM9 [(1, l_ 1 (sB (maskN ks c ns X)))] 12 [] [] (⟨rfl, (mask_str hX (by omega)), fun _ _ FF14 MM14 => then_n ?_⟩))
    refine wp_ret ?_
    repeat first | refine then_ret ?_ | refine inb_ret ?_
    exact (ret_fr FF14 0 Try.results43 rfl ⟨rfl, MM14.below⟩)
end Go.Proofs.Ytniplfjnpjihoaa
