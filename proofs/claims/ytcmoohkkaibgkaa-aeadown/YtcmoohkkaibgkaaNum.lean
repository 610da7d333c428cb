/- Plain arithmetic under ChaCha20: words of 32 bits, the quarter round, the rounds, the block's bytes, the mask. No program in this text. -/
import Derived.Test.YtcmoohkkaibgkaaLst
namespace Go.Proofs.Ytcmoohkkaibgkaa

def rN (m d x : Nat) : Nat := (x * m % 4294967296) ||| (x / d)
theorem rN_lt (m d x : Nat) (hx : x < 4294967296) : rN m d x < 4294967296 :=
  Nat.or_lt_two_pow (n := 32) (Nat.mod_lt _ (by decide)) (Nat.lt_of_le_of_lt (Nat.div_le_self _ _) hx)
theorem xor_lt {a b : Nat} (ha : a < 4294967296) (hb : b < 4294967296) : a ^^^ b < 4294967296 := Nat.xor_lt_two_pow (n := 32) ha hb

structure Four where
  a : Nat
  b : Nat
  c : Nat
  d : Nat
/-- The quarter round. -/
def q4 (a b c d : Nat) : Four :=
  let a1 := (a + b) % 4294967296
  let d1 := rN 65536 65536 (d ^^^ a1)
  let c1 := (c + d1) % 4294967296
  let b1 := rN 4096 1048576 (b ^^^ c1)
  let a2 := (a1 + b1) % 4294967296
  let d2 := rN 256 16777216 (d1 ^^^ a2)
  let c2 := (c1 + d2) % 4294967296
  let b2 := rN 128 33554432 (b1 ^^^ c2)
  ⟨a2, b2, c2, d2⟩
theorem q4_lt {a b c d : Nat} (hb : b < 4294967296) (hd : d < 4294967296) :
    (q4 a b c d).a < 4294967296 ∧ (q4 a b c d).b < 4294967296 ∧ (q4 a b c d).c < 4294967296 ∧ (q4 a b c d).d < 4294967296 := by
  have m : ∀ x, x % 4294967296 < 4294967296 := fun x => Nat.mod_lt _ (by decide)
  exact ⟨m _, rN_lt _ _ _ (xor_lt (rN_lt _ _ _ (xor_lt hb (m _))) (m _)), m _, rN_lt _ _ _ (xor_lt (rN_lt _ _ _ (xor_lt hd (m _))) (m _))⟩

/-- A row of words. -/
structure Words (l : List Nat) : Prop where
  len : l.length = 16
  lt : ∀ i, l.getD i 0 < 4294967296
theorem Words.set {l : List Nat} (h : Words l) (i : Nat) {x : Nat} (hx : x < 4294967296) : Words (l.set i x) :=
  ⟨by simp [h.len], fun j => by rw [getD_set]; split; exact hx; exact h.lt j⟩

/-- The quarter round at four places. -/
def qAt (l : List Nat) (a b c d : Nat) : List Nat :=
  let q := q4 (l.getD a 0) (l.getD b 0) (l.getD c 0) (l.getD d 0)
  (((l.set a q.a).set b q.b).set c q.c).set d q.d
theorem Words.qAt {l : List Nat} (h : Words l) (a b c d : Nat) : Words (qAt l a b c d) := by
  obtain ⟨h1, h2, h3, h4⟩ := q4_lt (a := l.getD a 0) (c := l.getD c 0) (h.lt b) (h.lt d)
  exact (((h.set a h1).set b h2).set c h3).set d h4
def dbl (l : List Nat) : List Nat :=
  qAt (qAt (qAt (qAt (qAt (qAt (qAt (qAt l 0 4 8 12) 1 5 9 13) 2 6 10 14) 3 7 11 15) 0 5 10 15) 1 6 11 12) 2 7 8 13) 3 4 9 14
theorem Words.dbl {l : List Nat} (h : Words l) : Words (dbl l) :=
  (((((((h.qAt 0 4 8 12).qAt 1 5 9 13).qAt 2 6 10 14).qAt 3 7 11 15).qAt 0 5 10 15).qAt 1 6 11 12).qAt 2 7 8 13).qAt 3 4 9 14
def dblN (l : List Nat) : Nat → List Nat
  | 0 => l
  | n + 1 => dbl (dblN l n)
theorem Words.dblN {l : List Nat} (h : Words l) : ∀ n, Words (dblN l n)
  | 0 => h
  | n + 1 => (Words.dblN h n).dbl

/-- A word of four bytes. -/
def wd (a b c d : Nat) : Nat := a + 256 * b + 65536 * c + 16777216 * d
theorem wd_lt {a b c d : Nat} (ha : a < 256) (hb : b < 256) (hc : c < 256) (hd : d < 256) : wd a b c d < 4294967296 := by unfold wd; omega
def wdAt (l : List Nat) (i : Nat) : Nat := wd (l.getD (4 * i) 0) (l.getD (4 * i + 1) 0) (l.getD (4 * i + 2) 0) (l.getD (4 * i + 3) 0)
theorem or_wd {a b c d : Nat} (ha : a < 256) (hb : b < 256) (hc : c < 256) : ((a ||| b * 256) ||| c * 65536) ||| d * 16777216 = wd a b c d := by
  have e1 : a ||| b * 256 = a + 256 * b := by
    have := Nat.two_pow_add_eq_or_of_lt (i := 8) (b := a) ha b
    simp only [Nat.reducePow] at this
    rw [Nat.or_comm, Nat.mul_comm b 256]; omega
  rw [e1]
  have e2 : (a + 256 * b) ||| c * 65536 = a + 256 * b + 65536 * c := by
    have := Nat.two_pow_add_eq_or_of_lt (i := 16) (b := a + 256 * b) (by omega) c
    simp only [Nat.reducePow] at this
    rw [Nat.or_comm, Nat.mul_comm c 65536]; omega
  rw [e2]
  have := Nat.two_pow_add_eq_or_of_lt (i := 24) (b := a + 256 * b + 65536 * c) (by omega) d
  simp only [Nat.reducePow] at this
  unfold wd
  rw [Nat.or_comm, Nat.mul_comm d 16777216]; omega

/-- The words ahead of the rounds. -/
def laid (ks : List Nat) (c : Nat) (ns : List Nat) : List Nat :=
  [1634760805, 857760878, 2036477234, 1797285236, wdAt ks 0, wdAt ks 1, wdAt ks 2, wdAt ks 3, wdAt ks 4, wdAt ks 5, wdAt ks 6, wdAt ks 7, c, wdAt ns 0, wdAt ns 1, wdAt ns 2]
theorem Bytes.wd {n : Nat} {l : List Nat} (h : Bytes n l) (i : Nat) : wdAt l i < 4294967296 := wd_lt (h.lt _) (h.lt _) (h.lt _) (h.lt _)
theorem laid_words {ks ns : List Nat} {c : Nat} (hk : Bytes 32 ks) (hc : c < 4294967296) (hn : Bytes 12 ns) : Words (laid ks c ns) := by
  refine ⟨rfl, fun i => ?_⟩
  match i with
  | 0 => show 1634760805 < _; decide
  | 1 => show 857760878 < _; decide
  | 2 => show 2036477234 < _; decide
  | 3 => show 1797285236 < _; decide
  | 4 => exact hk.wd 0
  | 5 => exact hk.wd 1
  | 6 => exact hk.wd 2
  | 7 => exact hk.wd 3
  | 8 => exact hk.wd 4
  | 9 => exact hk.wd 5
  | 10 => exact hk.wd 6
  | 11 => exact hk.wd 7
  | 12 => exact hc
  | 13 => exact hn.wd 0
  | 14 => exact hn.wd 1
  | 15 => exact hn.wd 2
  | _ + 16 => show 0 < _; decide

/-- Words of bytes, one behind the other, laid from place p on. -/
def setTo (p : Nat) (s : List Nat) (l : List Nat) : Nat → List Nat
  | 0 => l
  | n + 1 => (setTo p s l n).set (p + n) (wdAt s n)
theorem setTo_len (p : Nat) (s l : List Nat) : ∀ n, (setTo p s l n).length = l.length
  | 0 => rfl
  | n + 1 => by simp [setTo, setTo_len p s l n]
def lay0 (c : Nat) : List Nat := [1634760805, 857760878, 2036477234, 1797285236, 0, 0, 0, 0, 0, 0, 0, 0, c, 0, 0, 0]
theorem laid_eq (ks : List Nat) (c : Nat) (ns : List Nat) : setTo 13 ns (setTo 4 ks (lay0 c) 8) 3 = laid ks c ns := rfl
/-- The bytes of a block. -/
def sumW (s t : List Nat) (i : Nat) : Nat := (s.getD i 0 + t.getD i 0) % 4294967296
def byteW (s t : List Nat) (j : Nat) : Nat := sumW s t (j / 4) / 256 ^ (j % 4) % 256
def blockW (l : List Nat) : List Nat := (List.range 64).map (byteW (dblN l 10) l)
def blockN (ks : List Nat) (c : Nat) (ns : List Nat) : List Nat := blockW (laid ks c ns)
theorem blockW_len (l : List Nat) : (blockW l).length = 64 := by simp [blockW]
theorem blockW_get (l : List Nat) (j : Nat) (hj : j < 64) : (blockW l).getD j 0 = byteW (dblN l 10) l j := by
  simp [blockW, hj]
theorem blockW_lt (l : List Nat) (j : Nat) : (blockW l).getD j 0 < 256 := by
  rcases Nat.lt_or_ge j 64 with hj | hj
  · rw [blockW_get l j hj]; exact Nat.mod_lt _ (by decide)
  · rw [List.getD_eq_getElem?_getD, List.getElem?_eq_none (by rw [blockW_len]; exact hj)]; decide
/-- A block's bytes, word by word. -/
def bset (s l : List Nat) : Nat → List Nat
  | 0 => List.replicate 64 0
  | n + 1 => ((((bset s l n).set (4 * n) (sumW s l n % 256)).set (4 * n + 1) (sumW s l n / 256 % 256)).set (4 * n + 2) (sumW s l n / 65536 % 256)).set (4 * n + 3) (sumW s l n / 16777216 % 256)
theorem bset_len (s l : List Nat) : ∀ n, (bset s l n).length = 64
  | 0 => List.length_replicate
  | n + 1 => by simp [bset, bset_len s l n]
theorem bset_get (s l : List Nat) : ∀ n, n ≤ 16 → ∀ j, j < 64 → (bset s l n).getD j 0 = if j < 4 * n then byteW s l j else 0
  | 0, _, j, h => by rw [if_neg (by omega)]; simp only [bset, List.getD_eq_getElem?_getD, List.getElem?_replicate, if_pos h, Option.getD_some]
  | n + 1, hn, j, h => by
    have ih := bset_get s l n (by omega) j h
    simp only [bset, getD_set, List.length_set, bset_len]
    unfold byteW
    by_cases e3 : 4 * n + 3 = j
    · rw [if_pos ⟨e3, by omega⟩, if_pos (by omega), show j / 4 = n by omega, show j % 4 = 3 by omega]
    rw [if_neg (fun x => e3 x.1)]
    by_cases e2 : 4 * n + 2 = j
    · rw [if_pos ⟨e2, by omega⟩, if_pos (by omega), show j / 4 = n by omega, show j % 4 = 2 by omega]
    rw [if_neg (fun x => e2 x.1)]
    by_cases e1 : 4 * n + 1 = j
    · rw [if_pos ⟨e1, by omega⟩, if_pos (by omega), show j / 4 = n by omega, show j % 4 = 1 by omega]
    rw [if_neg (fun x => e1 x.1)]
    by_cases e0 : 4 * n = j
    · rw [if_pos ⟨e0, by omega⟩, if_pos (by omega), show j / 4 = n by omega, show j % 4 = 0 by omega, Nat.pow_zero, Nat.div_one]
    rw [if_neg (fun x => e0 x.1), ih]
    by_cases hj : j < 4 * n
    · rw [if_pos hj, if_pos (by omega)]; rfl
    · rw [if_neg hj, if_neg (by omega)]
theorem bset_all (l : List Nat) : bset (dblN l 10) l 16 = blockW l := by
  refine ext_getD (by rw [bset_len, blockW_len]) fun i h => ?_
  rw [bset_len] at h
  rw [bset_get _ _ _ (Nat.le_refl _) i h, if_pos (by omega), blockW_get l i h]
/-- Bytes, turned by others, from place o on. -/
def xorTo (X : List Nat) (o : Nat) (B : List Nat) : Nat → List Nat
  | 0 => X
  | n + 1 => (xorTo X o B n).set (o + n) (X.getD (o + n) 0 ^^^ B.getD n 0)
theorem xorTo_len (X : List Nat) (o : Nat) (B : List Nat) : ∀ n, (xorTo X o B n).length = X.length
  | 0 => rfl
  | n + 1 => by simp [xorTo, xorTo_len X o B n]
theorem xorTo_get (X : List Nat) (o : Nat) (B : List Nat) (j : Nat) : ∀ n, o + n ≤ X.length → (xorTo X o B n).getD j 0 = if o ≤ j ∧ j < o + n then X.getD j 0 ^^^ B.getD (j - o) 0 else X.getD j 0
  | 0, _ => by rw [if_neg (by omega)]; rfl
  | n + 1, h => by
    simp only [xorTo, getD_set, xorTo_len, xorTo_get X o B j n (by omega)]
    by_cases e : o + n = j
    · rw [if_pos ⟨e, by omega⟩, if_pos (by omega), e, show j - o = n by omega]
    · rw [if_neg (fun x => e x.1)]
      by_cases h2 : o ≤ j ∧ j < o + n
      · rw [if_pos h2, if_pos (by omega)]
      · rw [if_neg h2, if_neg (by omega)]
theorem xorTo_lt (X : List Nat) (o : Nat) (B : List Nat) (hX : ∀ i, X.getD i 0 < 256) (hB : ∀ i, B.getD i 0 < 256) (n : Nat) (h : o + n ≤ X.length) (j : Nat) : (xorTo X o B n).getD j 0 < 256 := by
  rw [xorTo_get X o B j n h]
  split
  · exact xor_lt8 (hX j) (hB _)
  · exact hX j
/-- The mask. -/
def maskN (ks : List Nat) (c : Nat) (ns : List Nat) (t : List Nat) : List Nat :=
  (List.range t.length).map fun i => t.getD i 0 ^^^ (blockN ks ((c + i / 64) % 4294967296) ns).getD (i % 64) 0
theorem maskN_len (ks : List Nat) (c : Nat) (ns t : List Nat) : (maskN ks c ns t).length = t.length := by simp [maskN]
theorem maskN_get (ks : List Nat) (c : Nat) (ns t : List Nat) (i : Nat) (h : i < t.length) : (maskN ks c ns t).getD i 0 = t.getD i 0 ^^^ (blockN ks ((c + i / 64) % 4294967296) ns).getD (i % 64) 0 := by
  simp [maskN, h]
theorem maskN_twice (ks : List Nat) (c : Nat) (ns t : List Nat) : maskN ks c ns (maskN ks c ns t) = t := by
  refine ext_getD (by simp [maskN_len]) fun i h => ?_
  rw [maskN_len, maskN_len] at h
  rw [maskN_get _ _ _ _ _ (by rw [maskN_len]; exact h), maskN_get _ _ _ _ _ h, Nat.xor_assoc, Nat.xor_self, Nat.xor_zero]
theorem maskN_take (ks : List Nat) (c : Nat) (ns t : List Nat) (k : Nat) : (maskN ks c ns t).take k = maskN ks c ns (t.take k) := by
  refine ext_getD (by simp [maskN_len]) fun i h => ?_
  simp only [List.length_take, maskN_len] at h
  have e : ∀ l : List Nat, (l.take k).getD i 0 = l.getD i 0 := fun l => by
    simp [show i < k by omega]
  rw [e, maskN_get _ _ _ _ _ (by omega), maskN_get _ _ _ _ _ (by simp; omega), e]
theorem maskN_parts (ks : List Nat) (c : Nat) (ns t : List Nat) (k : Nat) (hk : 64 * k ≤ t.length) :
    maskN ks c ns (t.take (64 * k)) ++ maskN ks ((c + k) % 4294967296) ns (t.drop (64 * k)) = maskN ks c ns t := by
  refine ext_getD (by simp [maskN_len]; omega) fun i h => ?_
  simp only [List.length_append, List.length_take, List.length_drop, maskN_len] at h
  rw [maskN_get _ _ _ _ _ (by omega)]
  rcases Nat.lt_or_ge i (64 * k) with hi | hi
  · rw [getD_app_l _ _ _ (by simp [maskN_len]; omega), maskN_get _ _ _ _ _ (by simp; omega)]
    simp [hi]
  · rw [getD_app_r _ _ _ (by simp [maskN_len]; omega)]
    have e : (maskN ks c ns (t.take (64 * k))).length = 64 * k := by simp [maskN_len]; omega
    rw [e, maskN_get _ _ _ _ _ (by simp; omega)]
    have e2 : (t.drop (64 * k)).getD (i - 64 * k) 0 = t.getD i 0 := by
      simp only [List.getD_eq_getElem?_getD, List.getElem?_drop]
      congr 2; omega
    rw [e2, show (i - 64 * k) % 64 = i % 64 by omega, show ((c + k) % 4294967296 + (i - 64 * k) / 64) % 4294967296 = (c + i / 64) % 4294967296 by omega]
theorem maskN_zero (ks : List Nat) (c : Nat) (ns : List Nat) (hc : c < 4294967296) : maskN ks c ns (List.replicate 128 0) = blockN ks c ns ++ blockN ks ((c + 1) % 4294967296) ns := by
  refine ext_getD (by simp [maskN_len, blockN, blockW_len]) fun i h => ?_
  simp only [maskN_len, List.length_replicate] at h
  have l1 : (blockN ks c ns).length = 64 := blockW_len _
  rw [maskN_get _ _ _ _ _ (by simp; omega)]
  have e : (List.replicate 128 0).getD i 0 = 0 := by rw [List.getD_eq_getElem?_getD, List.getElem?_replicate, if_pos h]; rfl
  rw [e, Nat.zero_xor]
  rcases Nat.lt_or_ge i 64 with hi | hi
  · rw [getD_app_l _ _ _ (by rw [l1]; exact hi), show i % 64 = i by omega, show (c + i / 64) % 4294967296 = c by omega]
  · rw [getD_app_r _ _ _ (by rw [l1]; exact hi), l1, show i % 64 = i - 64 by omega, show (c + i / 64) % 4294967296 = (c + 1) % 4294967296 by omega]

/-- The mask, block by block. -/
def mTo (ks : List Nat) (c : Nat) (ns : List Nat) (X : List Nat) (N : Nat) : Nat → List Nat
  | 0 => X
  | k + 1 => xorTo (mTo ks c ns X N k) (min (64 * k) N) (blockN ks ((c + k) % 4294967296) ns) (min 64 (N - min (64 * k) N))
theorem mTo_len (ks : List Nat) (c : Nat) (ns X : List Nat) (N : Nat) : ∀ k, (mTo ks c ns X N k).length = X.length
  | 0 => rfl
  | k + 1 => by rw [mTo, xorTo_len, mTo_len ks c ns X N k]
theorem mTo_get (ks : List Nat) (c : Nat) (ns X : List Nat) (N : Nat) (hN : N ≤ X.length) (j : Nat) : ∀ k, (mTo ks c ns X N k).getD j 0 = if j < min (64 * k) N then X.getD j 0 ^^^ (blockN ks ((c + j / 64) % 4294967296) ns).getD (j % 64) 0 else X.getD j 0
  | 0 => by rw [if_neg (by omega)]; rfl
  | k + 1 => by
    have ih := mTo_get ks c ns X N hN j k
    rw [mTo, xorTo_get _ _ _ _ _ (by rw [mTo_len]; omega), ih]
    clear ih
    rcases Nat.le_total (64 * k) N with hk | hk
    · rw [Nat.min_eq_left hk]
      obtain ⟨r, hr⟩ : ∃ r, N - 64 * k = r := ⟨_, rfl⟩
      rw [hr]
      by_cases h : 64 * k ≤ j ∧ j < 64 * k + min 64 r
      · rw [if_pos h, if_neg (show ¬ j < 64 * k by omega), if_pos (show j < min (64 * (k + 1)) N by omega), show j / 64 = k by omega, show j - 64 * k = j % 64 by omega]
      · rw [if_neg h]
        by_cases h2 : j < 64 * k
        · rw [if_pos h2, if_pos (by omega)]
        · rw [if_neg h2, if_neg (by omega)]
    · rw [Nat.min_eq_right hk, Nat.sub_self, Nat.min_zero, if_neg (by omega), Nat.min_eq_right (by omega)]
theorem mTo_lt (ks : List Nat) (c : Nat) (ns X : List Nat) (N : Nat) (hN : N ≤ X.length) (hX : ∀ i, X.getD i 0 < 256) (k j : Nat) : (mTo ks c ns X N k).getD j 0 < 256 := by
  rw [mTo_get ks c ns X N hN j k]
  split
  · exact xor_lt8 (hX j) (blockW_lt _ _)
  · exact hX j
theorem mTo_all (ks : List Nat) (c : Nat) (ns X Z : List Nat) (k : Nat) (hk : X.length ≤ 64 * k) : (mTo ks c ns (X ++ Z) X.length k).take X.length = maskN ks c ns X := by
  refine ext_getD (by simp [mTo_len, maskN_len]) fun i h => ?_
  simp only [List.length_take, mTo_len, List.length_append] at h
  have e : ((mTo ks c ns (X ++ Z) X.length k).take X.length).getD i 0 = (mTo ks c ns (X ++ Z) X.length k).getD i 0 := by
    simp [show i < X.length by omega]
  rw [e, mTo_get _ _ _ _ _ (by simp) i k, if_pos (by omega), maskN_get _ _ _ _ _ (by omega), getD_app_l _ _ _ (by omega)]
theorem maskN_lt (ks : List Nat) (c : Nat) (ns t : List Nat) (ht : ∀ i, t.getD i 0 < 256) (i : Nat) : (maskN ks c ns t).getD i 0 < 256 := by
  rcases Nat.lt_or_ge i t.length with h | h
  · rw [maskN_get _ _ _ _ _ h]; exact xor_lt8 (ht i) (blockW_lt _ _)
  · rw [List.getD_eq_getElem?_getD, List.getElem?_eq_none (by rw [maskN_len]; exact h)]; decide
theorem laid_set (ks : List Nat) (c c' : Nat) (ns : List Nat) : (laid ks c ns).set 12 c' = laid ks c' ns := rfl
/-- A block's bytes, four by four. -/
def outTo (s l : List Nat) : Nat → List Nat
  | 0 => []
  | n + 1 => outTo s l n ++ [sumW s l n % 256, sumW s l n / 256 % 256, sumW s l n / 65536 % 256, sumW s l n / 16777216 % 256]
theorem outTo_eq (s l : List Nat) : ∀ n, outTo s l n = (List.range (4 * n)).map (byteW s l)
  | 0 => rfl
  | n + 1 => by
    rw [outTo, outTo_eq s l n, show 4 * (n + 1) = 4 * n + 1 + 1 + 1 + 1 by omega, List.range_succ, List.range_succ, List.range_succ, List.range_succ]
    simp only [List.map_append, List.map_cons, List.map_nil, List.append_assoc, List.cons_append, List.nil_append]
    congr 1
    unfold byteW
    rw [show 4 * n / 4 = n by omega, show (4 * n + 1) / 4 = n by omega, show (4 * n + 1 + 1) / 4 = n by omega, show (4 * n + 1 + 1 + 1) / 4 = n by omega,
      show 4 * n % 4 = 0 by omega, show (4 * n + 1) % 4 = 1 by omega, show (4 * n + 1 + 1) % 4 = 2 by omega, show (4 * n + 1 + 1 + 1) % 4 = 3 by omega, Nat.pow_zero, Nat.div_one]
theorem outTo_len (s l : List Nat) (n : Nat) : (outTo s l n).length = 4 * n := by simp [outTo_eq]
theorem outTo_all (l : List Nat) : outTo (dblN l 10) l 16 = blockW l := outTo_eq _ _ 16
/-- Half a double round, a quarter at a time. -/
def colTo (L : List Nat) : Nat → List Nat
  | 0 => L
  | i + 1 => qAt (colTo L i) i (4 + i) (8 + i) (12 + i)
def diagTo (L : List Nat) : Nat → List Nat
  | 0 => L
  | i + 1 => qAt (diagTo L i) i (4 + (i + 1) % 4) (8 + (i + 2) % 4) (12 + (i + 3) % 4)
theorem dbl_eq (L : List Nat) : diagTo (colTo L 4) 4 = dbl L := rfl
theorem Words.colTo {L : List Nat} (h : Words L) : ∀ i, Words (colTo L i)
  | 0 => h
  | i + 1 => (Words.colTo h i).qAt _ _ _ _
theorem Words.diagTo {L : List Nat} (h : Words L) : ∀ i, Words (diagTo L i)
  | 0 => h
  | i + 1 => (Words.diagTo h i).qAt _ _ _ _
theorem laid_eq2 (ks : List Nat) (c : Nat) (ns : List Nat) : setTo 13 ns ((setTo 4 ks (lay0 0) 8).set 12 c) 3 = laid ks c ns := rfl
theorem wdAt_cut (s : List Nat) (i : Nat) : wdAt ((s.drop (0 + 4 * i)).take (4 * i + 4 - 4 * i)) 0 = wdAt s i := by
  rw [show 4 * i + 4 - 4 * i = 4 by omega, Nat.zero_add]
  simp only [wdAt, List.getD_eq_getElem?_getD, List.getElem?_take, List.getElem?_drop]
  simp
/-- The mask, byte by byte. -/
def mkTo (ks : List Nat) (c : Nat) (ns X : List Nat) (n : Nat) : List Nat := (List.range n).map fun i => X.getD i 0 ^^^ (blockN ks ((c + i / 64) % 4294967296) ns).getD (i % 64) 0
theorem mkTo_len (ks : List Nat) (c : Nat) (ns X : List Nat) (n : Nat) : (mkTo ks c ns X n).length = n := by simp [mkTo]
theorem mkTo_succ (ks : List Nat) (c : Nat) (ns X : List Nat) (n : Nat) : mkTo ks c ns X (n + 1) = mkTo ks c ns X n ++ [X.getD n 0 ^^^ (blockN ks ((c + n / 64) % 4294967296) ns).getD (n % 64) 0] := by
  simp [mkTo, List.range_succ]
theorem mkTo_all (ks : List Nat) (c : Nat) (ns X : List Nat) : mkTo ks c ns X X.length = maskN ks c ns X := rfl
/-! ### What 'wakes' comes to -/
def rise : List Nat := List.range 32
def riseTo : Nat → List Nat
  | 0 => List.replicate 32 0
  | i + 1 => (riseTo i).set i i
theorem riseTo_len : ∀ i, (riseTo i).length = 32
  | 0 => List.length_replicate
  | i + 1 => by simp [riseTo, riseTo_len i]
theorem riseTo_all : riseTo 32 = rise := by decide
def wakeN : List Nat := [0, 0, 0, 9, 0, 0, 0, 74, 0, 0, 0, 0]
theorem rise_bytes : Bytes 32 rise := bytes_of (by decide) (by decide)
theorem wakeN_bytes : Bytes 12 wakeN := bytes_of (by decide) (by decide)
theorem zero12_bytes : Bytes 12 (List.replicate 12 0) := bytes_of (by decide) (by decide)
theorem abc_lt : ∀ i, [97, 98, 99].getD i 0 < 256 := (bytes_of (n := 3) rfl (by decide)).lt
theorem wakes_1 : (blockN rise 1 wakeN).take 4 = [16, 241, 231, 228] := by decide +kernel
end Go.Proofs.Ytcmoohkkaibgkaa
