/- Two digests, reckoned; wakes of layer 6. -/
import Derived.Test.YtkpindnekaijfaaDoorS4
namespace Go.Proofs.YtkpindnekaijfaaDoor
open Go.RowKit

/-- A number, reckoned ahead of what is done with it. -/
def frc {α : Type} (n : Nat) (k : Nat → α) : α := match n with
  | 0 => k 0
  | m + 1 => k (m + 1)
theorem frc_eq {α : Type} (n : Nat) (k : Nat → α) : frc n k = k n := by cases n <;> rfl
def revW (B : List Nat) : Nat → List Nat
  | 0 => []
  | n + 1 => wAt B n :: revW B n
theorem revW_get (B : List Nat) : ∀ (n i : Nat), i < n → (revW B n).getD i 0 = wAt B (n - 1 - i)
  | 0, _, h => absurd h (Nat.not_lt_zero _)
  | n + 1, 0, _ => by simp [revW]
  | n + 1, i + 1, h => by
    have := revW_get B n i (by omega)
    simp only [revW, List.getD_cons_succ, this]
    congr 1; omega
def inw (B : List Nat) : Nat → Nat → List Nat → List Nat
  | 0, _, L => L
  | k + 1, i, L => frc (wd B (4 * i)) fun x => inw B k (i + 1) (x :: L)
theorem inw_eq (B : List Nat) : ∀ (k i : Nat), i + k ≤ 16 → inw B k i (revW B i) = revW B (i + k)
  | 0, _, _ => rfl
  | k + 1, i, h => by
    rw [inw, frc_eq, ← wAt_lo B (by omega)]
    exact (inw_eq B k (i + 1) (by omega)).trans (by rw [show i + 1 + k = i + (k + 1) by omega])
def sch : Nat → List Nat → List Nat
  | 0, L => L
  | n + 1, L => frc (nxt (L.getD 15 0) (L.getD 14 0) (L.getD 6 0) (L.getD 1 0)) fun x => sch n (x :: L)
theorem sch_eq (B : List Nat) : ∀ (k n : Nat), 16 ≤ n → sch k (revW B n) = revW B (n + k)
  | 0, _, _ => rfl
  | k + 1, n, h => by
    rw [sch, frc_eq, revW_get _ _ _ (by omega), revW_get _ _ _ (by omega), revW_get _ _ _ (by omega), revW_get _ _ _ (by omega)]
    have e := wAt_hi B h
    rw [show n - 16 = n - 1 - 15 by omega, show n - 15 = n - 1 - 14 by omega, show n - 7 = n - 1 - 6 by omega, show n - 2 = n - 1 - 1 by omega] at e
    rw [← e]
    exact (sch_eq B k (n + 1) (by omega)).trans (by rw [show n + 1 + k = n + (k + 1) by omega])
def rn : List Nat → List Nat → Nat → Nat → Nat → Nat → Nat → Nat → Nat → Nat → List Nat
  | k :: ks, w :: ws, a, b, c, d, e, f, g, h => frc (((((h + sg e 6 11 25) % 4294967296 + cho e f g) % 4294967296 + k) % 4294967296 + w) % 4294967296) fun t => frc ((t + (sg a 2 13 22 + maj a b c) % 4294967296) % 4294967296) fun a' => frc ((d + t) % 4294967296) fun e' => rn ks ws a' a b c e' e f g
  | _, _, a, b, c, d, e, f, g, h => [a, b, c, d, e, f, g, h]
def fwd (B : List Nat) : List Nat := (revW B 64).reverse
theorem revW_len (B : List Nat) : ∀ n, (revW B n).length = n
  | 0 => rfl
  | n + 1 => by rw [revW, List.length_cons, revW_len B n]
theorem fwd_get (B : List Nat) (i : Nat) (h : i < (fwd B).length) : (fwd B)[i] = wAt B i := by
  have hl : i < 64 := by simpa [fwd, revW_len] using h
  have e := revW_get B 64 (63 - i) (by omega)
  rw [show 64 - 1 - (63 - i) = i by omega] at e
  rw [← e, List.getD_eq_getElem?_getD]
  simp only [fwd, List.getElem_reverse, revW_len]
  rw [List.getElem?_eq_getElem (by rw [revW_len]; omega)]
  simp
theorem eta8 {l : List Nat} (h : l.length = 8) : [l.getD 0 0, l.getD 1 0, l.getD 2 0, l.getD 3 0, l.getD 4 0, l.getD 5 0, l.getD 6 0, l.getD 7 0] = l := by
  refine ext_getD (by rw [h]; rfl) fun i hi => ?_
  have : i < 8 := hi
  match i with
  | 0 => rfl
  | 1 => rfl
  | 2 => rfl
  | 3 => rfl
  | 4 => rfl
  | 5 => rfl
  | 6 => rfl
  | 7 => rfl
  | i + 8 => omega
theorem getE_D (l : List Nat) (n : Nat) (h : n < l.length) : l[n]'h = l.getD n 0 := by simp [h]
theorem rn_eq {H : List Nat} (hH : Wds 8 H) (B : List Nat) {N : Nat} (hN : N = 64) : ∀ (m n : Nat), n + m = N → rn (kTab.drop n) ((fwd B).drop n) ((stK H B n).getD 0 0) ((stK H B n).getD 1 0) ((stK H B n).getD 2 0) ((stK H B n).getD 3 0) ((stK H B n).getD 4 0) ((stK H B n).getD 5 0) ((stK H B n).getD 6 0) ((stK H B n).getD 7 0) = stK H B N
  | 0, n, h => by
    obtain rfl : n = N := by omega
    rw [List.drop_eq_nil_of_le (by rw [kTab_wds.len]; omega)]
    exact eta8 (stK_wds hH B n).len
  | m + 1, n, h => by
    have h1 : n < kTab.length := by rw [kTab_wds.len]; omega
    have h2 : n < (fwd B).length := by simp [fwd, revW_len]; omega
    rw [List.drop_eq_getElem_cons h1, List.drop_eq_getElem_cons h2, fwd_get, getE_D kTab n h1, rn, frc_eq, frc_eq, frc_eq]
    exact rn_eq hH B hN m (n + 1) (by omega)
/-- The eight words, reckoned. -/
def evS (H B : List Nat) : List Nat := rn kTab (sch 48 (inw B 16 0 [])).reverse (H.getD 0 0) (H.getD 1 0) (H.getD 2 0) (H.getD 3 0) (H.getD 4 0) (H.getD 5 0) (H.getD 6 0) (H.getD 7 0)
theorem evS_eq {H : List Nat} (hH : Wds 8 H) (B : List Nat) : evS H B = stK H B 64 := by
  have e1 : inw B 16 0 [] = revW B 16 := inw_eq B 16 0 (by decide)
  have e2 : sch 48 (revW B 16) = revW B 64 := sch_eq B 48 16 (by decide)
  rw [evS, e1, e2]
  exact rn_eq hH B rfl 64 0 rfl
theorem aft_ev {H : List Nat} (hH : Wds 8 H) (B : List Nat) {S : List Nat} (h : evS H B = S) : aftN H B = [(H.getD 0 0 + S.getD 0 0) % 4294967296, (H.getD 1 0 + S.getD 1 0) % 4294967296, (H.getD 2 0 + S.getD 2 0) % 4294967296, (H.getD 3 0 + S.getD 3 0) % 4294967296, (H.getD 4 0 + S.getD 4 0) % 4294967296, (H.getD 5 0 + S.getD 5 0) % 4294967296, (H.getD 6 0 + S.getD 6 0) % 4294967296, (H.getD 7 0 + S.getD 7 0) % 4294967296] := by
  rw [← h, evS_eq hH B]; rfl
theorem ev_abc : evS iv [97, 98, 99, 128, 0, 0, 0, 0, 0, 0, 0, 0, 0, 0, 0, 0, 0, 0, 0, 0, 0, 0, 0, 0, 0, 0, 0, 0, 0, 0, 0, 0, 0, 0, 0, 0, 0, 0, 0, 0, 0, 0, 0, 0, 0, 0, 0, 0, 0, 0, 0, 0, 0, 0, 0, 0, 0, 0, 0, 0, 0, 0, 0, 24] = [1349398616, 3550093669, 80891244, 3093179625, 1593118500, 4212265488, 2492278198, 2518632596] := by kernel_rfl
theorem sha_abc : shaN [97, 98, 99] = [186, 120, 22, 191, 143, 1, 207, 234, 65, 65, 64, 222, 93, 174, 34, 35, 176, 3, 97, 163, 150, 23, 122, 156, 180, 16, 255, 97, 242, 0, 21, 173] := by
  have e : sCl (sH [97, 98, 99]) (sRem [97, 98, 99]) (8 * ([97, 98, 99] : List Nat).length) = aftN iv [97, 98, 99, 128, 0, 0, 0, 0, 0, 0, 0, 0, 0, 0, 0, 0, 0, 0, 0, 0, 0, 0, 0, 0, 0, 0, 0, 0, 0, 0, 0, 0, 0, 0, 0, 0, 0, 0, 0, 0, 0, 0, 0, 0, 0, 0, 0, 0, 0, 0, 0, 0, 0, 0, 0, 0, 0, 0, 0, 0, 0, 0, 0, 24] := by kernel_rfl
  exact (congrArg dgN (e.trans (aft_ev iv_wds _ ev_abc))).trans (by kernel_rfl)
theorem ev_nil : evS iv [128, 0, 0, 0, 0, 0, 0, 0, 0, 0, 0, 0, 0, 0, 0, 0, 0, 0, 0, 0, 0, 0, 0, 0, 0, 0, 0, 0, 0, 0, 0, 0, 0, 0, 0, 0, 0, 0, 0, 0, 0, 0, 0, 0, 0, 0, 0, 0, 0, 0, 0, 0, 0, 0, 0, 0, 0, 0, 0, 0, 0, 0, 0, 0] = [2040978907, 3717492111, 1586299222, 4095722474, 3600805733, 3382061760, 2232532848, 477227836] := by kernel_rfl
theorem sha_nil : shaN [] = [227, 176, 196, 66, 152, 252, 28, 20, 154, 251, 244, 200, 153, 111, 185, 36, 39, 174, 65, 228, 100, 155, 147, 76, 164, 149, 153, 27, 120, 82, 184, 85] := by
  have e : sCl (sH []) (sRem []) (8 * ([] : List Nat).length) = aftN iv [128, 0, 0, 0, 0, 0, 0, 0, 0, 0, 0, 0, 0, 0, 0, 0, 0, 0, 0, 0, 0, 0, 0, 0, 0, 0, 0, 0, 0, 0, 0, 0, 0, 0, 0, 0, 0, 0, 0, 0, 0, 0, 0, 0, 0, 0, 0, 0, 0, 0, 0, 0, 0, 0, 0, 0, 0, 0, 0, 0, 0, 0, 0, 0] := by kernel_rfl
  exact (congrArg dgN (e.trans (aft_ev iv_wds _ ev_nil))).trans (by kernel_rfl)

end Go.Proofs.YtkpindnekaijfaaDoor
