/- Two digests, reckoned; wakes of layer 6. -/
import Derived.Test.YthjbbbjdpoggiaaDoorS4
namespace Go.Proofs.YthjbbbjdpoggiaaDoor
open Go.RowKit

/-- A number, reckoned ahead of what is done with it. -/
def frc {α : Type} (n : Nat) (k : Nat → α) : α := match n with
  | 0 => k 0
  | m + 1 => k (m + 1)
theorem frc_eq {α : Type} (n : Nat) (k : Nat → α) : frc n k = k n := by cases n <;> rfl
def revW (B : List Nat) : Nat → List Nat
  | 0 => []
  | n + 1 => wAt B n :: revW B n
theorem revW_get (B : List Nat) : ∀ (n i : Nat), i < n → (revW B n).getD i 0 = wAt B (n - 1 - i)
  | 0, _, h => absurd h (Nat.not_lt_zero _)
  | n + 1, 0, _ => by simp [revW]
  | n + 1, i + 1, h => by
    have := revW_get B n i (by omega)
    simp only [revW, List.getD_cons_succ, this]
    congr 1; omega
def inw (B : List Nat) : Nat → Nat → List Nat → List Nat
  | 0, _, L => L
  | k + 1, i, L => frc (wd B (4 * i)) fun x => inw B k (i + 1) (x :: L)
theorem inw_eq (B : List Nat) : ∀ (k i : Nat), i + k ≤ 16 → inw B k i (revW B i) = revW B (i + k)
  | 0, _, _ => rfl
  | k + 1, i, h => by
    rw [inw, frc_eq, ← wAt_lo B (by omega)]
    exact (inw_eq B k (i + 1) (by omega)).trans (by rw [show i + 1 + k = i + (k + 1) by omega])
def sch : Nat → List Nat → List Nat
  | 0, L => L
  | n + 1, L => frc (nxt (L.getD 15 0) (L.getD 14 0) (L.getD 6 0) (L.getD 1 0)) fun x => sch n (x :: L)
theorem sch_eq (B : List Nat) : ∀ (k n : Nat), 16 ≤ n → sch k (revW B n) = revW B (n + k)
  | 0, _, _ => rfl
  | k + 1, n, h => by
    rw [sch, frc_eq, revW_get _ _ _ (by omega), revW_get _ _ _ (by omega), revW_get _ _ _ (by omega), revW_get _ _ _ (by omega)]
    have e := wAt_hi B h
    rw [show n - 16 = n - 1 - 15 by omega, show n - 15 = n - 1 - 14 by omega, show n - 7 = n - 1 - 6 by omega, show n - 2 = n - 1 - 1 by omega] at e
    rw [← e]
    exact (sch_eq B k (n + 1) (by omega)).trans (by rw [show n + 1 + k = n + (k + 1) by omega])
def rn : List Nat → List Nat → Nat → Nat → Nat → Nat → Nat → Nat → Nat → Nat → List Nat
  | k :: ks, w :: ws, a, b, c, d, e, f, g, h => frc (((((h + sg e 6 11 25) % 4294967296 + cho e f g) % 4294967296 + k) % 4294967296 + w) % 4294967296) fun t => frc ((t + (sg a 2 13 22 + maj a b c) % 4294967296) % 4294967296) fun a' => frc ((d + t) % 4294967296) fun e' => rn ks ws a' a b c e' e f g
  | _, _, a, b, c, d, e, f, g, h => [a, b, c, d, e, f, g, h]
def fwd (B : List Nat) : List Nat := (revW B 64).reverse
theorem revW_len (B : List Nat) : ∀ n, (revW B n).length = n
  | 0 => rfl
  | n + 1 => by rw [revW, List.length_cons, revW_len B n]
theorem fwd_get (B : List Nat) (i : Nat) (h : i < (fwd B).length) : (fwd B)[i] = wAt B i := by
  have hl : i < 64 := by simpa [fwd, revW_len] using h
  have e := revW_get B 64 (63 - i) (by omega)
  rw [show 64 - 1 - (63 - i) = i by omega] at e
  rw [← e, List.getD_eq_getElem?_getD]
  simp only [fwd, List.getElem_reverse, revW_len]
  rw [List.getElem?_eq_getElem (by rw [revW_len]; omega)]
  simp
theorem eta8 {l : List Nat} (h : l.length = 8) : [l.getD 0 0, l.getD 1 0, l.getD 2 0, l.getD 3 0, l.getD 4 0, l.getD 5 0, l.getD 6 0, l.getD 7 0] = l := by
  refine ext_getD (by rw [h]; rfl) fun i hi => ?_
  have : i < 8 := hi
  match i with
  | 0 => rfl
  | 1 => rfl
  | 2 => rfl
  | 3 => rfl
  | 4 => rfl
  | 5 => rfl
  | 6 => rfl
  | 7 => rfl
  | i + 8 => omega
theorem getE_D (l : List Nat) (n : Nat) (h : n < l.length) : l[n]'h = l.getD n 0 := by simp [h]
theorem rn_eq {H : List Nat} (hH : Wds 8 H) (B : List Nat) {N : Nat} (hN : N = 64) : ∀ (m n : Nat), n + m = N → rn (kTab.drop n) ((fwd B).drop n) ((stK H B n).getD 0 0) ((stK H B n).getD 1 0) ((stK H B n).getD 2 0) ((stK H B n).getD 3 0) ((stK H B n).getD 4 0) ((stK H B n).getD 5 0) ((stK H B n).getD 6 0) ((stK H B n).getD 7 0) = stK H B N
  | 0, n, h => by
    obtain rfl : n = N := by omega
    rw [List.drop_eq_nil_of_le (by rw [kTab_wds.len]; omega)]
    exact eta8 (stK_wds hH B n).len
  | m + 1, n, h => by
    have h1 : n < kTab.length := by rw [kTab_wds.len]; omega
    have h2 : n < (fwd B).length := by simp [fwd, revW_len]; omega
    rw [List.drop_eq_getElem_cons h1, List.drop_eq_getElem_cons h2, fwd_get, getE_D kTab n h1, rn, frc_eq, frc_eq, frc_eq]
    exact rn_eq hH B hN m (n + 1) (by omega)
/-- The eight words, reckoned. -/
def evS (H B : List Nat) : List Nat := rn kTab (sch 48 (inw B 16 0 [])).reverse (H.getD 0 0) (H.getD 1 0) (H.getD 2 0) (H.getD 3 0) (H.getD 4 0) (H.getD 5 0) (H.getD 6 0) (H.getD 7 0)
theorem evS_eq {H : List Nat} (hH : Wds 8 H) (B : List Nat) : evS H B = stK H B 64 := by
  have e1 : inw B 16 0 [] = revW B 16 := inw_eq B 16 0 (by decide)
  have e2 : sch 48 (revW B 16) = revW B 64 := sch_eq B 48 16 (by decide)
  rw [evS, e1, e2]
  exact rn_eq hH B rfl 64 0 rfl
theorem aft_ev {H : List Nat} (hH : Wds 8 H) (B : List Nat) {S : List Nat} (h : evS H B = S) : aftN H B = [(H.getD 0 0 + S.getD 0 0) % 4294967296, (H.getD 1 0 + S.getD 1 0) % 4294967296, (H.getD 2 0 + S.getD 2 0) % 4294967296, (H.getD 3 0 + S.getD 3 0) % 4294967296, (H.getD 4 0 + S.getD 4 0) % 4294967296, (H.getD 5 0 + S.getD 5 0) % 4294967296, (H.getD 6 0 + S.getD 6 0) % 4294967296, (H.getD 7 0 + S.getD 7 0) % 4294967296] := by
  rw [← h, evS_eq hH B]; rfl
theorem ev_abc : evS iv [97, 98, 99, 128, 0, 0, 0, 0, 0, 0, 0, 0, 0, 0, 0, 0, 0, 0, 0, 0, 0, 0, 0, 0, 0, 0, 0, 0, 0, 0, 0, 0, 0, 0, 0, 0, 0, 0, 0, 0, 0, 0, 0, 0, 0, 0, 0, 0, 0, 0, 0, 0, 0, 0, 0, 0, 0, 0, 0, 0, 0, 0, 0, 24] = [1349398616, 3550093669, 80891244, 3093179625, 1593118500, 4212265488, 2492278198, 2518632596] := by kernel_rfl
theorem sha_abc : shaN [97, 98, 99] = [186, 120, 22, 191, 143, 1, 207, 234, 65, 65, 64, 222, 93, 174, 34, 35, 176, 3, 97, 163, 150, 23, 122, 156, 180, 16, 255, 97, 242, 0, 21, 173] := by
  have e : sCl (sH [97, 98, 99]) (sRem [97, 98, 99]) (8 * ([97, 98, 99] : List Nat).length) = aftN iv [97, 98, 99, 128, 0, 0, 0, 0, 0, 0, 0, 0, 0, 0, 0, 0, 0, 0, 0, 0, 0, 0, 0, 0, 0, 0, 0, 0, 0, 0, 0, 0, 0, 0, 0, 0, 0, 0, 0, 0, 0, 0, 0, 0, 0, 0, 0, 0, 0, 0, 0, 0, 0, 0, 0, 0, 0, 0, 0, 0, 0, 0, 0, 24] := by kernel_rfl
  exact (congrArg dgN (e.trans (aft_ev iv_wds _ ev_abc))).trans (by kernel_rfl)
theorem ev_nil : evS iv [128, 0, 0, 0, 0, 0, 0, 0, 0, 0, 0, 0, 0, 0, 0, 0, 0, 0, 0, 0, 0, 0, 0, 0, 0, 0, 0, 0, 0, 0, 0, 0, 0, 0, 0, 0, 0, 0, 0, 0, 0, 0, 0, 0, 0, 0, 0, 0, 0, 0, 0, 0, 0, 0, 0, 0, 0, 0, 0, 0, 0, 0, 0, 0] = [2040978907, 3717492111, 1586299222, 4095722474, 3600805733, 3382061760, 2232532848, 477227836] := by kernel_rfl
theorem sha_nil : shaN [] = [227, 176, 196, 66, 152, 252, 28, 20, 154, 251, 244, 200, 153, 111, 185, 36, 39, 174, 65, 228, 100, 155, 147, 76, 164, 149, 153, 27, 120, 82, 184, 85] := by
  have e : sCl (sH []) (sRem []) (8 * ([] : List Nat).length) = aftN iv [128, 0, 0, 0, 0, 0, 0, 0, 0, 0, 0, 0, 0, 0, 0, 0, 0, 0, 0, 0, 0, 0, 0, 0, 0, 0, 0, 0, 0, 0, 0, 0, 0, 0, 0, 0, 0, 0, 0, 0, 0, 0, 0, 0, 0, 0, 0, 0, 0, 0, 0, 0, 0, 0, 0, 0, 0, 0, 0, 0, 0, 0, 0, 0] := by kernel_rfl
  exact (congrArg dgN (e.trans (aft_ev iv_wds _ ev_nil))).trans (by kernel_rfl)
theorem en_wakes6 : Enters Tryd.prog 7 := fun args w => by simp [go_sem]
set_option maxRecDepth 100000 in
theorem wakes6 (Tg : TypeId) (fg : Nat × Nat) (w0 : World) (hg : w0.heap[0]? = some (.cells (cn .u32 kTab) Tg fg)) :
    Calls Tryd.prog 7 #[] w0 fun e w' => e = .returned (.bool true) ∧ Below w0.heap.size w0 w' := by
  have MM := MemS.start1 hg
  refine enter_fr Tryd.func7 rfl Tryd.ntmps7 (by simp) fun ac (FF : Fr 14 ac []) => ?_
  refine wp_seq (rg_seq FF MM [o_] [0] (fun Kt => Kt [(0, .bool false)] [(0, .cells (cn .u32 kTab) Tg fg)]) (by kernel_rfl) (fun _ => by kernel_rfl) (fun ac1 wd1 FF1 MM1 => then_n ?_))
  refine wp_seq (rg_seq FF1 MM1 [o_, u_ 1 (.agg (cn .u8 (shaN ([97, 98, 99])))), u_ 1 (.agg (cn .u8 (shaN []))), o_, o_, b_ 1, b_ 0] [0, 1, 2] (fun Kt => ∀ bq, CallP Tryd.prog 8 [.slice (some ⟨bq, 0, none⟩) 1 1] [(bq, .cells (#[.string (bs ([97, 98, 99]))] : Array Value) 9), (0, .cells (cn .u32 kTab) Tg fg)] (.agg (cn .u8 (shaN ([97, 98, 99])))) ∧ CallP Tryd.prog 8 [.slice none 0 0] [(bq, .cells (#[.string (bs ([97, 98, 99]))] : Array Value) 9), (0, .cells (cn .u32 kTab) Tg fg)] (.agg (cn .u8 (shaN []))) ∧ ∀ ba, ∀ bb, ba = ba ∧ (cn .u8 (List.replicate 32 0)).size = 32 ∧ (cn .u8 (shaN ([97, 98, 99]))).size = 32 ∧ (cn .u8 (shaN ([97, 98, 99]))).all (·.oneCell') = true ∧ (0, 0).2 = 0 ∧ bb = bb ∧ (cn .u8 (List.replicate 32 0)).size = 32 ∧ (cn .u8 (shaN [])).size = 32 ∧ (cn .u8 (shaN [])).all (·.oneCell') = true ∧ (0, 0).2 = 0 ∧ Kt [(2, .pointer (some ⟨bb, 0, none⟩)), (1, .pointer (some ⟨ba, 0, none⟩)), (0, .bool false)] [(bb, .cells (cn .u8 (shaN [])) 26), (ba, .cells (cn .u8 (shaN ([97, 98, 99]))) 26), (bq, .cells (#[.string (bs ([97, 98, 99]))] : Array Value) 9), (0, .cells (cn .u32 kTab) Tg fg)]) (by kernel_rfl) (fun _ => by kernel_rfl) (fun bq => ⟨⟨en_ssum, fun w Hw => by have h0 := ssum_any Tg fg [[97, 98, 99]] (lt1 (lit_lt rfl)) (by simp) _ 0 1 _ _ _ (fun j h => by have := parts1 [97, 98, 99] j h; rwa [Nat.zero_add]) (by decide) w (Hw 1 _ rfl) (Hw 0 _ rfl); exact h0⟩, ⟨en_ssum, fun w Hw => ssum_empty Tg fg _ _ w (Hw 1 _ rfl)⟩, fun ba => fun bb => ⟨rfl, ((cn_size _ _).trans (List.length_replicate ..)), ((cn_size _ _).trans (shaN_bytes _).len), (cn_one _ _), rfl, rfl, ((cn_size _ _).trans (List.length_replicate ..)), ((cn_size _ _).trans (shaN_bytes _).len), (cn_one _ _), rfl, fun ac2 wd2 FF2 MM2 => then_n ?_⟩⟩))
  refine wp_seq (rg_seq FF2 MM2 [o_, l_ 1 (.string (bs (((shaN ([97, 98, 99])).drop 0).take 4))), w_ 2, o_, o_, l_ 0 (.string (bs (((shaN []).drop 0).take 4))), w_ 2, o_, o_] [2, 1, 0] (fun Kt => 0 ≤ 4 ∧ 4 ≤ 32 ∧ 0 < 32 ∧ ba = ba ∧ StrAt (cn .u8 (shaN ([97, 98, 99]))) 0 4 (bs (((shaN ([97, 98, 99])).drop 0).take 4)) ∧ bs (((shaN ([97, 98, 99])).drop 0).take 4) = bs ([186, 120, 22, 191]) ∧ 0 ≤ 4 ∧ 4 ≤ 32 ∧ 0 < 32 ∧ bb = bb ∧ StrAt (cn .u8 (shaN [])) 0 4 (bs (((shaN []).drop 0).take 4)) ∧ bs (((shaN []).drop 0).take 4) = bs ([227, 176, 196, 66]) ∧ Kt [(0, .bool true), (2, .pointer (some ⟨bb, 0, none⟩)), (1, .pointer (some ⟨ba, 0, none⟩))] [(bb, .cells (cn .u8 (shaN [])) 26), (ba, .cells (cn .u8 (shaN ([97, 98, 99]))) 26), (bq, .cells (#[.string (bs ([97, 98, 99]))] : Array Value) 9), (0, .cells (cn .u32 kTab) Tg fg)]) (by kernel_rfl) (fun _ => by kernel_rfl) (⟨(by decide), (by decide), (by decide), rfl, (str_part (shaN_bytes _).len (shaN_bytes ([97, 98, 99])).lt (by decide)), (congrArg bs (by rw [sha_abc]; rfl)), (by decide), (by decide), (by decide), rfl, (str_part (shaN_bytes _).len (shaN_bytes []).lt (by decide)), (congrArg bs (by rw [sha_nil]; rfl)), fun ac3 wd3 FF3 MM3 => then_n ?_⟩))
  refine wp_ret ?_
  repeat first | refine then_ret ?_ | refine inb_ret ?_
  exact (ret_fr FF3 0 Tryd.results7 rfl ⟨rfl, MM3.below1 3 rfl hg⟩)

end Go.Proofs.YthjbbbjdpoggiaaDoor
