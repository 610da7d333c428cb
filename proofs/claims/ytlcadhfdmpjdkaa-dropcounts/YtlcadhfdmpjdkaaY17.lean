/- The law DropCounts. -/
import Derived.Test.YtlcadhfdmpjdkaaZ3
namespace Go.Proofs.Ytlcadhfdmpjdkaa
open Go.RowKit
theorem fv_three (F : Nat → Value) (m : Nat) : fv (m * 3) F ++ [F (m * 3), F (m * 3 + 1), F (m * 3 + 2)] = fv ((m + 1) * 3) F := by
  have e1 := fv_succ (m * 3) F
  have e2 := fv_succ (m * 3 + 1) F
  have e3 := fv_succ (m * 3 + 2) F
  rw [show (m + 1) * 3 = m * 3 + 2 + 1 by omega, ← e3, ← e2, ← e1]
  simp
theorem MemS.freezeO3 {S : Nat → Prop} {w0 w : World} {R : List Row} {V : Nat → Value} {O : Blks} (K : Blks) {q : Option Addr} {m c : Nat} {e : TypeId} (M : MemS S w0 w (K ++ O) ((.slice q m c, e, 3, m, fv (m * 3) V) :: R)) : ∃ O2 : Blks, MemS S w0 w (K ++ O2) R ∧ RowO O2 q (m * 3) V ∧ ∀ x ∈ O, x ∈ O2 := by
  rcases M.rowForm with ⟨h1, h2⟩ | ⟨g, cap, h1⟩
  · exact ⟨O, M.dropRow, .inl (by omega), fun _ h => h⟩
  · simp only [Value.slice.injEq] at h1
    obtain ⟨rfl, _, rfl⟩ := h1
    obtain ⟨cur, h1, h2, h3, h4, h5, h6, h7⟩ := M.freeze
    refine ⟨(g, .cells cur e) :: O, h1.perm List.perm_middle.symm, .inr ⟨g, 0, cur, e, (0, 0), rfl, by simp, fun j hj => ?_⟩, fun _ h => List.mem_cons_of_mem _ h⟩
    have e9 := congrArg (fun l => l[j]?) h6
    rw [List.getElem?_take, if_pos hj, fv_get _ hj] at e9
    rw [Nat.zero_add, show cur[j]? = cur.toList[j]? by simp, e9]
theorem one3 {m x y : Nat} {p q : Nat} (h1 : nmF p q m = x) (h2 : bxF p q m = y) : (fv (m * 3) (madeV (nmF p q) (bxF p q) (fun _ => []))) ++ [iB x, iB y, sB []] = (fv ((m + 1) * 3) (madeV (nmF p q) (bxF p q) (fun _ => []))) := by
  rw [← fv_three, madeV_0, madeV_1, madeV_2, h1, h2]
theorem two3 {m x y z : Nat} {p q : Nat} (h1 : nmF p q m = x) (h2 : bxF p q m = y) (h3 : nmF p q (m + 1) = x) (h4 : bxF p q (m + 1) = z) : (fv (m * 3) (madeV (nmF p q) (bxF p q) (fun _ => []))) ++ [iB x, iB y, sB [], iB x, iB z, sB []] = (fv ((m + 2) * 3) (madeV (nmF p q) (bxF p q) (fun _ => []))) := by
  rw [← one3 h3 h4, ← one3 h1 h2]
  simp
theorem told_zero {p q : Nat} : (if 0 < p then 0 else if 0 < p + 2 * q then 0 - p else 2 * q) = 0 := by
  repeat' split
  all_goals omega
theorem told_up {p q i : Nat} (h : p ≤ i ∧ i < p + 2 * q) : (if (i + 1) < p then 0 else if (i + 1) < p + 2 * q then (i + 1) - p else 2 * q) = (if i < p then 0 else if i < p + 2 * q then i - p else 2 * q) + 1 := by
  repeat' split
  all_goals omega
theorem told_no {p q i : Nat} (h : ¬ (p ≤ i ∧ i < p + 2 * q)) : (if (i + 1) < p then 0 else if (i + 1) < p + 2 * q then (i + 1) - p else 2 * q) = (if i < p then 0 else if i < p + 2 * q then i - p else 2 * q) := by
  repeat' split
  all_goals omega
theorem told_end {p q m : Nat} (h : p + 2 * q ≤ m) : 2 * q = (if m < p then 0 else if m < p + 2 * q then m - p else 2 * q) := by
  repeat' split
  all_goals omega
theorem told_le {p q i : Nat} : (if i < p then 0 else if i < p + 2 * q then i - p else 2 * q) ≤ i := by
  repeat' split
  all_goals omega
set_option maxHeartbeats 4000000 in
set_option maxRecDepth 100000 in
theorem counts_O (O : Blks) (hD : Distinct O) (a : Nat) (ha : a < 256) (b : Nat) (hb : b < 256) (d : Nat) (hd9 : d < 256) (w0 : World) (H : Has w0 O) :
    Calls Try.prog 6 #[iB a, iB b, iB d] w0 fun e w' => e = .returned (.bool true) ∧ Below w0.heap.size w0 w' := by
  refine enter_fr Try.func6 rfl Try.ntmps6 (by simp) fun ac (FF : Fr 129 ac [(0, iB a), (1, iB b), (2, iB d)]) => ?_
  have MM : MemS (fun k => k < w0.heap.size ∧ ∀ x ∈ O, x.1 ≠ k) w0 w0 O [] := MemS.startN H hD
  obtain ⟨p, hpa⟩ : ∃ p, a % 12 = p := ⟨_, rfl⟩
  obtain ⟨q, hqb⟩ : ∃ q, b % 12 = q := ⟨_, rfl⟩
  obtain ⟨k, hkd⟩ : ∃ k, d % 6 = k := ⟨_, rfl⟩
  have hp : p < 12 := by omega
  have hq : q < 12 := by omega
  have hk : k ≤ 5 := by omega
  have htk := tS_le ⟨k, by omega⟩
  simp only at htk
  refine wp_seq (rg_c FF MM [] 7 [] [] (fun _ _ FF1 MM1 => then_n ?_))
  refine wp_seq (rg_c FF1 MM1 [(1, w_ 1), (0, t_ (iN p)), (1, w_ 1), (0, t_ (iN q)), (1, w_ 1), (0, t_ (iN k))] 9 [9] [0, 1, 2] (⟨(by have := ha; omega), by decide, (vI hpa), (by have := hb; omega), by decide, (vI hqb), (by have := hd9; omega), by decide, (vI hkd), fun _ _ FF2 MM2 => then_n ?_⟩))
  refine wp_seq (rg_c FF2 MM2 [] 11 [] [] (fun _ _ FF3 MM3 => then_n ?_))
  have MMn4 := MM3.rowNil 36 3
  refine wp_seq (rg_c FF3 MMn4 [] 12 [] [] (fun _ _ FF5 MM5 => then_n ?_))
  refine wp_seq ?_
  refine wp_seq (rg_c FF5 MM5 [] 13 [] [] (fun _ _ FF6 MM6 => then_n ?_))
  refine wp_for2 (fun a' w' => ∃ rv : Value, ∃ i : Nat, ∃ m : Nat, i ≤ p ∧ m = i ∧ Fr 129 a' [(12, iN i), (11, iB (i + 1)), (10, rv), (9, iN k), (8, iN q), (7, iN p)] ∧ MemS (fun k => k < w0.heap.size ∧ ∀ x ∈ O, x.1 ≠ k) w0 w' O [(rv, 36, 3, m, (fv (m * 3) (madeV (nmF p q) (bxF p q) (fun _ => []))))]) (fun a' _ => (p - cnt 12 a').toNat) ⟨(.slice none 0 0), 0, 0, Nat.zero_le _, rfl, FF6.pick [0, 1, 2, 3, 4, 5], MM6⟩ ?_
  rintro ac7 wd7 ⟨rv, i, m, hi, hm1, FF7, MM7⟩
  have hc1 := cnt_of (FF7.get 0 rfl)
  refine rg_c FF7 MM7 [] 13 [34] [] (fun _ _ FF8 MM8 => ?_)
  by_cases hlt1 : i < p
  · skip
    refine then_n (.inl ⟨(FF8.ev 0 rfl).trans (dec_t hlt1), ?_⟩)
    have n1 : nmF p q m = i + 1 := (if_pos (by omega)).trans (by omega)
    have n2 : bxF p q m = 1 := if_pos (by omega)
    refine wp_seq (wp_region_list ?_)
    refine rp_c 4 FF8 MM8 [(2, t_ (aG #[iB (i + 1), iB 1, sB []])), (0, s_ 0 (oC #[iB (i + 1), iB 1, sB []] 36))] 38 [40] [34] (⟨(by kernel_rfl), (by kernel_rfl), fun bq => fun _ _ FF9 MM9 => ?_⟩)
    refine st_app [12, 11, 10, 9, 8, 7, 41] FF9 MM9 (d := 41) (s := 37) (x := 40) (Y := [iB (i + 1), iB 1, sB []]) (z := aG #[iB 0, iB 0, sB []]) (bb := 24) rfl rfl rfl rfl (lies_lit (MM9.get 0 rfl)) (by simp [Value.oneCell']) (by decide) Try.underlying22 (by kernel_rfl) rfl (by decide) (by simp only [maxLen]; omega) (by omega) rfl rfl (by decide) fun ac11 wd11 rv10 FF11 MM11 => ?_
    have MMr12 : MemS (fun k => k < w0.heap.size ∧ ∀ x ∈ O, x.1 ≠ k) w0 wd11 ((bq, oC #[iB (i + 1), iB 1, sB []] 36) :: O) [(rv10, 36, 3, (m + 1), (fv ((m + 1) * 3) (madeV (nmF p q) (bxF p q) (fun _ => []))))] := by rw [show (fv ((m + 1) * 3) (madeV (nmF p q) (bxF p q) (fun _ => []))) = ((fv (m * 3) (madeV (nmF p q) (bxF p q) (fun _ => []))) ++ [iB (i + 1), iB 1, sB []]) from (one3 n1 n2).symm]; exact MM11
    refine rp_c 1 FF11 MMr12 [] 13 [] [] (fun _ _ FF13 MM13 => ?_)
    refine wpl_nil (then_n ?_)
    refine rg_c FF13 MM13 [(1, t_ (iB (i + 1 + 1)))] 13 [] [] (⟨(vI (by omega)), fun _ _ FF14 MM14 => ?_⟩)
    refine inb_n (then_n ?_)
    refine rg_c FF14 MM14 [] 13 [] [] (⟨by omega, fun _ _ FF15 MM15 => ?_⟩)
    have hd1 := cnt_of (FF15.get 0 rfl)
    refine then_n ⟨⟨rv10, i + 1, m + 1, by omega, by omega, FF15.pick [0, 1, 2, 3, 4, 5], (MM15.dropAt 0)⟩, ?_⟩
    rw [hc1, hd1]; omega
  · skip
    refine then_n (.inr ⟨(FF8.ev 0 rfl).trans (dec_f hlt1), ?_⟩)
    refine then_n ?_
    refine wp_seq ?_
    refine wp_seq (rg_c FF8 MM8 [] 14 [] [] (fun ac16 _ FF16 MM16 => then_n ?_))
    have FFz17 : Fr 129 ac16 [(13, iN 0), (12, iN i), (11, iB (p + 1 + 0)), (10, rv), (9, iN k), (8, iN q), (7, iN p)] := by rw [show p + 1 + 0 = i + 1 by omega]; exact FF16
    refine wp_for2 (fun a' w' => ∃ rv : Value, ∃ i2 : Nat, ∃ m : Nat, i2 ≤ q ∧ m = p + 2 * i2 ∧ Fr 129 a' [(13, iN i2), (11, iB (p + 1 + i2)), (10, rv), (9, iN k), (8, iN q), (7, iN p)] ∧ MemS (fun k => k < w0.heap.size ∧ ∀ x ∈ O, x.1 ≠ k) w0 w' O [(rv, 36, 3, m, (fv (m * 3) (madeV (nmF p q) (bxF p q) (fun _ => []))))]) (fun a' _ => (q - cnt 13 a').toNat) ⟨rv, 0, m, Nat.zero_le _, by omega, FFz17.pick [0, 2, 3, 4, 5, 6], MM16⟩ ?_
    rintro ac18 wd18 ⟨rv, i2, m, hi2, hm2, FF18, MM18⟩
    have hc2 := cnt_of (FF18.get 0 rfl)
    refine rg_c FF18 MM18 [] 14 [46] [] (fun _ _ FF19 MM19 => ?_)
    by_cases hlt2 : i2 < q
    · skip
      refine then_n (.inl ⟨(FF19.ev 0 rfl).trans (dec_t hlt2), ?_⟩)
      have n1 : nmF p q m = p + 1 + i2 := (if_neg (by omega)).trans ((if_pos (by omega)).trans (by omega))
      have n2 : bxF p q m = 2 := (if_neg (by omega)).trans ((if_pos (by omega)).trans (by omega))
      have n3 : nmF p q (m + 1) = p + 1 + i2 := (if_neg (by omega)).trans ((if_pos (by omega)).trans (by omega))
      have n4 : bxF p q (m + 1) = 3 := (if_neg (by omega)).trans ((if_pos (by omega)).trans (by omega))
      refine wp_seq (wp_region_list ?_)
      refine rp_c 6 FF19 MM19 [(2, t_ (aG #[iB (p + 1 + i2), iB 2, sB []])), (1, t_ (aG #[iB (p + 1 + i2), iB 3, sB []])), (0, s_ 0 (oC #[iB (p + 1 + i2), iB 2, sB [], iB (p + 1 + i2), iB 3, sB []] 36))] 50 [54] [46] (⟨(by kernel_rfl), (by kernel_rfl), (by kernel_rfl), fun bq => fun _ _ FF20 MM20 => ?_⟩)
      refine st_app [13, 11, 10, 9, 8, 7, 55] FF20 MM20 (d := 55) (s := 49) (x := 54) (Y := [iB (p + 1 + i2), iB 2, sB [], iB (p + 1 + i2), iB 3, sB []]) (z := aG #[iB 0, iB 0, sB []]) (bb := 24) rfl rfl rfl rfl (lies_lit (MM20.get 0 rfl)) (by simp [Value.oneCell']) (by decide) Try.underlying22 (by kernel_rfl) rfl (by decide) (by simp only [maxLen]; omega) (by omega) rfl rfl (by decide) fun ac22 wd22 rv21 FF22 MM22 => ?_
      have MMr23 : MemS (fun k => k < w0.heap.size ∧ ∀ x ∈ O, x.1 ≠ k) w0 wd22 ((bq, oC #[iB (p + 1 + i2), iB 2, sB [], iB (p + 1 + i2), iB 3, sB []] 36) :: O) [(rv21, 36, 3, (m + 2), (fv ((m + 2) * 3) (madeV (nmF p q) (bxF p q) (fun _ => []))))] := by rw [show (fv ((m + 2) * 3) (madeV (nmF p q) (bxF p q) (fun _ => []))) = ((fv (m * 3) (madeV (nmF p q) (bxF p q) (fun _ => []))) ++ [iB (p + 1 + i2), iB 2, sB [], iB (p + 1 + i2), iB 3, sB []]) from (two3 n1 n2 n3 n4).symm]; exact MM22
      refine rp_c 1 FF22 MMr23 [] 14 [] [] (fun _ _ FF24 MM24 => ?_)
      refine wpl_nil (then_n ?_)
      refine rg_c FF24 MM24 [(1, t_ (iB (p + 1 + i2 + 1)))] 14 [] [] (⟨(vI (by omega)), fun _ _ FF25 MM25 => ?_⟩)
      refine inb_n (then_n ?_)
      refine rg_c FF25 MM25 [] 14 [] [] (⟨by omega, fun _ _ FF26 MM26 => ?_⟩)
      have hd2 := cnt_of (FF26.get 0 rfl)
      refine then_n ⟨⟨rv21, i2 + 1, m + 2, by omega, by omega, FF26.pick [0, 1, 2, 3, 4, 5], (MM26.dropAt 0)⟩, ?_⟩
      rw [hc2, hd2]; omega
    · skip
      refine then_n (.inr ⟨(FF19.ev 0 rfl).trans (dec_f hlt2), ?_⟩)
      refine then_n ?_
      refine wp_seq ?_
      refine wp_seq (rg_c FF19 MM19 [] 15 [] [] (fun ac27 _ FF27 MM27 => then_n ?_))
      have FFz28 : Fr 129 ac27 [(14, iN 0), (13, iN i2), (11, iB (p + q + 1 + 0)), (10, rv), (9, iN k), (8, iN q), (7, iN p)] := by rw [show p + q + 1 + 0 = p + 1 + i2 by omega]; exact FF27
      refine wp_for2 (fun a' w' => ∃ rv : Value, ∃ i3 : Nat, ∃ m : Nat, i3 ≤ k ∧ m = p + 2 * q + tS i3 ∧ Fr 129 a' [(14, iN i3), (11, iB (p + q + 1 + i3)), (10, rv), (9, iN k), (8, iN q), (7, iN p)] ∧ MemS (fun k => k < w0.heap.size ∧ ∀ x ∈ O, x.1 ≠ k) w0 w' O [(rv, 36, 3, m, (fv (m * 3) (madeV (nmF p q) (bxF p q) (fun _ => []))))]) (fun a' _ => (k - cnt 14 a').toNat) ⟨rv, 0, m, Nat.zero_le _, (by simp only [tS]; omega), FFz28.pick [0, 2, 3, 4, 5, 6], MM27⟩ ?_
      rintro ac29 wd29 ⟨rv, i3, m, hi3, hm3, FF29, MM29⟩
      have hc3 := cnt_of (FF29.get 0 rfl)
      refine rg_c FF29 MM29 [] 15 [60] [] (fun _ wd30 FF30 MM30 => ?_)
      by_cases hlt3 : i3 < k
      · skip
        refine then_n (.inl ⟨(FF30.ev 0 rfl).trans (dec_t hlt3), ?_⟩)
        refine wp_seq ?_
        have ht3 := tS_le ⟨i3 + 1, by omega⟩
        simp only [tS] at ht3
        refine wp_seq (rg_c FF30 MM30 [] 16 [] [] (fun _ _ FF31 MM31 => then_n ?_))
        refine wp_for2 (fun a' w' => ∃ rv : Value, ∃ j : Nat, ∃ m : Nat, j ≤ 3 + i3 ∧ m = p + 2 * q + tS i3 + j ∧ Fr 129 a' [(15, iN j), (14, iN i3), (11, iB (p + q + 1 + i3)), (10, rv), (9, iN k), (8, iN q), (7, iN p)] ∧ MemS (fun k => k < w0.heap.size ∧ ∀ x ∈ O, x.1 ≠ k) w0 w' O [(rv, 36, 3, m, (fv (m * 3) (madeV (nmF p q) (bxF p q) (fun _ => []))))]) (fun a' _ => (3 + i3 - cnt 15 a').toNat) ⟨rv, 0, m, Nat.zero_le _, by omega, FF31.pick [0, 1, 2, 3, 4, 5, 6], MM31⟩ ?_
        rintro ac32 wd32 ⟨rv, j, m, hj, hm4, FF32, MM32⟩
        have hc4 := cnt_of (FF32.get 0 rfl)
        refine rg_c FF32 MM32 [] 16 [66] [] (⟨by omega, fun _ _ FF33 MM33 => ?_⟩)
        by_cases hlt4 : j < (3 + i3)
        · skip
          refine then_n (.inl ⟨(FF33.ev 0 rfl).trans (dec_t hlt4), ?_⟩)
          have hbk : blk (m - (p + 2 * q)) = i3 := (blk_iff (by omega) (by omega)).2 ⟨by omega, by omega⟩
          have n1 : nmF p q m = p + q + 1 + i3 := (if_neg (by omega)).trans ((if_neg (by omega)).trans (by rw [hbk]))
          have n2 : bxF p q m = 4 := (if_neg (by omega)).trans (if_neg (by omega))
          refine wp_region_list ?_
          refine rp_c 4 FF33 MM33 [(2, t_ (aG #[iB (p + q + 1 + i3), iB 4, sB []])), (0, s_ 0 (oC #[iB (p + q + 1 + i3), iB 4, sB []] 36))] 70 [72] [66] (⟨(by kernel_rfl), (by kernel_rfl), fun bq => fun _ _ FF34 MM34 => ?_⟩)
          refine st_app [15, 14, 11, 10, 9, 8, 7, 73] FF34 MM34 (d := 73) (s := 69) (x := 72) (Y := [iB (p + q + 1 + i3), iB 4, sB []]) (z := aG #[iB 0, iB 0, sB []]) (bb := 24) rfl rfl rfl rfl (lies_lit (MM34.get 0 rfl)) (by simp [Value.oneCell']) (by decide) Try.underlying22 (by kernel_rfl) rfl (by decide) (by simp only [maxLen]; omega) (by omega) rfl rfl (by decide) fun ac36 wd36 rv35 FF36 MM36 => ?_
          have MMr37 : MemS (fun k => k < w0.heap.size ∧ ∀ x ∈ O, x.1 ≠ k) w0 wd36 ((bq, oC #[iB (p + q + 1 + i3), iB 4, sB []] 36) :: O) [(rv35, 36, 3, (m + 1), (fv ((m + 1) * 3) (madeV (nmF p q) (bxF p q) (fun _ => []))))] := by rw [show (fv ((m + 1) * 3) (madeV (nmF p q) (bxF p q) (fun _ => []))) = ((fv (m * 3) (madeV (nmF p q) (bxF p q) (fun _ => []))) ++ [iB (p + q + 1 + i3), iB 4, sB []]) from (one3 n1 n2).symm]; exact MM36
          refine rp_c 1 FF36 MMr37 [] 16 [] [] (fun _ _ FF38 MM38 => ?_)
          refine wpl_nil ?_
          refine inb_n (then_n ?_)
          refine rg_c FF38 MM38 [] 16 [] [] (⟨by omega, fun _ _ FF39 MM39 => ?_⟩)
          have hd4 := cnt_of (FF39.get 0 rfl)
          refine then_n ⟨⟨rv35, j + 1, m + 1, by omega, by omega, FF39.pick [0, 2, 3, 1, 4, 5, 6], (MM39.dropAt 0)⟩, ?_⟩
          rw [hc4, hd4]; omega
        · skip
          refine then_n (.inr ⟨(FF33.ev 0 rfl).trans (dec_f hlt4), ?_⟩)
          have hts : tS (i3 + 1) = tS i3 + (3 + i3) := rfl
          refine then_n ?_
          refine rg_c FF33 MM33 [(1, t_ (iB (p + q + 1 + i3 + 1)))] 16 [] [] (⟨(vI (by omega)), fun _ _ FF40 MM40 => ?_⟩)
          refine inb_n (then_n ?_)
          refine rg_c FF40 MM40 [] 16 [] [] (⟨by omega, fun _ _ FF41 MM41 => ?_⟩)
          have hd3 := cnt_of (FF41.get 0 rfl)
          refine then_n ⟨⟨rv, i3 + 1, m, by omega, by omega, FF41.pick [0, 1, 3, 4, 5, 6], MM41⟩, ?_⟩
          rw [hc3, hd3]; omega
      · skip
        refine then_n (.inr ⟨(FF30.ev 0 rfl).trans (dec_f hlt3), ?_⟩)
        obtain rfl : k = i3 := by omega
        obtain ⟨rp, rc, rfl, _⟩ := MM30.rowLen
        obtain ⟨O42, MM430, hR44, hs45⟩ := MemS.freezeO3 (K := []) (O := O) MM30
        have MM43 : MemS (fun k => k < w0.heap.size ∧ ∀ x ∈ O, x.1 ≠ k) w0 wd30 O42 [] := MM430
        obtain ⟨s, hsd⟩ : ∃ s, s = sC p q := ⟨_, rfl⟩
        have hs : ∀ i, i < m → ∀ j, (s i).getD j 0 < 256 := fun i _ => hsd ▸ sC_lt hp hq i
        have hm58 : m ≤ 58 := by omega
        have hall := sC_all (p := p) (q := q) hk
        rw [← hsd, ← hm3] at hall
        refine then_n ?_
        refine wp_seq (wp_region_list ?_)
        refine rp_c 1 FF30 MM43 [] 15 [76] [] (fun _ wd46 FF46 MM46 => ?_)
        refine st_callE [14, 11, 10, 9, 8, 7, 77] FF46 (d := 77) (mk := fun v => .slice (pOf v) m (cOf v)) en_req rfl rfl (by have h0 := req_w rp m rc (nmF p q) (bxF p q) (fun _ => []) (nmF_lt hp hq) (bxF_lt p q) (fun _ _ => (by simp)) (by omega) wd46 (hR44.at MM46.hasL); rw [show reqM (nmF p q) (bxF p q) (fun _ => []) = s from hsd.symm] at h0; exact h0) rfl (by kernel_rfl) (by decide) fun ac49 wd49 lv48 FF49 hr50 => ?_
        obtain ⟨O51, MM520, hR53, hs54⟩ := MemS.addRow (K := []) (O := O42) MM46 hr50.1 hr50.2
        have MM52 : MemS (fun k => k < w0.heap.size ∧ ∀ x ∈ O, x.1 ≠ k) w0 wd49 O51 [] := MM520
        have hk55 := hR44.mono hs54
        have hz56 : ∀ x ∈ O, x ∈ O51 := fun x hx => hs54 x (hs45 x hx)
        refine rp_c 1 FF49 MM52 [] 17 [] [] (fun _ _ FF57 MM57 => ?_)
        refine wpl_nil (then_n ?_)
        refine wp_seq (rg_c FF57 MM57 [(1, u_ 1 (.tuple #[iN p, iN q, iN k]))] 20 [] [] (⟨⟨en_dc, fun w Hw => by have h0 := dc_w (pOf lv48) m (cOf lv48) s (by omega) hs w (hR53.at Hw); rw [hall.1, hall.2.1, hall.2.2] at h0; exact h0⟩, fun _ _ FF58 MM58 => then_n ?_⟩))
        refine wp_seq (wp_region_list ?_)
        refine rp_c 1 FF58 MM58 [] 85 [] [] (fun _ _ FF59 MM59 => ?_)
        refine st_callE [19, 18, 17, 16, 14, 11, 10, 9, 8, 7, 85] FF59 (d := 85) (mk := fun v => .slice (pOf v) m (cOf v)) en_dm rfl rfl (dm_w (pOf lv48) m (cOf lv48) s (by omega) hs _ (hR53.at MM59.hasL)) rfl (by kernel_rfl) (by decide) fun ac62 wd62 lv61 FF62 hr63 => ?_
        obtain ⟨O64, MM650, hR66, hs67⟩ := MemS.addRow (K := []) (O := O51) MM59 hr63.1 hr63.2
        have MM65 : MemS (fun k => k < w0.heap.size ∧ ∀ x ∈ O, x.1 ≠ k) w0 wd62 O64 [] := MM650
        have hk68 := hk55.mono hs67
        have hk69 := hR53.mono hs67
        have hz70 : ∀ x ∈ O, x ∈ O64 := fun x hx => hs67 x (hz56 x hx)
        refine rp_c 1 FF62 MM65 [] 21 [] [] (fun _ _ FF71 MM71 => ?_)
        refine wpl_nil (then_n ?_)
        refine wp_seq (rg_c FF71 MM71 [] 22 [] [] (fun _ _ FF72 MM72 => then_n ?_))
        refine wp_seq ?_
        refine wp_seq (rg_c FF72 MM72 [] 23 [] [] (fun ac73 _ FF73 MM73 => then_n ?_))
        have FFz74 : Fr 129 ac73 [(22, iN 0), (21, iN (if 0 < p then 0 else if 0 < p + 2 * q then 0 - p else 2 * q)), (20, .slice (pOf lv61) m (cOf lv61)), (19, iN k), (18, iN q), (17, iN p), (16, .slice (pOf lv48) m (cOf lv48)), (14, iN k), (11, iB (p + q + 1 + k)), (10, .slice rp m rc), (9, iN k), (8, iN q), (7, iN p)] := by rw [show (if 0 < p then 0 else if 0 < p + 2 * q then 0 - p else 2 * q) = 0 from told_zero]; exact FF73
        refine wp_for2 (fun a' w' => ∃ i : Nat, i ≤ m ∧ Fr 129 a' [(22, iN i), (21, iN (if i < p then 0 else if i < p + 2 * q then i - p else 2 * q)), (20, .slice (pOf lv61) m (cOf lv61)), (19, iN k), (18, iN q), (17, iN p), (16, .slice (pOf lv48) m (cOf lv48)), (9, iN k), (8, iN q), (7, iN p)] ∧ MemS (fun k => k < w0.heap.size ∧ ∀ x ∈ O, x.1 ≠ k) w0 w' O64 []) (fun a' _ => (m - cnt 22 a').toNat) ⟨0, Nat.zero_le _, FFz74.pick [0, 1, 2, 3, 4, 5, 6, 10, 11, 12], MM73⟩ ?_
        rintro ac75 wd75 ⟨i, hi, FF75, MM75⟩
        have hc5 := cnt_of (FF75.get 0 rfl)
        refine rg_c FF75 MM75 [] 23 [89] [] (fun ac76 _ FF76 MM76 => ?_)
        by_cases hlt5 : i < m
        · skip
          refine then_n (.inl ⟨(FF76.ev 0 rfl).trans (dec_t hlt5), ?_⟩)
          by_cases hz : p ≤ i ∧ i < p + 2 * q
          · skip
            have hzt : mAt s m i ≠ List.replicate 36 0 := by rw [hsd, hm3]; exact sC_told hk (by omega) hz
            refine wp_seq (rg_dc 6 FF76 MM76 [(2, f_ (.pointer (some ⟨gOf (pOf lv61), oOf (pOf lv61) + i, none⟩))), (0, f_ (sB (mAt s m i))), (0, t_ (sB (List.replicate 36 0))), (0, w_ 2)] [] 23 [97] [] (⟨(rowX_addr (x := (.tmp 92)) (y := (.tmp 93)) (k := 1) (i := i) (by kernel_rfl) rfl rfl Try.underlying25 (by kernel_rfl) hR66 (by omega) (by omega)), (rowX_load (x := (.tmp 94)) (j := i) (by kernel_rfl) rfl Try.underlying9 rfl hR66 (fun _ hx => hx) (by omega) rfl), (callP_of en_lbox (lbox_any 0 (by decide)) _), (fun h => hzt (bs_inj (mAt_lt hs i) (repb_lt (by decide)) h)), fun _ _ FF77 MM77 => then_n ?_⟩))
            refine wp_cond_true (FF77.ev 0 rfl) ?_
            have htl := told_le (p := p) (q := q) (i := i)
            refine rg_c FF77 MM77 [] 23 [] [] (⟨by omega, fun _ _ FF78 MM78 => ?_⟩)
            refine inb_n (then_n ?_)
            refine rg_c FF78 MM78 [] 23 [] [] (⟨by omega, fun ac79 _ FF79 MM79 => ?_⟩)
            have hd5 := cnt_of (FF79.get 0 rfl)
            have FFz80 : Fr 129 ac79 [(22, iN (i + 1)), (21, iN (if (i + 1) < p then 0 else if (i + 1) < p + 2 * q then (i + 1) - p else 2 * q)), (20, .slice (pOf lv61) m (cOf lv61)), (19, iN k), (18, iN q), (17, iN p), (16, .slice (pOf lv48) m (cOf lv48)), (9, iN k), (8, iN q), (7, iN p)] := by rw [told_up hz]; exact FF79
            refine then_n ⟨⟨i + 1, by omega, FFz80.pick [0, 1, 2, 3, 4, 5, 6, 7, 8, 9], MM79⟩, ?_⟩
            rw [hc5, hd5]; omega
          · skip
            have hzt : mAt s m i = List.replicate 36 0 := by rw [hsd, hm3]; exact sC_none hk (by omega) hz
            refine wp_seq (rg_dc 6 FF76 MM76 [(2, f_ (.pointer (some ⟨gOf (pOf lv61), oOf (pOf lv61) + i, none⟩))), (0, f_ (sB (mAt s m i))), (0, t_ (sB (List.replicate 36 0))), (0, w_ 3)] [] 23 [97] [] (⟨(rowX_addr (x := (.tmp 92)) (y := (.tmp 93)) (k := 1) (i := i) (by kernel_rfl) rfl rfl Try.underlying25 (by kernel_rfl) hR66 (by omega) (by omega)), (rowX_load (x := (.tmp 94)) (j := i) (by kernel_rfl) rfl Try.underlying9 rfl hR66 (fun _ hx => hx) (by omega) rfl), (callP_of en_lbox (lbox_any 0 (by decide)) _), (fun h => h (congrArg bs hzt)), fun _ _ FF81 MM81 => then_n ?_⟩))
            refine wp_cond_false (FF81.ev 0 rfl) ?_
            refine wp_skip ?_
            refine inb_n (then_n ?_)
            refine rg_c FF81 MM81 [] 23 [] [] (⟨by omega, fun ac82 _ FF82 MM82 => ?_⟩)
            have hd5 := cnt_of (FF82.get 0 rfl)
            have FFz83 : Fr 129 ac82 [(22, iN (i + 1)), (21, iN (if (i + 1) < p then 0 else if (i + 1) < p + 2 * q then (i + 1) - p else 2 * q)), (20, .slice (pOf lv61) m (cOf lv61)), (19, iN k), (18, iN q), (17, iN p), (16, .slice (pOf lv48) m (cOf lv48)), (9, iN k), (8, iN q), (7, iN p)] := by rw [told_no hz]; exact FF82
            refine then_n ⟨⟨i + 1, by omega, FFz83.pick [0, 1, 2, 3, 4, 5, 6, 7, 8, 9], MM82⟩, ?_⟩
            rw [hc5, hd5]; omega
        · skip
          refine then_n (.inr ⟨(FF76.ev 0 rfl).trans (dec_f hlt5), ?_⟩)
          obtain rfl : m = i := by omega
          have FFz84 : Fr 129 ac76 [(89, .bool (decide (m < m))), (22, iN m), (21, iN (2 * q)), (20, .slice (pOf lv61) m (cOf lv61)), (19, iN k), (18, iN q), (17, iN p), (16, .slice (pOf lv48) m (cOf lv48)), (9, iN k), (8, iN q), (7, iN p)] := by rw [show 2 * q = (if m < p then 0 else if m < p + 2 * q then m - p else 2 * q) from told_end (by omega)]; exact FF76
          refine then_n ?_
          refine wp_seq (rg_c FFz84 MM76 [(2, w_ 2), (3, w_ 2), (4, w_ 2), (5, w_ 2), (6, w_ 2), (2, t_ (.bool true))] 17 [22, 21, 20] [] (⟨rfl, rfl, rfl, by omega, rfl, rfl, (callP_of en_wakes wakes_w _), fun _ _ FF85 MM85 => then_n ?_⟩))
          refine wp_ret ?_
          repeat first | refine then_ret ?_ | refine inb_ret ?_
          exact (ret_fr FF85 0 Try.results6 rfl ⟨rfl, MM85.belowN H (fun _ hx => hz70 _ hx)⟩)
end Go.Proofs.Ytlcadhfdmpjdkaa
