/- Several texts in one: The document's Match. The document's Count. The law DropTells. Rows that come in: of requests. -/
import Derived.Test.YtlcadhfdmpjdkaaZ3
import Derived.Test.YtlcadhfdmpjdkaaZ2
import Derived.ChangeMaps5
import Derived.SizedLaws
import Derived.SliceStrings
namespace Go.Proofs.Ytlcadhfdmpjdkaa
open Go.RowKit
theorem bs_to (X : List Nat) (j : Nat) : (bs X).extract 0 j = bs (X.take j) := (bs_extract X 0 j).trans (by rw [List.drop_zero])
theorem ahead_lt {s : Nat → List Nat} {i j : Nat} (h : j < i) (hh : SM s i j) : cntS s i (min (j + 1) i) = cntS s i (min j i) + 1 := by
  rw [Nat.min_eq_left h, Nat.min_eq_left (Nat.le_of_lt h), cntS, if_pos hh]
theorem ahead_no {s : Nat → List Nat} {i j : Nat} (h : ¬ (SM s i j ∧ j < i)) : cntS s i (min (j + 1) i) = cntS s i (min j i) := by
  rcases Nat.lt_or_ge j i with h1 | h1
  · rw [Nat.min_eq_left h1, Nat.min_eq_left (Nat.le_of_lt h1), cntS, if_neg fun q => h ⟨q, h1⟩, Nat.add_zero]
  · rw [Nat.min_eq_right h1, Nat.min_eq_right (by omega)]
set_option maxHeartbeats 1000000 in
set_option maxRecDepth 100000 in
theorem rm_O (O : Blks) (hD : Distinct O) (p : Option Addr) (n c : Nat) (s : Nat → List Nat) (hn : n ≤ 1000000) (hs : ∀ i, i < n → ∀ j, (s i).getD j 0 < 256) (hF : RowO O p n (fun k9 => sB (s k9))) (w0 : World) (H : Has w0 O) :
    Calls Try.prog 14 #[.slice p n c] w0 fun e w' => ∃ v, e = .returned (.slice (pOf v) n (cOf v)) ∧ Below w0.heap.size w0 w' ∧ RowNew w0.heap.size w' (pOf v) n (fun k9 => sB (mAt s n k9)) := by
  refine enter_fr Try.func14 rfl Try.ntmps14 (by simp) fun ac (FF : Fr 67 ac [(0, .slice p n c)]) => ?_
  have MM : MemS (fun k => k < w0.heap.size ∧ ∀ x ∈ O, x.1 ≠ k) w0 w0 O [] := MemS.startN H hD
  refine wp_seq (rg_c FF MM [] 3 [] [] (fun _ _ FF1 MM1 => then_n ?_))
  refine wp_seq (rg_c FF1 MM1 [] 4 [] [] (fun _ _ FF2 MM2 => then_n ?_))
  have MMn3 := MM2.rowNil 9 1
  refine wp_seq ?_
  refine wp_seq (rg_c FF2 MMn3 [] 5 [] [] (fun _ _ FF4 MM4 => then_n ?_))
  refine wp_for2 (fun a' w' => ∃ rv : Value, ∃ i : Nat, i ≤ n ∧ Fr 67 a' [(4, iN i), (3, rv), (0, .slice p n c)] ∧ MemS (fun k => k < w0.heap.size ∧ ∀ x ∈ O, x.1 ≠ k) w0 w' O [(rv, 9, 1, i, (fv i (fun k9 => sB (mAt s n k9))))]) (fun a' _ => (n - cnt 4 a').toNat) ⟨(.slice none 0 0), 0, Nat.zero_le _, FF4.pick [0, 1, 3], MM4⟩ ?_
  rintro ac5 wd5 ⟨rv, i, hi, FF5, MM5⟩
  have hc := cnt_of (FF5.get 0 rfl)
  refine rg_c FF5 MM5 [] 5 [11] [] (fun _ _ FF6 MM6 => ?_)
  by_cases hlt : i < n
  · skip
    refine then_n (.inl ⟨(FF6.ev 0 rfl).trans (dec_t hlt), ?_⟩)
    have hin : i < n := hlt
    refine wp_seq (rg_c FF6 MM6 [] 6 [] [] (fun _ _ FF7 MM7 => then_n ?_))
    refine wp_seq (rg_c FF7 MM7 [(0, t_ (sB []))] 7 [] [] (⟨(by kernel_rfl), fun _ _ FF8 MM8 => then_n ?_⟩))
    refine wp_seq ?_
    refine wp_seq (rg_c FF8 MM8 [] 8 [] [] (fun _ _ FF9 MM9 => then_n ?_))
    refine wp_for2 (fun a' w' => ∃ j : Nat, j ≤ n ∧ Fr 67 a' [(7, iN j), (6, sB (oB s i j)), (5, iN (oN s i j)), (4, iN i), (3, rv), (0, .slice p n c)] ∧ MemS (fun k => k < w0.heap.size ∧ ∀ x ∈ O, x.1 ≠ k) w0 w' O [(rv, 9, 1, i, (fv i (fun k9 => sB (mAt s n k9))))]) (fun a' _ => (n - cnt 7 a').toNat) ⟨0, Nat.zero_le _, FF9.pick [0, 1, 2, 3, 4, 5], MM9⟩ ?_
    rintro ac10 wd10 ⟨j, hj, FF10, MM10⟩
    have hcj := cnt_of (FF10.get 0 rfl)
    refine rg_c FF10 MM10 [] 8 [17] [] (fun _ _ FF11 MM11 => ?_)
    by_cases hlj2 : j < n
    · skip
      refine then_n (.inl ⟨(FF11.ev 0 rfl).trans (dec_t hlj2), ?_⟩)
      by_cases b1 : j = i
      · skip
        have hno : ¬ (j ≠ i ∧ SM s i j) := fun q => q.1 b1
        refine wp_seq (rg_dc 32 FF11 MM11 [(2, w_ 3)] [] 8 [51] [] (⟨(fun h => h b1), fun _ _ FF12 MM12 => then_n ?_⟩))
        refine wp_cond_false (FF12.ev 0 rfl) ?_
        refine wp_skip ?_
        refine inb_n (then_n ?_)
        refine rg_c FF12 MM12 [] 8 [] [] (⟨by omega, fun ac13 _ FF13 MM13 => ?_⟩)
        have hdj := cnt_of (FF13.get 0 rfl)
        have FFz14 : Fr 67 ac13 [(7, iN (j + 1)), (6, sB (oB s i (j + 1))), (5, iN (oN s i (j + 1))), (4, iN i), (3, rv), (0, .slice p n c)] := by rw [show oN s i (j + 1) = oN s i j from by rw [oN, if_neg hno, Nat.add_zero], show oB s i (j + 1) = oB s i j from if_neg hno]; exact FF13
        refine then_n ⟨⟨j + 1, by omega, FFz14.pick [0, 1, 2, 3, 4, 5], MM13⟩, ?_⟩
        rw [hcj, hdj]; omega
      by_cases b2 : (s i).length ≠ 52
      · skip
        have hno : ¬ (j ≠ i ∧ SM s i j) := fun q => b2 q.2.1
        refine wp_seq (rg_dc 32 FF11 MM11 [(2, w_ 2), (3, f_ (.pointer (some ⟨gOf p, oOf p + i, none⟩))), (0, f_ (sB (s i))), (0, t_ (iN ((s i).length))), (0, w_ 3)] [] 8 [51] [] (⟨b1, (rowX_addr (x := (.tmp 24)) (y := (.tmp 25)) (k := 1) (i := i) (by kernel_rfl) rfl rfl Try.underlying25 (by kernel_rfl) hF (by omega) (by omega)), (rowX_load (x := (.tmp 26)) (j := i) (by kernel_rfl) rfl Try.underlying9 rfl hF (fun _ hx => hx) (by omega) rfl), (vI (bs_size _)), b2, fun _ _ FF15 MM15 => then_n ?_⟩))
        refine wp_cond_false (FF15.ev 0 rfl) ?_
        refine wp_skip ?_
        refine inb_n (then_n ?_)
        refine rg_c FF15 MM15 [] 8 [] [] (⟨by omega, fun ac16 _ FF16 MM16 => ?_⟩)
        have hdj := cnt_of (FF16.get 0 rfl)
        have FFz17 : Fr 67 ac16 [(7, iN (j + 1)), (6, sB (oB s i (j + 1))), (5, iN (oN s i (j + 1))), (4, iN i), (3, rv), (0, .slice p n c)] := by rw [show oN s i (j + 1) = oN s i j from by rw [oN, if_neg hno, Nat.add_zero], show oB s i (j + 1) = oB s i j from if_neg hno]; exact FF16
        refine then_n ⟨⟨j + 1, by omega, FFz17.pick [0, 1, 2, 3, 4, 5], MM16⟩, ?_⟩
        rw [hcj, hdj]; omega
      by_cases b3 : (s j).length ≠ 52
      · skip
        have hno : ¬ (j ≠ i ∧ SM s i j) := fun q => b3 q.2.2.1
        refine wp_seq (rg_dc 32 FF11 MM11 [(2, w_ 2), (3, f_ (.pointer (some ⟨gOf p, oOf p + i, none⟩))), (0, f_ (sB (s i))), (0, t_ (iN ((s i).length))), (0, w_ 2), (4, f_ (.pointer (some ⟨gOf p, oOf p + j, none⟩))), (0, f_ (sB (s j))), (0, t_ (iN ((s j).length))), (0, w_ 3)] [] 8 [51] [] (⟨b1, (rowX_addr (x := (.tmp 24)) (y := (.tmp 25)) (k := 1) (i := i) (by kernel_rfl) rfl rfl Try.underlying25 (by kernel_rfl) hF (by omega) (by omega)), (rowX_load (x := (.tmp 26)) (j := i) (by kernel_rfl) rfl Try.underlying9 rfl hF (fun _ hx => hx) (by omega) rfl), (vI (bs_size _)), (Decidable.of_not_not b2), (rowX_addr (x := (.tmp 32)) (y := (.tmp 33)) (k := 1) (i := j) (by kernel_rfl) rfl rfl Try.underlying25 (by kernel_rfl) hF (by omega) (by omega)), (rowX_load (x := (.tmp 34)) (j := j) (by kernel_rfl) rfl Try.underlying9 rfl hF (fun _ hx => hx) (by omega) rfl), (vI (bs_size _)), b3, fun _ _ FF18 MM18 => then_n ?_⟩))
        refine wp_cond_false (FF18.ev 0 rfl) ?_
        refine wp_skip ?_
        refine inb_n (then_n ?_)
        refine rg_c FF18 MM18 [] 8 [] [] (⟨by omega, fun ac19 _ FF19 MM19 => ?_⟩)
        have hdj := cnt_of (FF19.get 0 rfl)
        have FFz20 : Fr 67 ac19 [(7, iN (j + 1)), (6, sB (oB s i (j + 1))), (5, iN (oN s i (j + 1))), (4, iN i), (3, rv), (0, .slice p n c)] := by rw [show oN s i (j + 1) = oN s i j from by rw [oN, if_neg hno, Nat.add_zero], show oB s i (j + 1) = oB s i j from if_neg hno]; exact FF19
        refine then_n ⟨⟨j + 1, by omega, FFz20.pick [0, 1, 2, 3, 4, 5], MM19⟩, ?_⟩
        rw [hcj, hdj]; omega
      by_cases b4 : (s i).take 16 ≠ (s j).take 16
      · skip
        have hli : (s i).length = 52 := Decidable.of_not_not b2
        have hlj : (s j).length = 52 := Decidable.of_not_not b3
        have hno : ¬ (j ≠ i ∧ SM s i j) := fun q => b4 q.2.2.2
        refine wp_seq (rg_dc 32 FF11 MM11 [(2, w_ 2), (3, f_ (.pointer (some ⟨gOf p, oOf p + i, none⟩))), (0, f_ (sB (s i))), (0, t_ (iN ((s i).length))), (0, w_ 2), (4, f_ (.pointer (some ⟨gOf p, oOf p + j, none⟩))), (0, f_ (sB (s j))), (0, t_ (iN ((s j).length))), (0, w_ 2), (4, f_ (.pointer (some ⟨gOf p, oOf p + i, none⟩))), (0, f_ (sB (s i))), (0, t_ (sB ((s i).take 16))), (2, f_ (.pointer (some ⟨gOf p, oOf p + j, none⟩))), (0, f_ (sB (s j))), (0, t_ (sB ((s j).take 16))), (0, w_ 3)] [] 8 [51] [] (⟨b1, (rowX_addr (x := (.tmp 24)) (y := (.tmp 25)) (k := 1) (i := i) (by kernel_rfl) rfl rfl Try.underlying25 (by kernel_rfl) hF (by omega) (by omega)), (rowX_load (x := (.tmp 26)) (j := i) (by kernel_rfl) rfl Try.underlying9 rfl hF (fun _ hx => hx) (by omega) rfl), (vI (bs_size _)), (Decidable.of_not_not b2), (rowX_addr (x := (.tmp 32)) (y := (.tmp 33)) (k := 1) (i := j) (by kernel_rfl) rfl rfl Try.underlying25 (by kernel_rfl) hF (by omega) (by omega)), (rowX_load (x := (.tmp 34)) (j := j) (by kernel_rfl) rfl Try.underlying9 rfl hF (fun _ hx => hx) (by omega) rfl), (vI (bs_size _)), (Decidable.of_not_not b3), (rowX_addr (x := (.tmp 40)) (y := (.tmp 41)) (k := 1) (i := i) (by kernel_rfl) rfl rfl Try.underlying25 (by kernel_rfl) hF (by omega) (by omega)), (rowX_load (x := (.tmp 42)) (j := i) (by kernel_rfl) rfl Try.underlying9 rfl hF (fun _ hx => hx) (by omega) rfl), (Nat.zero_le _), (by simp only [bs_size]; omega), (vS2 (bs_to _ _)), (rowX_addr (x := (.tmp 45)) (y := (.tmp 46)) (k := 1) (i := j) (by kernel_rfl) rfl rfl Try.underlying25 (by kernel_rfl) hF (by omega) (by omega)), (rowX_load (x := (.tmp 47)) (j := j) (by kernel_rfl) rfl Try.underlying9 rfl hF (fun _ hx => hx) (by omega) rfl), (Nat.zero_le _), (by simp only [bs_size]; omega), (vS2 (bs_to _ _)), (fun h => b4 (bs_inj (take_lt (hs i hin)) (take_lt (hs j hlj2)) h)), fun _ _ FF21 MM21 => then_n ?_⟩))
        refine wp_cond_false (FF21.ev 0 rfl) ?_
        refine wp_skip ?_
        refine inb_n (then_n ?_)
        refine rg_c FF21 MM21 [] 8 [] [] (⟨by omega, fun ac22 _ FF22 MM22 => ?_⟩)
        have hdj := cnt_of (FF22.get 0 rfl)
        have FFz23 : Fr 67 ac22 [(7, iN (j + 1)), (6, sB (oB s i (j + 1))), (5, iN (oN s i (j + 1))), (4, iN i), (3, rv), (0, .slice p n c)] := by rw [show oN s i (j + 1) = oN s i j from by rw [oN, if_neg hno, Nat.add_zero], show oB s i (j + 1) = oB s i j from if_neg hno]; exact FF22
        refine then_n ⟨⟨j + 1, by omega, FFz23.pick [0, 1, 2, 3, 4, 5], MM22⟩, ?_⟩
        rw [hcj, hdj]; omega
      · skip
        have hlj : (s j).length = 52 := Decidable.of_not_not b3
        have hli : (s i).length = 52 := Decidable.of_not_not b2
        have hh : SM s i j := ⟨hli, hlj, Decidable.of_not_not b4⟩
        refine wp_seq (rg_dc 32 FF11 MM11 [(2, w_ 2), (3, f_ (.pointer (some ⟨gOf p, oOf p + i, none⟩))), (0, f_ (sB (s i))), (0, t_ (iN ((s i).length))), (0, w_ 2), (4, f_ (.pointer (some ⟨gOf p, oOf p + j, none⟩))), (0, f_ (sB (s j))), (0, t_ (iN ((s j).length))), (0, w_ 2), (4, f_ (.pointer (some ⟨gOf p, oOf p + i, none⟩))), (0, f_ (sB (s i))), (0, t_ (sB ((s i).take 16))), (2, f_ (.pointer (some ⟨gOf p, oOf p + j, none⟩))), (0, f_ (sB (s j))), (0, t_ (sB ((s j).take 16))), (0, w_ 2)] [] 8 [51] [] (⟨b1, (rowX_addr (x := (.tmp 24)) (y := (.tmp 25)) (k := 1) (i := i) (by kernel_rfl) rfl rfl Try.underlying25 (by kernel_rfl) hF (by omega) (by omega)), (rowX_load (x := (.tmp 26)) (j := i) (by kernel_rfl) rfl Try.underlying9 rfl hF (fun _ hx => hx) (by omega) rfl), (vI (bs_size _)), (Decidable.of_not_not b2), (rowX_addr (x := (.tmp 32)) (y := (.tmp 33)) (k := 1) (i := j) (by kernel_rfl) rfl rfl Try.underlying25 (by kernel_rfl) hF (by omega) (by omega)), (rowX_load (x := (.tmp 34)) (j := j) (by kernel_rfl) rfl Try.underlying9 rfl hF (fun _ hx => hx) (by omega) rfl), (vI (bs_size _)), (Decidable.of_not_not b3), (rowX_addr (x := (.tmp 40)) (y := (.tmp 41)) (k := 1) (i := i) (by kernel_rfl) rfl rfl Try.underlying25 (by kernel_rfl) hF (by omega) (by omega)), (rowX_load (x := (.tmp 42)) (j := i) (by kernel_rfl) rfl Try.underlying9 rfl hF (fun _ hx => hx) (by omega) rfl), (Nat.zero_le _), (by simp only [bs_size]; omega), (vS2 (bs_to _ _)), (rowX_addr (x := (.tmp 45)) (y := (.tmp 46)) (k := 1) (i := j) (by kernel_rfl) rfl rfl Try.underlying25 (by kernel_rfl) hF (by omega) (by omega)), (rowX_load (x := (.tmp 47)) (j := j) (by kernel_rfl) rfl Try.underlying9 rfl hF (fun _ hx => hx) (by omega) rfl), (Nat.zero_le _), (by simp only [bs_size]; omega), (vS2 (bs_to _ _)), (congrArg bs (Decidable.of_not_not b4)), fun _ _ FF24 MM24 => then_n ?_⟩))
        refine wp_cond_true (FF24.ev 0 rfl) ?_
        have hol := oN_le s i j
        refine wp_seq (rg_c FF24 MM24 [] 8 [] [] (⟨by omega, fun _ _ FF25 MM25 => then_n ?_⟩))
        refine rg_c FF25 MM25 [(2, f_ (.pointer (some ⟨gOf p, oOf p + j, none⟩))), (0, f_ (sB (s j))), (0, t_ (sB ((s j).drop 16)))] 8 [] [] (⟨(rowX_addr (x := (.tmp 54)) (y := (.tmp 55)) (k := 1) (i := j) (by kernel_rfl) rfl rfl Try.underlying25 (by kernel_rfl) hF (by omega) (by omega)), (rowX_load (x := (.tmp 56)) (j := j) (by kernel_rfl) rfl Try.underlying9 rfl hF (fun _ hx => hx) (by omega) rfl), (by simp only [bs_size]; omega), (Nat.zero_le _), (vS2 (bs_from _ _)), fun _ _ FF26 MM26 => ?_⟩)
        refine inb_n (then_n ?_)
        refine rg_c FF26 MM26 [] 8 [] [] (⟨by omega, fun ac27 _ FF27 MM27 => ?_⟩)
        have hdj := cnt_of (FF27.get 0 rfl)
        have FFz28 : Fr 67 ac27 [(7, iN (j + 1)), (6, sB (oB s i (j + 1))), (5, iN (oN s i (j + 1))), (4, iN i), (3, rv), (0, .slice p n c)] := by rw [show oN s i (j + 1) = oN s i j + 1 from by rw [oN, if_pos ⟨b1, hh⟩], show oB s i (j + 1) = (s j).drop 16 from if_pos ⟨b1, hh⟩]; exact FF27
        refine then_n ⟨⟨j + 1, by omega, FFz28.pick [0, 1, 2, 3, 4, 5], MM27⟩, ?_⟩
        rw [hcj, hdj]; omega
    · skip
      refine then_n (.inr ⟨(FF11.ev 0 rfl).trans (dec_f hlj2), ?_⟩)
      obtain rfl : n = j := by omega
      have hol := oN_le s i n
      refine then_n ?_
      refine wp_seq ?_
      refine wp_seq (rg_c FF11 MM11 [] 8 [60] [] (fun ac29 _ FF29 MM29 => then_n ?_))
      by_cases hs60 : (oN s i n) ≠ 1
      · refine wp_cond_true ((FF29.ev 0 rfl).trans (dec_t hs60)) ?_
        refine rg_c FF29 MM29 [(0, t_ (sB (List.replicate 36 0)))] 8 [] [] (⟨(callP_of en_noughts (noughts_any 36 (by omega)) _), fun ac30 _ FF30 MM30 => ?_⟩)
        have FFz31 : Fr 67 ac30 [(6, sB (mAt s n i)), (7, iN n), (5, iN (oN s i n)), (4, iN i), (3, rv), (0, .slice p n c)] := by rw [mAt_no hs60]; exact FF30
        refine then_n ?_
        refine wp_region_list ?_
        refine rp_c 3 FFz31 MM30 [(2, s_ 0 (oC #[sB (mAt s n i)] 9))] 63 [64] [] (⟨(by kernel_rfl), fun bq => fun _ _ FF32 MM32 => ?_⟩)
        refine st_app [6, 7, 5, 4, 3, 0, 65] FF32 MM32 (d := 65) (s := 62) (x := 64) (Y := [sB (mAt s n i)]) (z := sB []) (bb := 16) rfl rfl rfl rfl (lies_lit (MM32.get 0 rfl)) (fun u hu => by rw [List.mem_singleton.1 hu]; rfl) (by decide) Try.underlying25 (by kernel_rfl) rfl (by decide) (by simp only [maxLen]; omega) (by omega) rfl rfl (by decide) fun ac34 wd34 rv33 FF34 MM34 => ?_
        have MMr35 : MemS (fun k => k < w0.heap.size ∧ ∀ x ∈ O, x.1 ≠ k) w0 wd34 ((bq, oC #[sB (mAt s n i)] 9) :: O) [(rv33, 9, 1, (i + 1), (fv (i + 1) (fun k9 => sB (mAt s n k9))))] := by rw [show (fv (i + 1) (fun k9 => sB (mAt s n k9))) = ((fv i (fun k9 => sB (mAt s n k9))) ++ [sB (mAt s n i)]) from (fv_succ _ _).symm]; exact MM34
        refine rp_c 1 FF34 MMr35 [] 8 [] [] (fun _ _ FF36 MM36 => ?_)
        refine wpl_nil ?_
        refine inb_n (then_n ?_)
        refine rg_c FF36 MM36 [] 8 [] [] (⟨by omega, fun _ _ FF37 MM37 => ?_⟩)
        have hd := cnt_of (FF37.get 0 rfl)
        refine then_n ⟨⟨rv33, i + 1, by omega, FF37.pick [0, 1, 5], (MM37.dropAt 0)⟩, ?_⟩
        rw [hc, hd]; omega
      · refine wp_cond_false ((FF29.ev 0 rfl).trans (dec_f hs60)) ?_
        have FFz38 : Fr 67 ac29 [(60, .bool (decide ((oN s i n) ≠ 1))), (7, iN n), (6, sB (mAt s n i)), (5, iN (oN s i n)), (4, iN i), (3, rv), (0, .slice p n c)] := by rw [mAt_one (Decidable.of_not_not hs60)]; exact FF29
        refine wp_skip ?_
        refine then_n ?_
        refine wp_region_list ?_
        refine rp_c 3 FFz38 MM29 [(2, s_ 0 (oC #[sB (mAt s n i)] 9))] 63 [64] [60] (⟨(by kernel_rfl), fun bq => fun _ _ FF39 MM39 => ?_⟩)
        refine st_app [7, 6, 5, 4, 3, 0, 65] FF39 MM39 (d := 65) (s := 62) (x := 64) (Y := [sB (mAt s n i)]) (z := sB []) (bb := 16) rfl rfl rfl rfl (lies_lit (MM39.get 0 rfl)) (fun u hu => by rw [List.mem_singleton.1 hu]; rfl) (by decide) Try.underlying25 (by kernel_rfl) rfl (by decide) (by simp only [maxLen]; omega) (by omega) rfl rfl (by decide) fun ac41 wd41 rv40 FF41 MM41 => ?_
        have MMr42 : MemS (fun k => k < w0.heap.size ∧ ∀ x ∈ O, x.1 ≠ k) w0 wd41 ((bq, oC #[sB (mAt s n i)] 9) :: O) [(rv40, 9, 1, (i + 1), (fv (i + 1) (fun k9 => sB (mAt s n k9))))] := by rw [show (fv (i + 1) (fun k9 => sB (mAt s n k9))) = ((fv i (fun k9 => sB (mAt s n k9))) ++ [sB (mAt s n i)]) from (fv_succ _ _).symm]; exact MM41
        refine rp_c 1 FF41 MMr42 [] 8 [] [] (fun _ _ FF43 MM43 => ?_)
        refine wpl_nil ?_
        refine inb_n (then_n ?_)
        refine rg_c FF43 MM43 [] 8 [] [] (⟨by omega, fun _ _ FF44 MM44 => ?_⟩)
        have hd := cnt_of (FF44.get 0 rfl)
        refine then_n ⟨⟨rv40, i + 1, by omega, FF44.pick [0, 1, 5], (MM44.dropAt 0)⟩, ?_⟩
        rw [hc, hd]; omega
  · skip
    refine then_n (.inr ⟨(FF6.ev 0 rfl).trans (dec_f hlt), ?_⟩)
    obtain rfl : n = i := by omega
    obtain ⟨rp, rc, rfl, _⟩ := MM6.rowLen
    refine then_n ?_
    refine wp_seq (rg_c FF6 MM6 [] 5 [] [] (fun _ _ FF45 MM45 => then_n ?_))
    refine wp_ret ?_
    repeat first | refine then_ret ?_ | refine inb_ret ?_
    exact (ret_fr FF45 0 Try.results14 rfl ⟨.slice rp n rc, rfl, MM45.belowN H (fun _ hx => hx), MM45.rowNewF⟩)
theorem rm_w (p : Option Addr) (n c : Nat) (s : Nat → List Nat) (hn : n ≤ 1000000) (hs : ∀ i, i < n → ∀ j, (s i).getD j 0 < 256) (w : World) (hF : RowIn w p n (fun k9 => sB (s k9))) :
    Calls Try.prog 14 #[.slice p n c] w fun e w' => ∃ v, e = .returned (.slice (pOf v) n (cOf v)) ∧ Below w.heap.size w w' ∧ RowNew w.heap.size w' (pOf v) n (fun k9 => sB (mAt s n k9)) := by
  obtain ⟨O, h1, h2, h3⟩ := row_O hF
  exact rm_O O h2 p n c s hn hs h3 w h1
end Go.Proofs.Ytlcadhfdmpjdkaa
namespace Go.Proofs.Ytlcadhfdmpjdkaa
open Go.RowKit
set_option maxHeartbeats 1000000 in
set_option maxRecDepth 100000 in
theorem rc_O (O : Blks) (hD : Distinct O) (p : Option Addr) (n c : Nat) (s : Nat → List Nat) (hn : n ≤ 1000000) (hs : ∀ i, i < n → ∀ j, (s i).getD j 0 < 256) (hF : RowO O p n (fun k9 => sB (s k9))) (w0 : World) (H : Has w0 O) :
    Calls Try.prog 11 #[.slice p n c] w0 fun e w' => e = .returned (.tuple #[iN (cls s n c1 n), iN (cls s n c2 n), iN (cls s n c3 n)]) ∧ Below w0.heap.size w0 w' := by
  refine enter_fr Try.func11 rfl Try.ntmps11 (by simp) fun ac (FF : Fr 80 ac [(0, .slice p n c)]) => ?_
  have MM : MemS (fun k => k < w0.heap.size ∧ ∀ x ∈ O, x.1 ≠ k) w0 w0 O [] := MemS.startN H hD
  refine wp_seq (rg_c FF MM [] 5 [] [] (fun _ _ FF1 MM1 => then_n ?_))
  refine wp_seq (rg_c FF1 MM1 [] 8 [] [] (fun _ _ FF2 MM2 => then_n ?_))
  refine wp_seq ?_
  refine wp_seq (rg_c FF2 MM2 [] 9 [] [] (fun _ _ FF3 MM3 => then_n ?_))
  refine wp_for2 (fun a' w' => ∃ i : Nat, i ≤ n ∧ Fr 80 a' [(8, iN i), (7, iN (cls s n c3 i)), (6, iN (cls s n c2 i)), (5, iN (cls s n c1 i)), (0, .slice p n c)] ∧ MemS (fun k => k < w0.heap.size ∧ ∀ x ∈ O, x.1 ≠ k) w0 w' O []) (fun a' _ => (n - cnt 8 a').toNat) ⟨0, Nat.zero_le _, FF3.pick [0, 1, 2, 3, 7], MM3⟩ ?_
  rintro ac4 wd4 ⟨i, hi, FF4, MM4⟩
  have hc := cnt_of (FF4.get 0 rfl)
  refine rg_c FF4 MM4 [] 9 [15] [] (fun _ _ FF5 MM5 => ?_)
  by_cases hlt : i < n
  · skip
    refine then_n (.inl ⟨(FF5.ev 0 rfl).trans (dec_t hlt), ?_⟩)
    have hin : i < n := hlt
    by_cases hl : (s i).length = 52
    · skip
      refine wp_seq (rg_c FF5 MM5 [] 11 [] [] (fun _ _ FF6 MM6 => then_n ?_))
      refine wp_seq ?_
      refine wp_seq (rg_c FF6 MM6 [] 12 [] [] (fun ac7 _ FF7 MM7 => then_n ?_))
      have FFz8 : Fr 80 ac7 [(11, iN 0), (10, iN (cntS s i 0)), (9, iN (cntS s i (min 0 i))), (8, iN i), (7, iN (cls s n c3 i)), (6, iN (cls s n c2 i)), (5, iN (cls s n c1 i)), (0, .slice p n c)] := by rw [show cntS s i (min 0 i) = 0 from by rw [Nat.zero_min, cntS], show cntS s i 0 = 0 from rfl]; exact FF7
      refine wp_for2 (fun a' w' => ∃ j : Nat, j ≤ n ∧ Fr 80 a' [(11, iN j), (10, iN (cntS s i j)), (9, iN (cntS s i (min j i))), (8, iN i), (7, iN (cls s n c3 i)), (6, iN (cls s n c2 i)), (5, iN (cls s n c1 i)), (0, .slice p n c)] ∧ MemS (fun k => k < w0.heap.size ∧ ∀ x ∈ O, x.1 ≠ k) w0 w' O []) (fun a' _ => (n - cnt 11 a').toNat) ⟨0, Nat.zero_le _, FFz8.pick [0, 1, 2, 3, 4, 5, 6, 7], MM7⟩ ?_
      rintro ac9 wd9 ⟨j, hj, FF9, MM9⟩
      have hcj := cnt_of (FF9.get 0 rfl)
      by_cases hlj2 : j < n
      · skip
        refine rg_c FF9 MM9 [(3, w_ 2), (3, f_ (.pointer (some ⟨gOf p, oOf p + i, none⟩))), (0, f_ (sB (s i))), (0, t_ (iN ((s i).length))), (0, w_ 2)] 12 [29] [] (⟨hlj2, (rowX_addr (x := (.tmp 23)) (y := (.tmp 24)) (k := 1) (i := i) (by kernel_rfl) rfl rfl Try.underlying25 (by kernel_rfl) hF (by omega) (by omega)), (rowX_load (x := (.tmp 25)) (j := i) (by kernel_rfl) rfl Try.underlying9 rfl hF (fun _ hx => hx) (by omega) rfl), (vI (bs_size _)), hl, fun _ _ FF10 MM10 => ?_⟩)
        refine then_n (.inl ⟨FF10.ev 0 rfl, ?_⟩)
        by_cases b3 : (s j).length ≠ 52
        · skip
          have hno : ¬ SM s i j := fun q => b3 q.2.1
          refine wp_seq (rg_dc 19 FF10 MM10 [(2, f_ (.pointer (some ⟨gOf p, oOf p + j, none⟩))), (0, f_ (sB (s j))), (0, t_ (iN ((s j).length))), (0, w_ 3)] [] 12 [50] [] (⟨(rowX_addr (x := (.tmp 32)) (y := (.tmp 33)) (k := 1) (i := j) (by kernel_rfl) rfl rfl Try.underlying25 (by kernel_rfl) hF (by omega) (by omega)), (rowX_load (x := (.tmp 34)) (j := j) (by kernel_rfl) rfl Try.underlying9 rfl hF (fun _ hx => hx) (by omega) rfl), (vI (bs_size _)), b3, fun _ _ FF11 MM11 => then_n ?_⟩))
          refine wp_cond_false (FF11.ev 0 rfl) ?_
          refine wp_skip ?_
          refine inb_n (then_n ?_)
          refine rg_c FF11 MM11 [] 12 [] [] (⟨by omega, fun ac12 _ FF12 MM12 => ?_⟩)
          have hdj := cnt_of (FF12.get 0 rfl)
          have FFz13 : Fr 80 ac12 [(11, iN (j + 1)), (10, iN (cntS s i (j + 1))), (9, iN (cntS s i (min (j + 1) i))), (8, iN i), (7, iN (cls s n c3 i)), (6, iN (cls s n c2 i)), (5, iN (cls s n c1 i)), (0, .slice p n c)] := by rw [ahead_no (fun q => hno q.1), show cntS s i (j + 1) = cntS s i j from by rw [cntS, if_neg hno, Nat.add_zero]]; exact FF12
          refine then_n ⟨⟨j + 1, by omega, FFz13.pick [0, 1, 2, 3, 4, 5, 6, 7], MM12⟩, ?_⟩
          rw [hcj, hdj]; omega
        by_cases b4 : (s i).take 16 ≠ (s j).take 16
        · skip
          have hli : (s i).length = 52 := hl
          have hlj : (s j).length = 52 := Decidable.of_not_not b3
          have hno : ¬ SM s i j := fun q => b4 q.2.2
          refine wp_seq (rg_dc 19 FF10 MM10 [(2, f_ (.pointer (some ⟨gOf p, oOf p + j, none⟩))), (0, f_ (sB (s j))), (0, t_ (iN ((s j).length))), (0, w_ 2), (3, f_ (.pointer (some ⟨gOf p, oOf p + i, none⟩))), (0, f_ (sB (s i))), (0, t_ (sB ((s i).take 16))), (2, f_ (.pointer (some ⟨gOf p, oOf p + j, none⟩))), (0, f_ (sB (s j))), (0, t_ (sB ((s j).take 16))), (0, w_ 3)] [] 12 [50] [] (⟨(rowX_addr (x := (.tmp 32)) (y := (.tmp 33)) (k := 1) (i := j) (by kernel_rfl) rfl rfl Try.underlying25 (by kernel_rfl) hF (by omega) (by omega)), (rowX_load (x := (.tmp 34)) (j := j) (by kernel_rfl) rfl Try.underlying9 rfl hF (fun _ hx => hx) (by omega) rfl), (vI (bs_size _)), (Decidable.of_not_not b3), (rowX_addr (x := (.tmp 39)) (y := (.tmp 40)) (k := 1) (i := i) (by kernel_rfl) rfl rfl Try.underlying25 (by kernel_rfl) hF (by omega) (by omega)), (rowX_load (x := (.tmp 41)) (j := i) (by kernel_rfl) rfl Try.underlying9 rfl hF (fun _ hx => hx) (by omega) rfl), (Nat.zero_le _), (by simp only [bs_size]; omega), (vS2 (bs_to _ _)), (rowX_addr (x := (.tmp 44)) (y := (.tmp 45)) (k := 1) (i := j) (by kernel_rfl) rfl rfl Try.underlying25 (by kernel_rfl) hF (by omega) (by omega)), (rowX_load (x := (.tmp 46)) (j := j) (by kernel_rfl) rfl Try.underlying9 rfl hF (fun _ hx => hx) (by omega) rfl), (Nat.zero_le _), (by simp only [bs_size]; omega), (vS2 (bs_to _ _)), (fun h => b4 (bs_inj (take_lt (hs i hin)) (take_lt (hs j hlj2)) h)), fun _ _ FF14 MM14 => then_n ?_⟩))
          refine wp_cond_false (FF14.ev 0 rfl) ?_
          refine wp_skip ?_
          refine inb_n (then_n ?_)
          refine rg_c FF14 MM14 [] 12 [] [] (⟨by omega, fun ac15 _ FF15 MM15 => ?_⟩)
          have hdj := cnt_of (FF15.get 0 rfl)
          have FFz16 : Fr 80 ac15 [(11, iN (j + 1)), (10, iN (cntS s i (j + 1))), (9, iN (cntS s i (min (j + 1) i))), (8, iN i), (7, iN (cls s n c3 i)), (6, iN (cls s n c2 i)), (5, iN (cls s n c1 i)), (0, .slice p n c)] := by rw [ahead_no (fun q => hno q.1), show cntS s i (j + 1) = cntS s i j from by rw [cntS, if_neg hno, Nat.add_zero]]; exact FF15
          refine then_n ⟨⟨j + 1, by omega, FFz16.pick [0, 1, 2, 3, 4, 5, 6, 7], MM15⟩, ?_⟩
          rw [hcj, hdj]; omega
        · skip
          have hlj : (s j).length = 52 := Decidable.of_not_not b3
          have hli : (s i).length = 52 := hl
          have hh : SM s i j := ⟨hli, hlj, Decidable.of_not_not b4⟩
          refine wp_seq (rg_dc 19 FF10 MM10 [(2, f_ (.pointer (some ⟨gOf p, oOf p + j, none⟩))), (0, f_ (sB (s j))), (0, t_ (iN ((s j).length))), (0, w_ 2), (3, f_ (.pointer (some ⟨gOf p, oOf p + i, none⟩))), (0, f_ (sB (s i))), (0, t_ (sB ((s i).take 16))), (2, f_ (.pointer (some ⟨gOf p, oOf p + j, none⟩))), (0, f_ (sB (s j))), (0, t_ (sB ((s j).take 16))), (0, w_ 2)] [] 12 [50] [] (⟨(rowX_addr (x := (.tmp 32)) (y := (.tmp 33)) (k := 1) (i := j) (by kernel_rfl) rfl rfl Try.underlying25 (by kernel_rfl) hF (by omega) (by omega)), (rowX_load (x := (.tmp 34)) (j := j) (by kernel_rfl) rfl Try.underlying9 rfl hF (fun _ hx => hx) (by omega) rfl), (vI (bs_size _)), (Decidable.of_not_not b3), (rowX_addr (x := (.tmp 39)) (y := (.tmp 40)) (k := 1) (i := i) (by kernel_rfl) rfl rfl Try.underlying25 (by kernel_rfl) hF (by omega) (by omega)), (rowX_load (x := (.tmp 41)) (j := i) (by kernel_rfl) rfl Try.underlying9 rfl hF (fun _ hx => hx) (by omega) rfl), (Nat.zero_le _), (by simp only [bs_size]; omega), (vS2 (bs_to _ _)), (rowX_addr (x := (.tmp 44)) (y := (.tmp 45)) (k := 1) (i := j) (by kernel_rfl) rfl rfl Try.underlying25 (by kernel_rfl) hF (by omega) (by omega)), (rowX_load (x := (.tmp 46)) (j := j) (by kernel_rfl) rfl Try.underlying9 rfl hF (fun _ hx => hx) (by omega) rfl), (Nat.zero_le _), (by simp only [bs_size]; omega), (vS2 (bs_to _ _)), (congrArg bs (Decidable.of_not_not b4)), fun _ _ FF17 MM17 => then_n ?_⟩))
          refine wp_cond_true (FF17.ev 0 rfl) ?_
          have hcl := cnt_le s i j
          have hcm := cnt_le s i (min j i)
          refine wp_seq (rg_c FF17 MM17 [] 12 [] [] (⟨by omega, fun _ _ FF18 MM18 => then_n ?_⟩))
          refine wp_seq (rg_c FF18 MM18 [] 12 [55] [] (fun _ _ FF19 MM19 => then_n ?_))
          by_cases hs55 : j < i
          · refine wp_cond_true ((FF19.ev 0 rfl).trans (dec_t hs55)) ?_
            refine rg_c FF19 MM19 [] 12 [] [] (⟨by omega, fun _ _ FF20 MM20 => ?_⟩)
            refine inb_n (then_n ?_)
            refine rg_c FF20 MM20 [] 12 [] [] (⟨by omega, fun ac21 _ FF21 MM21 => ?_⟩)
            have hdj := cnt_of (FF21.get 0 rfl)
            have FFz22 : Fr 80 ac21 [(11, iN (j + 1)), (9, iN (cntS s i (min (j + 1) i))), (10, iN (cntS s i (j + 1))), (8, iN i), (7, iN (cls s n c3 i)), (6, iN (cls s n c2 i)), (5, iN (cls s n c1 i)), (0, .slice p n c)] := by rw [ahead_lt hs55 hh, show cntS s i (j + 1) = cntS s i j + 1 from by rw [cntS, if_pos hh]]; exact FF21
            refine then_n ⟨⟨j + 1, by omega, FFz22.pick [0, 2, 1, 3, 4, 5, 6, 7], MM21⟩, ?_⟩
            rw [hcj, hdj]; omega
          · refine wp_cond_false ((FF19.ev 0 rfl).trans (dec_f hs55)) ?_
            refine wp_skip ?_
            refine inb_n (then_n ?_)
            refine rg_c FF19 MM19 [] 12 [] [] (⟨by omega, fun ac23 _ FF23 MM23 => ?_⟩)
            have hdj := cnt_of (FF23.get 0 rfl)
            have FFz24 : Fr 80 ac23 [(11, iN (j + 1)), (10, iN (cntS s i (j + 1))), (9, iN (cntS s i (min (j + 1) i))), (8, iN i), (7, iN (cls s n c3 i)), (6, iN (cls s n c2 i)), (5, iN (cls s n c1 i)), (0, .slice p n c)] := by rw [ahead_no (fun q => hs55 q.2), show cntS s i (j + 1) = cntS s i j + 1 from by rw [cntS, if_pos hh]]; exact FF23
            refine then_n ⟨⟨j + 1, by omega, FFz24.pick [0, 1, 2, 3, 4, 5, 6, 7], MM23⟩, ?_⟩
            rw [hcj, hdj]; omega
      · skip
        refine rg_c FF9 MM9 [(3, w_ 3)] 12 [29] [] (⟨hlj2, fun ac25 _ FF25 MM25 => ?_⟩)
        refine then_n (.inr ⟨FF25.ev 0 rfl, ?_⟩)
        have FFz26 : Fr 80 ac25 [(29, .bool false), (11, iN j), (10, iN (cntS s i n)), (9, iN (cntS s i i)), (8, iN i), (7, iN (cls s n c3 i)), (6, iN (cls s n c2 i)), (5, iN (cls s n c1 i)), (0, .slice p n c)] := by rw [show cntS s i i = cntS s i (min j i) from by rw [Nat.min_eq_right (by omega)], show cntS s i n = cntS s i j from by rw [show n = j by omega]]; exact FF25
        have hcl := cnt_le s i n
        refine then_n ?_
        refine wp_block ?_
        by_cases hFs : Fst s i
        · skip
          have hc0 := hFs.2
          have hc1 := cnt_oN hFs.1 n
          rw [if_pos hin] at hc1
          have hq1 := cls_le s n c1 i
          have hq2 := cls_le s n c2 i
          have hq3 := cls_le s n c3 i
          refine wp_seq (rg_c FFz26 MM25 [(1, w_ 3), (2, w_ 3)] 12 [60] [] (⟨by omega, by omega, fun _ _ FF27 MM27 => then_n ?_⟩))
          refine wp_cond_false (FF27.ev 0 rfl) ?_
          refine wp_seq (rg_c FF27 MM27 [] 12 [67] [] (fun _ _ FF28 MM28 => then_n ?_))
          by_cases hs67 : (cntS s i n) = 1
          · refine wp_cond_true ((FF28.ev 0 rfl).trans (dec_t hs67)) ?_
            refine rg_c FF28 MM28 [] 12 [] [] (⟨by omega, fun _ _ FF29 MM29 => ?_⟩)
            refine inb_n ?_
            refine inb_n (then_n ?_)
            refine rg_c FF29 MM29 [] 12 [] [] (⟨by omega, fun ac30 _ FF30 MM30 => ?_⟩)
            have hd := cnt_of (FF30.get 0 rfl)
            have FFz31 : Fr 80 ac30 [(8, iN (i + 1)), (5, iN (cls s n c1 (i + 1))), (11, iN j), (10, iN (cntS s i n)), (9, iN (cntS s i i)), (7, iN (cls s n c3 (i + 1))), (6, iN (cls s n c2 (i + 1))), (0, .slice p n c)] := by rw [show cls s n c1 (i + 1) = cls s n c1 i + 1 from by rw [cls, if_pos (show Fst s i ∧ c1 (cntS s i n) = true from ⟨hFs, decide_eq_true (by omega)⟩)], show cls s n c2 (i + 1) = cls s n c2 i from by rw [cls, if_neg (show ¬ (Fst s i ∧ c2 (cntS s i n) = true) from fun q => absurd (of_decide_eq_true q.2) (by omega)), Nat.add_zero], show cls s n c3 (i + 1) = cls s n c3 i from by rw [cls, if_neg (show ¬ (Fst s i ∧ c3 (cntS s i n) = true) from fun q => absurd (of_decide_eq_true q.2) (by omega)), Nat.add_zero]]; exact FF30
            refine then_n ⟨⟨i + 1, by omega, FFz31.pick [0, 5, 6, 1, 7], MM30⟩, ?_⟩
            rw [hc, hd]; omega
          · refine wp_cond_false ((FF28.ev 0 rfl).trans (dec_f hs67)) ?_
            refine wp_seq (rg_c FF28 MM28 [] 12 [72] [] (fun _ _ FF32 MM32 => then_n ?_))
            by_cases hs72 : (cntS s i n) = 2
            · refine wp_cond_true ((FF32.ev 0 rfl).trans (dec_t hs72)) ?_
              refine rg_c FF32 MM32 [] 12 [] [] (⟨by omega, fun _ _ FF33 MM33 => ?_⟩)
              refine inb_n ?_
              refine inb_n (then_n ?_)
              refine rg_c FF33 MM33 [] 12 [] [] (⟨by omega, fun ac34 _ FF34 MM34 => ?_⟩)
              have hd := cnt_of (FF34.get 0 rfl)
              have FFz35 : Fr 80 ac34 [(8, iN (i + 1)), (6, iN (cls s n c2 (i + 1))), (11, iN j), (10, iN (cntS s i n)), (9, iN (cntS s i i)), (7, iN (cls s n c3 (i + 1))), (5, iN (cls s n c1 (i + 1))), (0, .slice p n c)] := by rw [show cls s n c1 (i + 1) = cls s n c1 i from by rw [cls, if_neg (show ¬ (Fst s i ∧ c1 (cntS s i n) = true) from fun q => absurd (of_decide_eq_true q.2) (by omega)), Nat.add_zero], show cls s n c2 (i + 1) = cls s n c2 i + 1 from by rw [cls, if_pos (show Fst s i ∧ c2 (cntS s i n) = true from ⟨hFs, decide_eq_true (by omega)⟩)], show cls s n c3 (i + 1) = cls s n c3 i from by rw [cls, if_neg (show ¬ (Fst s i ∧ c3 (cntS s i n) = true) from fun q => absurd (of_decide_eq_true q.2) (by omega)), Nat.add_zero]]; exact FF34
              refine then_n ⟨⟨i + 1, by omega, FFz35.pick [0, 5, 1, 6, 7], MM34⟩, ?_⟩
              rw [hc, hd]; omega
            · refine wp_cond_false ((FF32.ev 0 rfl).trans (dec_f hs72)) ?_
              refine rg_c FF32 MM32 [] 12 [] [] (⟨by omega, fun _ _ FF36 MM36 => ?_⟩)
              refine inb_n ?_
              refine inb_n (then_n ?_)
              refine rg_c FF36 MM36 [] 12 [] [] (⟨by omega, fun ac37 _ FF37 MM37 => ?_⟩)
              have hd := cnt_of (FF37.get 0 rfl)
              have FFz38 : Fr 80 ac37 [(8, iN (i + 1)), (7, iN (cls s n c3 (i + 1))), (11, iN j), (10, iN (cntS s i n)), (9, iN (cntS s i i)), (6, iN (cls s n c2 (i + 1))), (5, iN (cls s n c1 (i + 1))), (0, .slice p n c)] := by rw [show cls s n c1 (i + 1) = cls s n c1 i from by rw [cls, if_neg (show ¬ (Fst s i ∧ c1 (cntS s i n) = true) from fun q => absurd (of_decide_eq_true q.2) (by omega)), Nat.add_zero], show cls s n c2 (i + 1) = cls s n c2 i from by rw [cls, if_neg (show ¬ (Fst s i ∧ c2 (cntS s i n) = true) from fun q => absurd (of_decide_eq_true q.2) (by omega)), Nat.add_zero], show cls s n c3 (i + 1) = cls s n c3 i + 1 from by rw [cls, if_pos (show Fst s i ∧ c3 (cntS s i n) = true from ⟨hFs, decide_eq_true (by omega)⟩)]]; exact FF37
              refine then_n ⟨⟨i + 1, by omega, FFz38.pick [0, 1, 5, 6, 7], MM37⟩, ?_⟩
              rw [hc, hd]; omega
        · by_cases hc0 : cntS s i i > 0
          · skip
            refine wp_seq (rg_c FFz26 MM25 [(1, w_ 2)] 12 [60] [] (⟨hc0, fun _ _ FF39 MM39 => then_n ?_⟩))
            refine wp_cond_true (FF39.ev 0 rfl) ?_
            refine wp_skip ?_
            refine inb_n ?_
            refine inb_n (then_n ?_)
            refine rg_c FF39 MM39 [] 12 [] [] (⟨by omega, fun ac40 _ FF40 MM40 => ?_⟩)
            have hd := cnt_of (FF40.get 0 rfl)
            have FFz41 : Fr 80 ac40 [(8, iN (i + 1)), (11, iN j), (10, iN (cntS s i n)), (9, iN (cntS s i i)), (7, iN (cls s n c3 (i + 1))), (6, iN (cls s n c2 (i + 1))), (5, iN (cls s n c1 (i + 1))), (0, .slice p n c)] := by rw [show cls s n c1 (i + 1) = cls s n c1 i from by rw [cls, if_neg (show ¬ (Fst s i ∧ c1 (cntS s i n) = true) from fun q => hFs q.1), Nat.add_zero], show cls s n c2 (i + 1) = cls s n c2 i from by rw [cls, if_neg (show ¬ (Fst s i ∧ c2 (cntS s i n) = true) from fun q => hFs q.1), Nat.add_zero], show cls s n c3 (i + 1) = cls s n c3 i from by rw [cls, if_neg (show ¬ (Fst s i ∧ c3 (cntS s i n) = true) from fun q => hFs q.1), Nat.add_zero]]; exact FF40
            refine then_n ⟨⟨i + 1, by omega, FFz41.pick [0, 4, 5, 6, 7], MM40⟩, ?_⟩
            rw [hc, hd]; omega
          · skip
            have hc9 := (cnt_bad (s := s) (i := i) (fun h => hFs ⟨h, by omega⟩) n).1
            refine wp_seq (rg_c FFz26 MM25 [(1, w_ 3), (2, w_ 2)] 12 [60] [] (⟨hc0, hc9, fun _ _ FF42 MM42 => then_n ?_⟩))
            refine wp_cond_true (FF42.ev 0 rfl) ?_
            refine wp_skip ?_
            refine inb_n ?_
            refine inb_n (then_n ?_)
            refine rg_c FF42 MM42 [] 12 [] [] (⟨by omega, fun ac43 _ FF43 MM43 => ?_⟩)
            have hd := cnt_of (FF43.get 0 rfl)
            have FFz44 : Fr 80 ac43 [(8, iN (i + 1)), (11, iN j), (10, iN (cntS s i n)), (9, iN (cntS s i i)), (7, iN (cls s n c3 (i + 1))), (6, iN (cls s n c2 (i + 1))), (5, iN (cls s n c1 (i + 1))), (0, .slice p n c)] := by rw [show cls s n c1 (i + 1) = cls s n c1 i from by rw [cls, if_neg (show ¬ (Fst s i ∧ c1 (cntS s i n) = true) from fun q => hFs q.1), Nat.add_zero], show cls s n c2 (i + 1) = cls s n c2 i from by rw [cls, if_neg (show ¬ (Fst s i ∧ c2 (cntS s i n) = true) from fun q => hFs q.1), Nat.add_zero], show cls s n c3 (i + 1) = cls s n c3 i from by rw [cls, if_neg (show ¬ (Fst s i ∧ c3 (cntS s i n) = true) from fun q => hFs q.1), Nat.add_zero]]; exact FF43
            refine then_n ⟨⟨i + 1, by omega, FFz44.pick [0, 4, 5, 6, 7], MM43⟩, ?_⟩
            rw [hc, hd]; omega
    · skip
      refine wp_seq (rg_c FF5 MM5 [] 11 [] [] (fun _ _ FF45 MM45 => then_n ?_))
      refine wp_seq ?_
      refine wp_seq (rg_c FF45 MM45 [] 12 [] [] (fun ac46 _ FF46 MM46 => then_n ?_))
      have FFz47 : Fr 80 ac46 [(11, iN 0), (10, iN (cntS s i 0)), (9, iN (cntS s i (min 0 i))), (8, iN i), (7, iN (cls s n c3 i)), (6, iN (cls s n c2 i)), (5, iN (cls s n c1 i)), (0, .slice p n c)] := by rw [show cntS s i (min 0 i) = 0 from by rw [Nat.zero_min, cntS], show cntS s i 0 = 0 from rfl]; exact FF46
      refine wp_for2 (fun a' w' => ∃ j : Nat, j ≤ n ∧ Fr 80 a' [(11, iN j), (10, iN (cntS s i j)), (9, iN (cntS s i (min j i))), (8, iN i), (7, iN (cls s n c3 i)), (6, iN (cls s n c2 i)), (5, iN (cls s n c1 i)), (0, .slice p n c)] ∧ MemS (fun k => k < w0.heap.size ∧ ∀ x ∈ O, x.1 ≠ k) w0 w' O []) (fun a' _ => (n - cnt 11 a').toNat) ⟨0, Nat.zero_le _, FFz47.pick [0, 1, 2, 3, 4, 5, 6, 7], MM46⟩ ?_
      rintro ac48 wd48 ⟨j, hj, FF48, MM48⟩
      have hcj := cnt_of (FF48.get 0 rfl)
      by_cases hlj2 : j < n
      · skip
        refine rg_c FF48 MM48 [(3, w_ 2), (3, f_ (.pointer (some ⟨gOf p, oOf p + i, none⟩))), (0, f_ (sB (s i))), (0, t_ (iN ((s i).length))), (0, w_ 3)] 12 [29] [] (⟨hlj2, (rowX_addr (x := (.tmp 23)) (y := (.tmp 24)) (k := 1) (i := i) (by kernel_rfl) rfl rfl Try.underlying25 (by kernel_rfl) hF (by omega) (by omega)), (rowX_load (x := (.tmp 25)) (j := i) (by kernel_rfl) rfl Try.underlying9 rfl hF (fun _ hx => hx) (by omega) rfl), (vI (bs_size _)), hl, fun ac49 _ FF49 MM49 => ?_⟩)
        refine then_n (.inr ⟨FF49.ev 0 rfl, ?_⟩)
        have FFz50 : Fr 80 ac49 [(29, .bool false), (11, iN j), (10, iN (cntS s i n)), (9, iN (cntS s i i)), (8, iN i), (7, iN (cls s n c3 i)), (6, iN (cls s n c2 i)), (5, iN (cls s n c1 i)), (0, .slice p n c)] := by rw [show cntS s i i = cntS s i (min j i) from (cnt_bad hl _).1.trans (cnt_bad hl _).1.symm, show cntS s i n = cntS s i j from (cnt_bad hl _).1.trans (cnt_bad hl _).1.symm]; exact FF49
        have hcl := cnt_le s i n
        refine then_n ?_
        refine wp_block ?_
        by_cases hFs : Fst s i
        · skip
          have hc0 := hFs.2
          have hc1 := cnt_oN hFs.1 n
          rw [if_pos hin] at hc1
          have hq1 := cls_le s n c1 i
          have hq2 := cls_le s n c2 i
          have hq3 := cls_le s n c3 i
          refine wp_seq (rg_c FFz50 MM49 [(1, w_ 3), (2, w_ 3)] 12 [60] [] (⟨by omega, by omega, fun _ _ FF51 MM51 => then_n ?_⟩))
          refine wp_cond_false (FF51.ev 0 rfl) ?_
          refine wp_seq (rg_c FF51 MM51 [] 12 [67] [] (fun _ _ FF52 MM52 => then_n ?_))
          by_cases hs67 : (cntS s i n) = 1
          · refine wp_cond_true ((FF52.ev 0 rfl).trans (dec_t hs67)) ?_
            refine rg_c FF52 MM52 [] 12 [] [] (⟨by omega, fun _ _ FF53 MM53 => ?_⟩)
            refine inb_n ?_
            refine inb_n (then_n ?_)
            refine rg_c FF53 MM53 [] 12 [] [] (⟨by omega, fun ac54 _ FF54 MM54 => ?_⟩)
            have hd := cnt_of (FF54.get 0 rfl)
            have FFz55 : Fr 80 ac54 [(8, iN (i + 1)), (5, iN (cls s n c1 (i + 1))), (11, iN j), (10, iN (cntS s i n)), (9, iN (cntS s i i)), (7, iN (cls s n c3 (i + 1))), (6, iN (cls s n c2 (i + 1))), (0, .slice p n c)] := by rw [show cls s n c1 (i + 1) = cls s n c1 i + 1 from by rw [cls, if_pos (show Fst s i ∧ c1 (cntS s i n) = true from ⟨hFs, decide_eq_true (by omega)⟩)], show cls s n c2 (i + 1) = cls s n c2 i from by rw [cls, if_neg (show ¬ (Fst s i ∧ c2 (cntS s i n) = true) from fun q => absurd (of_decide_eq_true q.2) (by omega)), Nat.add_zero], show cls s n c3 (i + 1) = cls s n c3 i from by rw [cls, if_neg (show ¬ (Fst s i ∧ c3 (cntS s i n) = true) from fun q => absurd (of_decide_eq_true q.2) (by omega)), Nat.add_zero]]; exact FF54
            refine then_n ⟨⟨i + 1, by omega, FFz55.pick [0, 5, 6, 1, 7], MM54⟩, ?_⟩
            rw [hc, hd]; omega
          · refine wp_cond_false ((FF52.ev 0 rfl).trans (dec_f hs67)) ?_
            refine wp_seq (rg_c FF52 MM52 [] 12 [72] [] (fun _ _ FF56 MM56 => then_n ?_))
            by_cases hs72 : (cntS s i n) = 2
            · refine wp_cond_true ((FF56.ev 0 rfl).trans (dec_t hs72)) ?_
              refine rg_c FF56 MM56 [] 12 [] [] (⟨by omega, fun _ _ FF57 MM57 => ?_⟩)
              refine inb_n ?_
              refine inb_n (then_n ?_)
              refine rg_c FF57 MM57 [] 12 [] [] (⟨by omega, fun ac58 _ FF58 MM58 => ?_⟩)
              have hd := cnt_of (FF58.get 0 rfl)
              have FFz59 : Fr 80 ac58 [(8, iN (i + 1)), (6, iN (cls s n c2 (i + 1))), (11, iN j), (10, iN (cntS s i n)), (9, iN (cntS s i i)), (7, iN (cls s n c3 (i + 1))), (5, iN (cls s n c1 (i + 1))), (0, .slice p n c)] := by rw [show cls s n c1 (i + 1) = cls s n c1 i from by rw [cls, if_neg (show ¬ (Fst s i ∧ c1 (cntS s i n) = true) from fun q => absurd (of_decide_eq_true q.2) (by omega)), Nat.add_zero], show cls s n c2 (i + 1) = cls s n c2 i + 1 from by rw [cls, if_pos (show Fst s i ∧ c2 (cntS s i n) = true from ⟨hFs, decide_eq_true (by omega)⟩)], show cls s n c3 (i + 1) = cls s n c3 i from by rw [cls, if_neg (show ¬ (Fst s i ∧ c3 (cntS s i n) = true) from fun q => absurd (of_decide_eq_true q.2) (by omega)), Nat.add_zero]]; exact FF58
              refine then_n ⟨⟨i + 1, by omega, FFz59.pick [0, 5, 1, 6, 7], MM58⟩, ?_⟩
              rw [hc, hd]; omega
            · refine wp_cond_false ((FF56.ev 0 rfl).trans (dec_f hs72)) ?_
              refine rg_c FF56 MM56 [] 12 [] [] (⟨by omega, fun _ _ FF60 MM60 => ?_⟩)
              refine inb_n ?_
              refine inb_n (then_n ?_)
              refine rg_c FF60 MM60 [] 12 [] [] (⟨by omega, fun ac61 _ FF61 MM61 => ?_⟩)
              have hd := cnt_of (FF61.get 0 rfl)
              have FFz62 : Fr 80 ac61 [(8, iN (i + 1)), (7, iN (cls s n c3 (i + 1))), (11, iN j), (10, iN (cntS s i n)), (9, iN (cntS s i i)), (6, iN (cls s n c2 (i + 1))), (5, iN (cls s n c1 (i + 1))), (0, .slice p n c)] := by rw [show cls s n c1 (i + 1) = cls s n c1 i from by rw [cls, if_neg (show ¬ (Fst s i ∧ c1 (cntS s i n) = true) from fun q => absurd (of_decide_eq_true q.2) (by omega)), Nat.add_zero], show cls s n c2 (i + 1) = cls s n c2 i from by rw [cls, if_neg (show ¬ (Fst s i ∧ c2 (cntS s i n) = true) from fun q => absurd (of_decide_eq_true q.2) (by omega)), Nat.add_zero], show cls s n c3 (i + 1) = cls s n c3 i + 1 from by rw [cls, if_pos (show Fst s i ∧ c3 (cntS s i n) = true from ⟨hFs, decide_eq_true (by omega)⟩)]]; exact FF61
              refine then_n ⟨⟨i + 1, by omega, FFz62.pick [0, 1, 5, 6, 7], MM61⟩, ?_⟩
              rw [hc, hd]; omega
        · by_cases hc0 : cntS s i i > 0
          · skip
            refine wp_seq (rg_c FFz50 MM49 [(1, w_ 2)] 12 [60] [] (⟨hc0, fun _ _ FF63 MM63 => then_n ?_⟩))
            refine wp_cond_true (FF63.ev 0 rfl) ?_
            refine wp_skip ?_
            refine inb_n ?_
            refine inb_n (then_n ?_)
            refine rg_c FF63 MM63 [] 12 [] [] (⟨by omega, fun ac64 _ FF64 MM64 => ?_⟩)
            have hd := cnt_of (FF64.get 0 rfl)
            have FFz65 : Fr 80 ac64 [(8, iN (i + 1)), (11, iN j), (10, iN (cntS s i n)), (9, iN (cntS s i i)), (7, iN (cls s n c3 (i + 1))), (6, iN (cls s n c2 (i + 1))), (5, iN (cls s n c1 (i + 1))), (0, .slice p n c)] := by rw [show cls s n c1 (i + 1) = cls s n c1 i from by rw [cls, if_neg (show ¬ (Fst s i ∧ c1 (cntS s i n) = true) from fun q => hFs q.1), Nat.add_zero], show cls s n c2 (i + 1) = cls s n c2 i from by rw [cls, if_neg (show ¬ (Fst s i ∧ c2 (cntS s i n) = true) from fun q => hFs q.1), Nat.add_zero], show cls s n c3 (i + 1) = cls s n c3 i from by rw [cls, if_neg (show ¬ (Fst s i ∧ c3 (cntS s i n) = true) from fun q => hFs q.1), Nat.add_zero]]; exact FF64
            refine then_n ⟨⟨i + 1, by omega, FFz65.pick [0, 4, 5, 6, 7], MM64⟩, ?_⟩
            rw [hc, hd]; omega
          · skip
            have hc9 := (cnt_bad (s := s) (i := i) (fun h => hFs ⟨h, by omega⟩) n).1
            refine wp_seq (rg_c FFz50 MM49 [(1, w_ 3), (2, w_ 2)] 12 [60] [] (⟨hc0, hc9, fun _ _ FF66 MM66 => then_n ?_⟩))
            refine wp_cond_true (FF66.ev 0 rfl) ?_
            refine wp_skip ?_
            refine inb_n ?_
            refine inb_n (then_n ?_)
            refine rg_c FF66 MM66 [] 12 [] [] (⟨by omega, fun ac67 _ FF67 MM67 => ?_⟩)
            have hd := cnt_of (FF67.get 0 rfl)
            have FFz68 : Fr 80 ac67 [(8, iN (i + 1)), (11, iN j), (10, iN (cntS s i n)), (9, iN (cntS s i i)), (7, iN (cls s n c3 (i + 1))), (6, iN (cls s n c2 (i + 1))), (5, iN (cls s n c1 (i + 1))), (0, .slice p n c)] := by rw [show cls s n c1 (i + 1) = cls s n c1 i from by rw [cls, if_neg (show ¬ (Fst s i ∧ c1 (cntS s i n) = true) from fun q => hFs q.1), Nat.add_zero], show cls s n c2 (i + 1) = cls s n c2 i from by rw [cls, if_neg (show ¬ (Fst s i ∧ c2 (cntS s i n) = true) from fun q => hFs q.1), Nat.add_zero], show cls s n c3 (i + 1) = cls s n c3 i from by rw [cls, if_neg (show ¬ (Fst s i ∧ c3 (cntS s i n) = true) from fun q => hFs q.1), Nat.add_zero]]; exact FF67
            refine then_n ⟨⟨i + 1, by omega, FFz68.pick [0, 4, 5, 6, 7], MM67⟩, ?_⟩
            rw [hc, hd]; omega
      · skip
        refine rg_c FF48 MM48 [(3, w_ 3)] 12 [29] [] (⟨hlj2, fun ac69 _ FF69 MM69 => ?_⟩)
        refine then_n (.inr ⟨FF69.ev 0 rfl, ?_⟩)
        have FFz70 : Fr 80 ac69 [(29, .bool false), (11, iN j), (10, iN (cntS s i n)), (9, iN (cntS s i i)), (8, iN i), (7, iN (cls s n c3 i)), (6, iN (cls s n c2 i)), (5, iN (cls s n c1 i)), (0, .slice p n c)] := by rw [show cntS s i i = cntS s i (min j i) from (cnt_bad hl _).1.trans (cnt_bad hl _).1.symm, show cntS s i n = cntS s i j from (cnt_bad hl _).1.trans (cnt_bad hl _).1.symm]; exact FF69
        have hcl := cnt_le s i n
        refine then_n ?_
        refine wp_block ?_
        by_cases hFs : Fst s i
        · skip
          have hc0 := hFs.2
          have hc1 := cnt_oN hFs.1 n
          rw [if_pos hin] at hc1
          have hq1 := cls_le s n c1 i
          have hq2 := cls_le s n c2 i
          have hq3 := cls_le s n c3 i
          refine wp_seq (rg_c FFz70 MM69 [(1, w_ 3), (2, w_ 3)] 12 [60] [] (⟨by omega, by omega, fun _ _ FF71 MM71 => then_n ?_⟩))
          refine wp_cond_false (FF71.ev 0 rfl) ?_
          refine wp_seq (rg_c FF71 MM71 [] 12 [67] [] (fun _ _ FF72 MM72 => then_n ?_))
          by_cases hs67 : (cntS s i n) = 1
          · refine wp_cond_true ((FF72.ev 0 rfl).trans (dec_t hs67)) ?_
            refine rg_c FF72 MM72 [] 12 [] [] (⟨by omega, fun _ _ FF73 MM73 => ?_⟩)
            refine inb_n ?_
            refine inb_n (then_n ?_)
            refine rg_c FF73 MM73 [] 12 [] [] (⟨by omega, fun ac74 _ FF74 MM74 => ?_⟩)
            have hd := cnt_of (FF74.get 0 rfl)
            have FFz75 : Fr 80 ac74 [(8, iN (i + 1)), (5, iN (cls s n c1 (i + 1))), (11, iN j), (10, iN (cntS s i n)), (9, iN (cntS s i i)), (7, iN (cls s n c3 (i + 1))), (6, iN (cls s n c2 (i + 1))), (0, .slice p n c)] := by rw [show cls s n c1 (i + 1) = cls s n c1 i + 1 from by rw [cls, if_pos (show Fst s i ∧ c1 (cntS s i n) = true from ⟨hFs, decide_eq_true (by omega)⟩)], show cls s n c2 (i + 1) = cls s n c2 i from by rw [cls, if_neg (show ¬ (Fst s i ∧ c2 (cntS s i n) = true) from fun q => absurd (of_decide_eq_true q.2) (by omega)), Nat.add_zero], show cls s n c3 (i + 1) = cls s n c3 i from by rw [cls, if_neg (show ¬ (Fst s i ∧ c3 (cntS s i n) = true) from fun q => absurd (of_decide_eq_true q.2) (by omega)), Nat.add_zero]]; exact FF74
            refine then_n ⟨⟨i + 1, by omega, FFz75.pick [0, 5, 6, 1, 7], MM74⟩, ?_⟩
            rw [hc, hd]; omega
          · refine wp_cond_false ((FF72.ev 0 rfl).trans (dec_f hs67)) ?_
            refine wp_seq (rg_c FF72 MM72 [] 12 [72] [] (fun _ _ FF76 MM76 => then_n ?_))
            by_cases hs72 : (cntS s i n) = 2
            · refine wp_cond_true ((FF76.ev 0 rfl).trans (dec_t hs72)) ?_
              refine rg_c FF76 MM76 [] 12 [] [] (⟨by omega, fun _ _ FF77 MM77 => ?_⟩)
              refine inb_n ?_
              refine inb_n (then_n ?_)
              refine rg_c FF77 MM77 [] 12 [] [] (⟨by omega, fun ac78 _ FF78 MM78 => ?_⟩)
              have hd := cnt_of (FF78.get 0 rfl)
              have FFz79 : Fr 80 ac78 [(8, iN (i + 1)), (6, iN (cls s n c2 (i + 1))), (11, iN j), (10, iN (cntS s i n)), (9, iN (cntS s i i)), (7, iN (cls s n c3 (i + 1))), (5, iN (cls s n c1 (i + 1))), (0, .slice p n c)] := by rw [show cls s n c1 (i + 1) = cls s n c1 i from by rw [cls, if_neg (show ¬ (Fst s i ∧ c1 (cntS s i n) = true) from fun q => absurd (of_decide_eq_true q.2) (by omega)), Nat.add_zero], show cls s n c2 (i + 1) = cls s n c2 i + 1 from by rw [cls, if_pos (show Fst s i ∧ c2 (cntS s i n) = true from ⟨hFs, decide_eq_true (by omega)⟩)], show cls s n c3 (i + 1) = cls s n c3 i from by rw [cls, if_neg (show ¬ (Fst s i ∧ c3 (cntS s i n) = true) from fun q => absurd (of_decide_eq_true q.2) (by omega)), Nat.add_zero]]; exact FF78
              refine then_n ⟨⟨i + 1, by omega, FFz79.pick [0, 5, 1, 6, 7], MM78⟩, ?_⟩
              rw [hc, hd]; omega
            · refine wp_cond_false ((FF76.ev 0 rfl).trans (dec_f hs72)) ?_
              refine rg_c FF76 MM76 [] 12 [] [] (⟨by omega, fun _ _ FF80 MM80 => ?_⟩)
              refine inb_n ?_
              refine inb_n (then_n ?_)
              refine rg_c FF80 MM80 [] 12 [] [] (⟨by omega, fun ac81 _ FF81 MM81 => ?_⟩)
              have hd := cnt_of (FF81.get 0 rfl)
              have FFz82 : Fr 80 ac81 [(8, iN (i + 1)), (7, iN (cls s n c3 (i + 1))), (11, iN j), (10, iN (cntS s i n)), (9, iN (cntS s i i)), (6, iN (cls s n c2 (i + 1))), (5, iN (cls s n c1 (i + 1))), (0, .slice p n c)] := by rw [show cls s n c1 (i + 1) = cls s n c1 i from by rw [cls, if_neg (show ¬ (Fst s i ∧ c1 (cntS s i n) = true) from fun q => absurd (of_decide_eq_true q.2) (by omega)), Nat.add_zero], show cls s n c2 (i + 1) = cls s n c2 i from by rw [cls, if_neg (show ¬ (Fst s i ∧ c2 (cntS s i n) = true) from fun q => absurd (of_decide_eq_true q.2) (by omega)), Nat.add_zero], show cls s n c3 (i + 1) = cls s n c3 i + 1 from by rw [cls, if_pos (show Fst s i ∧ c3 (cntS s i n) = true from ⟨hFs, decide_eq_true (by omega)⟩)]]; exact FF81
              refine then_n ⟨⟨i + 1, by omega, FFz82.pick [0, 1, 5, 6, 7], MM81⟩, ?_⟩
              rw [hc, hd]; omega
        · by_cases hc0 : cntS s i i > 0
          · skip
            refine wp_seq (rg_c FFz70 MM69 [(1, w_ 2)] 12 [60] [] (⟨hc0, fun _ _ FF83 MM83 => then_n ?_⟩))
            refine wp_cond_true (FF83.ev 0 rfl) ?_
            refine wp_skip ?_
            refine inb_n ?_
            refine inb_n (then_n ?_)
            refine rg_c FF83 MM83 [] 12 [] [] (⟨by omega, fun ac84 _ FF84 MM84 => ?_⟩)
            have hd := cnt_of (FF84.get 0 rfl)
            have FFz85 : Fr 80 ac84 [(8, iN (i + 1)), (11, iN j), (10, iN (cntS s i n)), (9, iN (cntS s i i)), (7, iN (cls s n c3 (i + 1))), (6, iN (cls s n c2 (i + 1))), (5, iN (cls s n c1 (i + 1))), (0, .slice p n c)] := by rw [show cls s n c1 (i + 1) = cls s n c1 i from by rw [cls, if_neg (show ¬ (Fst s i ∧ c1 (cntS s i n) = true) from fun q => hFs q.1), Nat.add_zero], show cls s n c2 (i + 1) = cls s n c2 i from by rw [cls, if_neg (show ¬ (Fst s i ∧ c2 (cntS s i n) = true) from fun q => hFs q.1), Nat.add_zero], show cls s n c3 (i + 1) = cls s n c3 i from by rw [cls, if_neg (show ¬ (Fst s i ∧ c3 (cntS s i n) = true) from fun q => hFs q.1), Nat.add_zero]]; exact FF84
            refine then_n ⟨⟨i + 1, by omega, FFz85.pick [0, 4, 5, 6, 7], MM84⟩, ?_⟩
            rw [hc, hd]; omega
          · skip
            have hc9 := (cnt_bad (s := s) (i := i) (fun h => hFs ⟨h, by omega⟩) n).1
            refine wp_seq (rg_c FFz70 MM69 [(1, w_ 3), (2, w_ 2)] 12 [60] [] (⟨hc0, hc9, fun _ _ FF86 MM86 => then_n ?_⟩))
            refine wp_cond_true (FF86.ev 0 rfl) ?_
            refine wp_skip ?_
            refine inb_n ?_
            refine inb_n (then_n ?_)
            refine rg_c FF86 MM86 [] 12 [] [] (⟨by omega, fun ac87 _ FF87 MM87 => ?_⟩)
            have hd := cnt_of (FF87.get 0 rfl)
            have FFz88 : Fr 80 ac87 [(8, iN (i + 1)), (11, iN j), (10, iN (cntS s i n)), (9, iN (cntS s i i)), (7, iN (cls s n c3 (i + 1))), (6, iN (cls s n c2 (i + 1))), (5, iN (cls s n c1 (i + 1))), (0, .slice p n c)] := by rw [show cls s n c1 (i + 1) = cls s n c1 i from by rw [cls, if_neg (show ¬ (Fst s i ∧ c1 (cntS s i n) = true) from fun q => hFs q.1), Nat.add_zero], show cls s n c2 (i + 1) = cls s n c2 i from by rw [cls, if_neg (show ¬ (Fst s i ∧ c2 (cntS s i n) = true) from fun q => hFs q.1), Nat.add_zero], show cls s n c3 (i + 1) = cls s n c3 i from by rw [cls, if_neg (show ¬ (Fst s i ∧ c3 (cntS s i n) = true) from fun q => hFs q.1), Nat.add_zero]]; exact FF87
            refine then_n ⟨⟨i + 1, by omega, FFz88.pick [0, 4, 5, 6, 7], MM87⟩, ?_⟩
            rw [hc, hd]; omega
  · skip
    refine then_n (.inr ⟨(FF5.ev 0 rfl).trans (dec_f hlt), ?_⟩)
    obtain rfl : n = i := by omega
    refine then_n ?_
    refine wp_seq (rg_c FF5 MM5 [] 9 [] [] (fun _ _ FF89 MM89 => then_n ?_))
    refine wp_ret ?_
    repeat first | refine then_ret ?_ | refine inb_ret ?_
    exact (ret_tup3 FF89 2 1 0 Try.results11 rfl rfl rfl ⟨rfl, MM89.belowN H (fun _ hx => hx)⟩)
theorem rc_w (p : Option Addr) (n c : Nat) (s : Nat → List Nat) (hn : n ≤ 1000000) (hs : ∀ i, i < n → ∀ j, (s i).getD j 0 < 256) (w : World) (hF : RowIn w p n (fun k9 => sB (s k9))) :
    Calls Try.prog 11 #[.slice p n c] w fun e w' => e = .returned (.tuple #[iN (cls s n c1 n), iN (cls s n c2 n), iN (cls s n c3 n)]) ∧ Below w.heap.size w w' := by
  obtain ⟨O, h1, h2, h3⟩ := row_O hF
  exact rc_O O h2 p n c s hn hs h3 w h1
end Go.Proofs.Ytlcadhfdmpjdkaa
namespace Go.Proofs.Ytlcadhfdmpjdkaa
open Go.RowKit
set_option maxHeartbeats 2000000 in
set_option maxRecDepth 100000 in
theorem tells_O (O : Blks) (hD : Distinct O) (p : Option Addr) (n cp : Nat) (fN fB : Nat → Nat) (fR : Nat → List Nat) (hN8 : ∀ i, fN i < 256) (hB8 : ∀ i, fB i < 256) (hR8 : ∀ i j, (fR i).getD j 0 < 256) (hA : RowO O p (n * 3) (madeV fN fB fR)) (w0 : World) (H : Has w0 O) :
    Calls Try.prog 3 #[.slice p n cp] w0 fun e w' => e = .returned (.bool true) ∧ Below w0.heap.size w0 w' := by
  refine enter_fr Try.func3 rfl Try.ntmps3 (by simp) fun ac (FF : Fr 60 ac [(0, .slice p n cp)]) => ?_
  have MM : MemS (fun k => k < w0.heap.size ∧ ∀ x ∈ O, x.1 ≠ k) w0 w0 O [] := MemS.startN H hD
  refine wp_seq (rg_c FF MM [] 3 [] [] (fun _ _ FF1 MM1 => then_n ?_))
  refine wp_seq ?_
  by_cases hP : FairP n fR
  · skip
    obtain ⟨s, hsd⟩ : ∃ s, s = reqM fN fB fR := ⟨_, rfl⟩
    have hs : ∀ i, i < n → ∀ j, (s i).getD j 0 < 256 := fun i _ => hsd ▸ reqM_lt (hN8 i) (hB8 i) (hR8 i)
    have hn40 := hP.1
    refine wp_seq (rg_c FF1 MM1 [(1, u_ 1 (.bool true))] 3 [13] [] (⟨⟨en_fair, fun w Hw => fair_w p n cp fN fB fR true ⟨fun _ => hP, fun _ => rfl⟩ w (hA.at Hw)⟩, fun _ _ FF2 MM2 => then_n ?_⟩))
    refine wp_cond_false (FF2.ev 0 rfl) ?_
    refine wp_skip ?_
    refine then_n ?_
    refine wp_seq (wp_region_list ?_)
    refine rp_c 1 FF2 MM2 [] 3 [15] [] (fun _ wd3 FF3 MM3 => ?_)
    refine st_callE [2, 0, 16] FF3 (d := 16) (mk := fun v => .slice (pOf v) n (cOf v)) en_req rfl rfl (by have h0 := req_w p n cp fN fB fR hN8 hB8 hR8 (by omega) wd3 (hA.at MM3.hasL); rw [← hsd] at h0; exact h0) rfl (by kernel_rfl) (by decide) fun ac6 wd6 lv5 FF6 hr7 => ?_
    obtain ⟨O8, MM90, hR10, hs11⟩ := MemS.addRow (K := []) (O := O) MM3 hr7.1 hr7.2
    have MM9 : MemS (fun k => k < w0.heap.size ∧ ∀ x ∈ O, x.1 ≠ k) w0 wd6 O8 [] := MM90
    have hk12 := hA.mono hs11
    refine rp_c 1 FF6 MM9 [] 4 [] [] (fun _ _ FF13 MM13 => ?_)
    refine wpl_nil (then_n ?_)
    refine wp_seq (wp_region_list ?_)
    refine rp_c 2 FF13 MM13 [(0, s_ 0 (oC #[] 9))] 19 [] [] (⟨(by kernel_rfl), fun e1 => fun _ wd14 FF14 MM14 => ?_⟩)
    have MMw15 : MemS (fun k => k < w0.heap.size ∧ ∀ x ∈ O, x.1 ≠ k) w0 wd14 O8 [(.slice (some ⟨e1, 0, none⟩) 0 0, 9, 1, 0, [])] := MM14.rowOf (MM14.newest (fun _ hx => hs11 _ hx)) (Nat.zero_le _) rfl
    refine st_appX [3, 2, 0, 19] FF14 MMw15 (d := 19) (s := 17) (x := 18) (z := sB []) (bb := 16) rfl rfl rfl (hR10.at MMw15.hasL) (fun _ => rfl) Try.underlying25 (by kernel_rfl) rfl (by omega) (by simp only [maxLen]; omega) (Nat.zero_add _) (List.nil_append _) rfl rfl (by decide) fun ac18 wd18 rq16 rc17 FF18 MM18 => ?_
    obtain ⟨O19, MM200, hR21, hs22⟩ := MemS.freezeO2 (K := []) (O := O8) MM18
    have MM20 : MemS (fun k => k < w0.heap.size ∧ ∀ x ∈ O, x.1 ≠ k) w0 wd18 O19 [] := MM200
    have hk23 := hk12.mono hs22
    have hk24 := hR10.mono hs22
    have hz25 : ∀ x ∈ O, x ∈ O19 := fun x hx => hs22 x (hs11 x hx)
    refine rp_c 1 FF18 MM20 [] 5 [] [] (fun _ _ FF26 MM26 => ?_)
    refine wpl_nil (then_n ?_)
    refine wp_seq (rg_c FF26 MM26 [(1, u_ 1 (.tuple #[iN (cls s n c1 n), iN (cls s n c2 n), iN (cls s n c3 n)]))] 8 [] [] (⟨⟨en_dc, fun w Hw => dc_w rq16 n rc17 s (by omega) hs w (hR21.at Hw)⟩, fun _ _ FF27 MM27 => then_n ?_⟩))
    refine wp_seq (rg_c FF27 MM27 [(1, u_ 1 (.tuple #[iN (cls s n c1 n), iN (cls s n c2 n), iN (cls s n c3 n)]))] 11 [] [] (⟨⟨en_rc, fun w Hw => rc_w (pOf lv5) n (cOf lv5) s (by omega) hs w (hk24.at Hw)⟩, fun _ _ FF28 MM28 => then_n ?_⟩))
    refine wp_seq (wp_region_list ?_)
    refine rp_c 1 FF28 MM28 [] 33 [] [] (fun _ _ FF29 MM29 => ?_)
    refine st_callE [10, 9, 8, 7, 6, 5, 4, 3, 2, 0, 33] FF29 (d := 33) (mk := fun v => .slice (pOf v) n (cOf v)) en_dm rfl rfl (dm_w rq16 n rc17 s (by omega) hs _ (hR21.at MM29.hasL)) rfl (by kernel_rfl) (by decide) fun ac32 wd32 lv31 FF32 hr33 => ?_
    obtain ⟨O34, MM350, hR36, hs37⟩ := MemS.addRow (K := []) (O := O19) MM29 hr33.1 hr33.2
    have MM35 : MemS (fun k => k < w0.heap.size ∧ ∀ x ∈ O, x.1 ≠ k) w0 wd32 O34 [] := MM350
    have hk38 := hk23.mono hs37
    have hk39 := hk24.mono hs37
    have hk40 := hR21.mono hs37
    have hz41 : ∀ x ∈ O, x ∈ O34 := fun x hx => hs37 x (hz25 x hx)
    refine rp_c 1 FF32 MM35 [] 35 [] [] (fun _ _ FF42 MM42 => ?_)
    refine st_callE [33, 10, 9, 8, 7, 6, 5, 4, 3, 2, 0, 35] FF42 (d := 35) (mk := fun v => .slice (pOf v) n (cOf v)) en_rm rfl rfl (rm_w (pOf lv5) n (cOf lv5) s (by omega) hs _ (hk39.at MM42.hasL)) rfl (by kernel_rfl) (by decide) fun ac45 wd45 lv44 FF45 hr46 => ?_
    obtain ⟨O47, MM480, hR49, hs50⟩ := MemS.addRow (K := []) (O := O34) MM42 hr46.1 hr46.2
    have MM48 : MemS (fun k => k < w0.heap.size ∧ ∀ x ∈ O, x.1 ≠ k) w0 wd45 O47 [] := MM480
    have hk51 := hk38.mono hs50
    have hk52 := hk39.mono hs50
    have hk53 := hk40.mono hs50
    have hk54 := hR36.mono hs50
    have hz55 : ∀ x ∈ O, x ∈ O47 := fun x hx => hs50 x (hz41 x hx)
    refine rp_c 25 FF45 MM48 [(0, u_ 1 (.bool true)), (3, w_ 2), (4, w_ 2), (4, w_ 2), (4, u_ 1 (.bool true)), (2, t_ (.bool true))] 5 [] [] (⟨⟨en_ktexts, fun w Hw => ktexts_w (pOf lv31) n (cOf lv31) (pOf lv44) (cOf lv44) (mAt s n) (mAt s n) (by omega) (fun _ _ => rfl) w (hk54.at Hw) (hR49.at Hw)⟩, rfl, rfl, rfl, ⟨en_ktexts, fun w Hw => ktexts_w rq16 n rc17 (pOf lv5) (cOf lv5) s s (by omega) (fun _ _ => rfl) w (hk53.at Hw) (hk52.at Hw)⟩, (callP_of en_wakes wakes_w _), fun _ _ FF56 MM56 => ?_⟩)
    refine wpl_nil (then_n ?_)
    refine wp_ret ?_
    repeat first | refine then_ret ?_ | refine inb_ret ?_
    exact (ret_fr FF56 0 Try.results3 rfl ⟨rfl, MM56.belowN H (fun _ hx => hz55 _ hx)⟩)
  · skip
    refine wp_seq (rg_c FF1 MM1 [(1, u_ 1 (.bool false))] 3 [13] [] (⟨⟨en_fair, fun w Hw => fair_w p n cp fN fB fR false ⟨fun h => (by cases h), fun h => (hP h).elim⟩ w (hA.at Hw)⟩, fun _ _ FF57 MM57 => then_n ?_⟩))
    refine wp_cond_true (FF57.ev 0 rfl) ?_
    refine wp_seq (rg_c FF57 MM57 [(0, t_ (.bool true))] 3 [] [] (⟨(callP_of en_wakes wakes_w _), fun _ _ FF58 MM58 => then_n ?_⟩))
    refine wp_ret ?_
    repeat first | refine then_ret ?_ | refine inb_ret ?_
    exact (ret_fr FF58 0 Try.results3 rfl ⟨rfl, MM58.belowN H (fun _ hx => hx)⟩)
end Go.Proofs.Ytlcadhfdmpjdkaa
namespace Go.Proofs.Ytlcadhfdmpjdkaa
open Go.ChangeShapes Go.WideShapes Go.ChangeAt Go.RowKit
set_option maxRecDepth 100000 in
theorem made_cells {H : Type} {enc : TypeId × Value → H} {W : World} {base' : Nat} {spare : Nat → Bool} {held : Bool} {fuel : Nat} {X : List Value} {x : DataW H × List MemPlace} (h : DataW.trod enc Try.prog W base' spare held fuel 36 X = some x) :
    ∃ (a b : Nat) (w : List Nat), X[0]? = some (.int .u8 (a : Nat)) ∧ X[1]? = some (.int .u8 (b : Nat)) ∧ X[2]? = some (.string (bs w)) ∧ a < 256 ∧ b < 256 ∧ (∀ i, w.getD i 0 < 256) := by
  obtain ⟨xs, m, _, _, hl, hlen, hel⟩ := DataW.trod_struct Try.underlying36 h
  have hx : xs.length = 3 := hlen
  have g : ∀ i, i < 3 → xs[i]? = some (xs[i]?.getD (.agg [], [])) := fun i hi => by simp [hx, hi]
  have e0 : DataW.trod enc Try.prog W base' spare held m 5 (List.take (Try.prog.cellsOf 5) (List.drop 0 X)) = xs[0]? := hel 0 _ rfl
  rw [show Try.prog.cellsOf 5 = 1 by kernel_rfl, g 0 (by omega)] at e0
  obtain ⟨z0, q0, _, w0⟩ := DataW.trod_int Try.underlying5 e0
  have bb0 := bounds_u8 w0
  obtain ⟨n0, rfl⟩ := Int.eq_ofNat_of_zero_le bb0.1
  have e1 : DataW.trod enc Try.prog W base' spare held m 5 (List.take (Try.prog.cellsOf 5) (List.drop 1 X)) = xs[1]? := hel 1 _ rfl
  rw [show Try.prog.cellsOf 5 = 1 by kernel_rfl, g 1 (by omega)] at e1
  obtain ⟨z1, q1, _, w1⟩ := DataW.trod_int Try.underlying5 e1
  have bb1 := bounds_u8 w1
  obtain ⟨n1, rfl⟩ := Int.eq_ofNat_of_zero_le bb1.1
  have e2 : DataW.trod enc Try.prog W base' spare held m 9 (List.take (Try.prog.cellsOf 9) (List.drop 2 X)) = xs[2]? := hel 2 _ rfl
  rw [show Try.prog.cellsOf 9 = 1 by kernel_rfl, g 2 (by omega)] at e2
  obtain ⟨z2, q2, _, w2⟩ := DataW.trod_string Try.underlying9 e2
  refine ⟨n0, n1, nl z2, ?_, ?_, ?_, by have := bb0.2; omega, by have := bb1.2; omega, nl_lt z2⟩
  · have h3 := congrArg (fun l => l[0]?) q0; simpa [Value.cells] using h3
  · have h3 := congrArg (fun l => l[0]?) q1; simpa [Value.cells] using h3
  · rw [bs_nl]; have h3 := congrArg (fun l => l[0]?) q2; simpa [Value.cells] using h3
set_option maxRecDepth 100000 in
theorem made_param {H : Type} {enc : TypeId × Value → H} {W : World} {r : Reach} {base base' : Nat} {spare : Nat → Bool} {held : Bool} {v : Value} {d : DataW H} {q : List MemPlace} (hv : Value.okWide Try.prog W r base 22 v) (h : DataW.Trod enc Try.prog W base' spare held 22 v d q) :
    ∃ (p : Option Addr) (n c : Nat) (fN fB : Nat → Nat) (fR : Nat → List Nat), v = .slice p n c ∧ (∀ i, fN i < 256) ∧ (∀ i, fB i < 256) ∧ (∀ i j, (fR i).getD j 0 < 256) ∧ RowIn W p (n * 3) (madeV fN fB fR) := by
  obtain ⟨p, n, c, rfl, h1⟩ := rowX_param Try.underlying22 (k := 3) (by kernel_rfl) (by decide) hv h
  rcases h1 with rfl | ⟨b, off, cs, T, fr, h2, h3, h4⟩
  · exact ⟨p, 0, c, fun _ => 0, fun _ => 0, fun _ => [], rfl, fun _ => (by decide : 0 < 256), fun _ => (by decide : 0 < 256), fun i j => by simp, .inl rfl⟩
  · have key : ∀ j, ∃ x : Nat × Nat × List Nat, x.1 < 256 ∧ x.2.1 < 256 ∧ (∀ i, x.2.2.getD i 0 < 256) ∧ (j < n → cs[off + (j * 3 + 0)]? = some (.int .u8 (x.1 : Nat)) ∧ cs[off + (j * 3 + 1)]? = some (.int .u8 (x.2.1 : Nat)) ∧ cs[off + (j * 3 + 2)]? = some (.string (bs x.2.2))) := fun j => by
      by_cases hj : j < n
      · obtain ⟨X, x, fuel, q1, q2, q3⟩ := h4 j hj
        obtain ⟨a, b, w, a0, a1, a2, ha, hb, hw⟩ := made_cells q3
        exact ⟨(a, b, w), ha, hb, hw, fun _ => ⟨(q2 0 (by decide)).trans a0, (q2 1 (by decide)).trans a1, (q2 2 (by decide)).trans a2⟩⟩
      · exact ⟨(0, 0, []), by decide, by decide, fun i => by simp, fun h => (hj h).elim⟩
    obtain ⟨f, hf⟩ := Classical.axiomOfChoice key
    refine ⟨p, n, c, fun i => (f i).1, fun i => (f i).2.1, fun i => (f i).2.2, rfl, fun i => (hf i).1, fun i => (hf i).2.1, fun i => (hf i).2.2.1, .inr ⟨b, off, cs, T, fr, h2, h3, fun j hj => ?_⟩⟩
    obtain ⟨g0, g1, g2⟩ := (hf (j / 3)).2.2.2 (by omega)
    have hm : j % 3 = 0 ∨ j % 3 = 1 ∨ j % 3 = 2 := by omega
    rcases hm with hm | hm | hm
    · rw [show j = j / 3 * 3 + 0 by omega, g0, Nat.add_zero, madeV_0]
    · rw [show j = j / 3 * 3 + 1 by omega, g1, madeV_1]
    · rw [show j = j / 3 * 3 + 2 by omega, g2, madeV_2]
end Go.Proofs.Ytlcadhfdmpjdkaa
