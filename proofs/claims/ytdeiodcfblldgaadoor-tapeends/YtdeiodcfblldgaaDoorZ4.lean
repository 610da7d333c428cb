/- Several texts in one: The law TapeEnds. Rows that come in: of bytes. The table of the powers of ten, as the text lays it. Package-level tables of numbers: what the row says that they hold, as a block. -/
import Derived.Test.YtdeiodcfblldgaaDoorZ3
import Derived.Test.YtdeiodcfblldgaaDoorZ2
import Derived.Test.YtdeiodcfblldgaaDoorZ1
import Derived.ProofKit
import Derived.OpenShut
import Derived.MakeChecks
import Derived.LaidMore
import Derived.LaidHandle
import Derived.Stop.Joined
namespace Go.Proofs.YtdeiodcfblldgaaDoor
open Go.RowKit
/-- How many the first i are together. -/
def smN (ls : List Nat) (i : Nat) : Nat := (ls.take i).sum
theorem sm_step {ls : List Nat} {i : Nat} (h : i < ls.length) : smN ls (i + 1) = smN ls i + ls.getD i 0 := by
  rw [smN, smN, List.take_add_one, List.getElem?_eq_getElem h, List.sum_append, List.getD_eq_getElem?_getD, List.getElem?_eq_getElem h]
  simp
theorem sm_le {ls : List Nat} (hls : ∀ i, ls.getD i 0 < 256) : ∀ i, i ≤ ls.length → smN ls i ≤ 255 * i
  | 0, _ => Nat.le_refl _
  | i + 1, h => by
    have := sm_le hls i (by omega)
    have := hls i
    rw [sm_step (by omega)]
    omega
theorem rep_len5 (X : List Nat) : (X ++ List.replicate 5120 0).length = X.length + 5120 := by rw [List.length_append, List.length_replicate]
theorem tak0 (X : List Nat) : takN 0 X = [] := by simp [takN]
theorem tak_app (a b : Nat) (X : List Nat) : takN a X ++ takN b (X.drop a) = takN (a + b) X := by
  refine ext_getD (by simp [takN_len]) fun i hi => ?_
  rw [List.length_append, takN_len, takN_len] at hi
  rw [takN_get X hi]
  rcases Nat.lt_or_ge i a with h | h
  · rw [getD_app_l _ _ _ (by rw [takN_len]; exact h), takN_get X h]
  · rw [getD_app_r _ _ _ (by rw [takN_len]; exact h), takN_len, takN_get _ (by omega), dropD]
    congr 1; omega
theorem tak_pre {a c : Nat} {X : List Nat} (h : a ≤ X.length + c) : ((X ++ List.replicate c 0).take a).drop 0 = takN a X := by
  rw [List.drop_zero]
  refine ext_getD (by simp [takN_len]; omega) fun i hi => ?_
  have hi : i < a := by simp at hi; omega
  rw [takN_get X hi, List.getD_eq_getElem?_getD, List.getElem?_take, if_pos hi, ← List.getD_eq_getElem?_getD]
  rcases Nat.lt_or_ge i X.length with h1 | h1
  · rw [getD_app_l _ _ _ h1]
  · rw [getD_app_r _ _ _ h1, rep_get, getD_out h1]
set_option maxRecDepth 100000 in
theorem ends_neg (O : Blks) (hD : Distinct O) (hT : TabO O) (X : List Nat) (hX : ∀ i, X.getD i 0 < 256) (p : Option Addr) (ls : List Nat) (cp : Nat) (hls : ∀ i, ls.getD i 0 < 256) (hA : RowO O p ls.length (fun j => iB (ls.getD j 0))) (z : Int) (hz : z < 0) (w0 : World) (H : Has w0 O) :
    Calls Tryd.prog 6 #[sB X, .slice p ls.length cp, .int .i64 z] w0 fun e w' => e = .returned (.bool true) ∧ Below w0.heap.size w0 w' := by
  refine enter_fr Tryd.func6 rfl Tryd.ntmps6 (by simp) fun ac (FF : Fr 97 ac [(0, sB X), (1, .slice p ls.length cp), (2, .int .i64 (z : Int))]) => ?_
  have MM : MemS (fun k => k < w0.heap.size ∧ ∀ x ∈ O, x.1 ≠ k) w0 w0 O [] := MemS.startN H hD
  refine wp_seq (rg_seq FF MM [o_] [0, 1, 2, 6] (fun Kt => Kt [(6, .bool false), (0, sB X), (1, .slice p ls.length cp), (2, .int .i64 (z : Int))] O) (by kernel_rfl) (fun _ => by kernel_rfl) (fun ac1 wd1 FF1 MM1 => then_n ?_))
  refine wp_seq ?_
  by_cases h1 : X.length > 1000
  · skip
    refine wp_seq (rg_seq FF1 MM1 [o_, t_ (iN X.length), w_ 2, o_, o_, o_, o_, o_] [6, 0, 1, 2, 19] (fun Kt => iN ((bs X).size) = iN X.length ∧ X.length > 1000 ∧ Kt [(19, .bool true), (6, .bool false), (0, sB X), (1, .slice p ls.length cp), (2, .int .i64 (z : Int))] O) (by kernel_rfl) (fun _ => by kernel_rfl) (⟨(vI (bs_size _)), h1, fun ac2 wd2 FF2 MM2 => then_n ?_⟩))
    refine wp_cond_true (FF2.ev 0 rfl) ?_
    refine wp_seq (rg_seq FF2 MM2 [u_ 1 (.bool true), o_] [6, 0, 1, 2] (fun Kt => CallP Tryd.prog 9 [] O (.bool true) ∧ Kt [(6, .bool true), (0, sB X), (1, .slice p ls.length cp), (2, .int .i64 (z : Int))] O) (by kernel_rfl) (fun _ => by kernel_rfl) (⟨⟨en_wakes, fun w Hw => wakes_w w (hT.at Hw)⟩, fun ac3 wd3 FF3 MM3 => then_n ?_⟩))
    refine wp_ret ?_
    repeat first | refine then_ret ?_ | refine inb_ret ?_
    exact (ret_fr FF3 0 Tryd.results6 rfl ⟨rfl, MM3.belowN H (fun _ hx => hx)⟩)
  · by_cases h2 : ls.length > 20
    · skip
      refine wp_seq (rg_seq FF1 MM1 [o_, t_ (iN X.length), w_ 3, o_, o_, o_, w_ 2, o_] [6, 0, 1, 2, 19] (fun Kt => iN ((bs X).size) = iN X.length ∧ ¬ (X.length > 1000) ∧ ls.length > 20 ∧ Kt [(19, .bool true), (6, .bool false), (0, sB X), (1, .slice p ls.length cp), (2, .int .i64 (z : Int))] O) (by kernel_rfl) (fun _ => by kernel_rfl) (⟨(vI (bs_size _)), h1, h2, fun ac4 wd4 FF4 MM4 => then_n ?_⟩))
      refine wp_cond_true (FF4.ev 0 rfl) ?_
      refine wp_seq (rg_seq FF4 MM4 [u_ 1 (.bool true), o_] [6, 0, 1, 2] (fun Kt => CallP Tryd.prog 9 [] O (.bool true) ∧ Kt [(6, .bool true), (0, sB X), (1, .slice p ls.length cp), (2, .int .i64 (z : Int))] O) (by kernel_rfl) (fun _ => by kernel_rfl) (⟨⟨en_wakes, fun w Hw => wakes_w w (hT.at Hw)⟩, fun ac5 wd5 FF5 MM5 => then_n ?_⟩))
      refine wp_ret ?_
      repeat first | refine then_ret ?_ | refine inb_ret ?_
      exact (ret_fr FF5 0 Tryd.results6 rfl ⟨rfl, MM5.belowN H (fun _ hx => hx)⟩)
    · skip
      refine wp_seq (rg_seq FF1 MM1 [o_, t_ (iN X.length), w_ 3, o_, o_, o_, w_ 3, o_] [6, 0, 1, 2, 19] (fun Kt => iN ((bs X).size) = iN X.length ∧ ¬ (X.length > 1000) ∧ ¬ (ls.length > 20) ∧ Kt [(19, .bool false), (6, .bool false), (0, sB X), (1, .slice p ls.length cp), (2, .int .i64 (z : Int))] O) (by kernel_rfl) (fun _ => by kernel_rfl) (⟨(vI (bs_size _)), h1, h2, fun ac6 wd6 FF6 MM6 => then_n ?_⟩))
      refine wp_cond_false (FF6.ev 0 rfl) ?_
      refine wp_skip ?_
      refine then_n ?_
      refine wp_seq (wp_region_list ?_)
      refine rg_part 1 FF6 MM6 [o_] [6, 0, 1, 2, 21] (fun Kt => Kt [(21, sB X), (6, .bool false), (0, sB X), (1, .slice p ls.length cp), (2, .int .i64 (z : Int))] O) (by kernel_rfl) (fun _ => by kernel_rfl) (fun ac7 wd7 FF7 MM7 => ?_)
      refine st_callE [6, 0, 1, 2, 22] FF7 (d := 22) (mk := fun v => v) en_tnew rfl rfl (tnew_any X _) rfl (by kernel_rfl) (by decide) fun ac9 wd9 lv8 (FF9 : Fr 97 ac9 [(22, lv8), (6, .bool false), (0, sB X), (1, .slice p ls.length cp), (2, .int .i64 (z : Int))]) hr10 => ?_
      obtain ⟨gt, rfl, hB_gt, hf_gt, hb_gt⟩ := hr10
      have MM11 := MM7.keep hB_gt
      have MM12 : MemS (fun k => k < w0.heap.size ∧ ∀ x ∈ O, x.1 ≠ k) w0 wd9 ((gt, oC #[sB X, iN 0] 73) :: O) [] := MM7.addFresh MM11 hb_gt hf_gt
      refine rg_part 1 FF9 MM12 [o_] [6, 0, 1, 2, 7] (fun Kt => Kt [(7, pT gt), (6, .bool false), (0, sB X), (1, .slice p ls.length cp), (2, .int .i64 (z : Int))] ((gt, oC #[sB X, iN 0] 73) :: O)) (by kernel_rfl) (fun _ => by kernel_rfl) (fun ac13 wd13 FF13 MM13 => ?_)
      refine wpl_nil (then_n ?_)
      refine wp_seq (rg_seq FF13 MM13 [t_ (sB (takN (smN ls 0) X))] [7, 6, 0, 1, 2, 8] (fun Kt => sB [] = sB (takN (smN ls 0) X) ∧ Kt [(8, sB (takN (smN ls 0) X)), (7, pT gt), (6, .bool false), (0, sB X), (1, .slice p ls.length cp), (2, .int .i64 (z : Int))] ((gt, oC #[sB X, iN 0] 73) :: O)) (by kernel_rfl) (fun _ => by kernel_rfl) (⟨(vS (tak0 X).symm), fun ac14 wd14 FF14 MM14 => then_n ?_⟩))
      refine wp_seq ?_
      refine wp_seq (rg_seq FF14 MM14 [o_] [8, 7, 6, 0, 1, 2, 9] (fun Kt => Kt [(9, iN 0), (8, sB (takN (smN ls 0) X)), (7, pT gt), (6, .bool false), (0, sB X), (1, .slice p ls.length cp), (2, .int .i64 (z : Int))] ((gt, oC #[sB X, iN 0] 73) :: O)) (by kernel_rfl) (fun _ => by kernel_rfl) (fun ac15 wd15 FF15 MM15 => then_n ?_))
      refine wp_for2 (fun a' w' => ∃ i : Nat, i ≤ ls.length ∧ Fr 97 a' [(9, iN i), (8, sB (takN (smN ls i) X)), (7, pT gt), (0, sB X), (1, .slice p ls.length cp), (2, .int .i64 (z : Int))] ∧ MemS (fun k => k < w0.heap.size ∧ ∀ x ∈ O, x.1 ≠ k) w0 w' ((gt, oC #[sB (X.drop (smN ls i)), iN (smN ls i)] 73) :: O) []) (fun a' _ => (ls.length - cnt 9 a').toNat) ⟨0, Nat.zero_le _, FF15.pick [0, 1, 2, 4, 5, 6], MM15⟩ ?_
      rintro ac16 wd16 ⟨i, hi, FF16, MM16⟩
      have hc := cnt_of (FF16.get 0 rfl)
      refine rg_seq FF16 MM16 [o_, o_, o_, o_] [9, 8, 7, 0, 1, 2, 26] (fun Kt => Kt [(26, .bool (decide (i < ls.length))), (9, iN i), (8, sB (takN (smN ls i) X)), (7, pT gt), (0, sB X), (1, .slice p ls.length cp), (2, .int .i64 (z : Int))] ((gt, oC #[sB (X.drop (smN ls i)), iN (smN ls i)] 73) :: O)) (by kernel_rfl) (fun _ => by kernel_rfl) (fun ac17 wd17 FF17 MM17 => ?_)
      by_cases hlt : i < ls.length
      · skip
        refine then_n (.inl ⟨(FF17.ev 0 rfl).trans (dec_t hlt), ?_⟩)
        have hsi := sm_le hls i hi
        have hst := sm_step hlt
        have hlb := hls i
        refine wp_seq (rg_seq FF17 MM17 [o_, o_, o_, o_, f_ (.pointer (some ⟨gOf p, oOf p + i, none⟩)), f_ (iB (ls.getD i 0)), w_ 1, c_ (sB (takN (ls.getD i 0) (X.drop (smN ls i)))) [(0, oC #[sB (X.drop (smN ls (i + 1))), iN (smN ls (i + 1))] 73)], t_ (sB (takN (smN ls (i + 1)) X)), o_] [9, 8, 7, 0, 1, 2] (fun Kt => RunV Tryd.prog [(32, iN i), (31, .slice p ls.length cp), (30, pT gt), (29, sB (takN (smN ls i) X)), (26, .bool (decide (i < ls.length))), (9, iN i), (8, sB (takN (smN ls i) X)), (7, pT gt), (0, sB X), (1, .slice p ls.length cp), (2, .int .i64 (z : Int))] ((gt, oC #[sB (X.drop (smN ls i)), iN (smN ls i)] 73) :: O) (opAt Tryd.f6 8 4) (.pointer (some ⟨gOf p, oOf p + i, none⟩)) ∧ RunV Tryd.prog [(33, .pointer (some ⟨gOf p, oOf p + i, none⟩)), (32, iN i), (31, .slice p ls.length cp), (30, pT gt), (29, sB (takN (smN ls i) X)), (26, .bool (decide (i < ls.length))), (9, iN i), (8, sB (takN (smN ls i) X)), (7, pT gt), (0, sB X), (1, .slice p ls.length cp), (2, .int .i64 (z : Int))] ((gt, oC #[sB (X.drop (smN ls i)), iN (smN ls i)] 73) :: O) (opAt Tryd.f6 8 5) (iB (ls.getD i 0)) ∧ (ls.getD i 0) < 9223372036854775808 ∧ CallU Tryd.prog 11 [pT gt, iN (ls.getD i 0)] ((gt, oC #[sB (X.drop (smN ls i)), iN (smN ls i)] 73) :: O) (sB (takN (ls.getD i 0) (X.drop (smN ls i)))) [(0, oC #[sB (X.drop (smN ls (i + 1))), iN (smN ls (i + 1))] 73)] ∧ (bs (takN (smN ls i) X)).size + (bs (takN (ls.getD i 0) (X.drop (smN ls i)))).size ≤ 9223372036854775807 ∧ Value.string (bs (takN (smN ls i) X) ++ bs (takN (ls.getD i 0) (X.drop (smN ls i)))) = sB (takN (smN ls (i + 1)) X) ∧ Kt [(8, sB (takN (smN ls (i + 1)) X)), (9, iN i), (7, pT gt), (0, sB X), (1, .slice p ls.length cp), (2, .int .i64 (z : Int))] ((gt, oC #[sB (X.drop (smN ls (i + 1))), iN (smN ls (i + 1))] 73) :: O)) (by kernel_rfl) (fun _ => by kernel_rfl) (⟨(rowX_addr (x := (.tmp 31)) (y := (.tmp 32)) (k := 1) (i := i) (by kernel_rfl) rfl rfl Tryd.underlying63 (by kernel_rfl) hA (by omega) (by omega)), (rowX_load (x := (.tmp 33)) (j := i) (by kernel_rfl) rfl Tryd.underlying5 rfl hA (fun _ hx => List.mem_cons_of_mem _ (hx)) (by omega) rfl), (by have := hls i; omega), (callU_turn en_take (g := gt) (ob := TB (X.drop (smN ls i)) (smN ls i)) rfl fun w hg => by have h0 := take_any gt (ls.getD i 0) (X.drop (smN ls i)) (smN ls i) (dropX_lt hX _) (by omega) (by omega) w hg; rw [List.drop_drop, ← hst] at h0; exact h0), (by simp only [bs_size, takN_len]; omega), (vS2 ((bs_app _ _).trans (congrArg bs ((tak_app _ _ X).trans (by rw [hst]))))), fun ac18 wd18 FF18 MM18 => then_n ?_⟩))
        refine wp_seq ?_
        refine wp_seq (rg_seq FF18 MM18 [o_, w_ 6, o_, o_, o_, t_ (sB []), w_ 3, o_] [8, 9, 7, 0, 1, 2, 45] (fun Kt => z < ((0 : Nat) : Int) ∧ CallP Tryd.prog 11 [pT gt, .int .i64 (z : Int)] [] (sB []) ∧ ¬ (bs [] ≠ bs []) ∧ Kt [(45, .bool false), (8, sB (takN (smN ls (i + 1)) X)), (9, iN i), (7, pT gt), (0, sB X), (1, .slice p ls.length cp), (2, .int .i64 (z : Int))] ((gt, oC #[sB (X.drop (smN ls (i + 1))), iN (smN ls (i + 1))] 73) :: O)) (by kernel_rfl) (fun _ => by kernel_rfl) (⟨(by omega), (callP_of en_take (take_neg gt z hz) _), (fun h => h rfl), fun ac19 wd19 FF19 MM19 => then_n ?_⟩))
        refine wp_cond_false (FF19.ev 0 rfl) ?_
        refine wp_skip ?_
        refine then_n ?_
        refine wp_seq (rg_seq FF19 MM19 [o_, u_ 4 (.bool false), o_, o_, o_, o_, o_, o_] [8, 9, 7, 0, 1, 2, 53] (fun Kt => Value.bool (decide (z > ((65536 : Nat) : Int))) = .bool false ∧ Kt [(53, .bool false), (8, sB (takN (smN ls (i + 1)) X)), (9, iN i), (7, pT gt), (0, sB X), (1, .slice p ls.length cp), (2, .int .i64 (z : Int))] ((gt, oC #[sB (X.drop (smN ls (i + 1))), iN (smN ls (i + 1))] 73) :: O)) (by kernel_rfl) (fun _ => by kernel_rfl) (⟨(dec_f (by omega)), fun ac20 wd20 FF20 MM20 => then_n ?_⟩))
        refine wp_cond_false (FF20.ev 0 rfl) ?_
        refine wp_skip ?_
        refine inb_n (then_n ?_)
        refine rg_seq FF20 MM20 [o_, o_, o_] [8, 9, 7, 0, 1, 2] (fun Kt => i + 1 < 9223372036854775808 ∧ Kt [(9, iN (i + 1)), (8, sB (takN (smN ls (i + 1)) X)), (7, pT gt), (0, sB X), (1, .slice p ls.length cp), (2, .int .i64 (z : Int))] ((gt, oC #[sB (X.drop (smN ls (i + 1))), iN (smN ls (i + 1))] 73) :: O)) (by kernel_rfl) (fun _ => by kernel_rfl) (⟨(by omega), fun ac21 wd21 FF21 MM21 => ?_⟩)
        have hd := cnt_of (FF21.get 0 rfl)
        refine then_n ⟨⟨i + 1, by omega, FF21.pick [0, 1, 2, 3, 4, 5], MM21⟩, ?_⟩
        rw [hc, hd]; omega
      · skip
        refine then_n (.inr ⟨(FF17.ev 0 rfl).trans (dec_f hlt), ?_⟩)
        obtain rfl : i = ls.length := by omega
        have hsn := sm_le hls ls.length (Nat.le_refl _)
        refine then_n ?_
        refine wp_seq (wp_region_list ?_)
        refine rg_part 1 FF17 MM17 [o_] [9, 8, 7, 0, 1, 2, 54] (fun Kt => Kt [(54, sB X), (9, iN ls.length), (8, sB (takN (smN ls ls.length) X)), (7, pT gt), (0, sB X), (1, .slice p ls.length cp), (2, .int .i64 (z : Int))] ((gt, oC #[sB (X.drop (smN ls ls.length)), iN (smN ls ls.length)] 73) :: O)) (by kernel_rfl) (fun _ => by kernel_rfl) (fun ac22 wd22 FF22 MM22 => ?_)
        refine st_callE [9, 8, 7, 0, 1, 2, 55] FF22 (d := 55) (mk := fun v => v) en_tnew rfl rfl (tnew_any X _) rfl (by kernel_rfl) (by decide) fun ac24 wd24 lv23 (FF24 : Fr 97 ac24 [(55, lv23), (9, iN ls.length), (8, sB (takN (smN ls ls.length) X)), (7, pT gt), (0, sB X), (1, .slice p ls.length cp), (2, .int .i64 (z : Int))]) hr25 => ?_
        obtain ⟨gu, rfl, hB_gu, hf_gu, hb_gu⟩ := hr25
        have MM26 := MM22.keep hB_gu
        have MM27 : MemS (fun k => k < w0.heap.size ∧ ∀ x ∈ O, x.1 ≠ k) w0 wd24 ((gu, oC #[sB X, iN 0] 73) :: (gt, oC #[sB (X.drop (smN ls ls.length)), iN (smN ls ls.length)] 73) :: O) [] := MM22.addFresh MM26 hb_gu hf_gu
        refine rg_part 1 FF24 MM27 [o_] [9, 8, 7, 0, 1, 2, 10] (fun Kt => Kt [(10, pT gu), (9, iN ls.length), (8, sB (takN (smN ls ls.length) X)), (7, pT gt), (0, sB X), (1, .slice p ls.length cp), (2, .int .i64 (z : Int))] ((gu, oC #[sB X, iN 0] 73) :: (gt, oC #[sB (X.drop (smN ls ls.length)), iN (smN ls ls.length)] 73) :: O)) (by kernel_rfl) (fun _ => by kernel_rfl) (fun ac28 wd28 FF28 MM28 => ?_)
        refine wpl_nil (then_n ?_)
        refine wp_seq ?_
        refine wp_seq (rg_seq FF28 MM28 [o_, c_ (sB (takN 65536 X)) [(0, oC #[sB (X.drop 65536), iN 65536] 73)], t_ (iN 65536), w_ 3, o_, o_, t_ (sB []), w_ 3, o_, o_, o_, u_ 1 (iN 65536), w_ 3, o_] [9, 8, 7, 0, 1, 2, 69] (fun Kt => CallU Tryd.prog 11 [pT gu, iN 65536] ((gu, oC #[sB X, iN 0] 73) :: (gt, oC #[sB (X.drop (smN ls ls.length)), iN (smN ls ls.length)] 73) :: O) (sB (takN 65536 X)) [(0, oC #[sB (X.drop 65536), iN 65536] 73)] ∧ iN ((bs (takN 65536 X)).size) = iN 65536 ∧ ¬ (65536 ≠ 65536) ∧ CallP Tryd.prog 11 [pT gu, iN 65537] [] (sB []) ∧ ¬ (bs [] ≠ bs []) ∧ CallP Tryd.prog 24 [pT gu] ((gu, oC #[sB (X.drop 65536), iN 65536] 73) :: (gt, oC #[sB (X.drop (smN ls ls.length)), iN (smN ls ls.length)] 73) :: O) (iN 65536) ∧ ¬ (65536 ≠ 65536) ∧ Kt [(69, .bool false), (9, iN ls.length), (8, sB (takN (smN ls ls.length) X)), (7, pT gt), (0, sB X), (1, .slice p ls.length cp), (2, .int .i64 (z : Int))] ((gu, oC #[sB (X.drop 65536), iN 65536] 73) :: (gt, oC #[sB (X.drop (smN ls ls.length)), iN (smN ls ls.length)] 73) :: O)) (by kernel_rfl) (fun _ => by kernel_rfl) (⟨(callU_turn en_take (g := gu) (ob := TB X 0) rfl fun w hg => by have h0 := take_any gu 65536 X 0 hX (by decide) (by decide) w hg; exact h0), (vI ((bs_size _).trans (takN_len _ _))), (by decide), (callP_of en_take (take_big gu ((65537 : Nat) : Int) (by decide)) _), (fun h => h rfl), ⟨en_tused, fun w Hw => tused_any gu (X.drop 65536) 65536 w (Hw 0 _ rfl)⟩, (by decide), fun ac29 wd29 FF29 MM29 => then_n ?_⟩))
        refine wp_cond_false (FF29.ev 0 rfl) ?_
        refine wp_skip ?_
        refine then_n ?_
        refine wp_seq (rg_seq FF29 MM29 [o_, n_ (.slice none 5120 5120) (.cells (cn .u8 (List.replicate 5120 0)) 5), l_ 0 (sB (List.replicate 5120 0)), t_ (sB (X ++ List.replicate 5120 0)), o_] [9, 8, 7, 0, 1, 2, 11] (fun Kt => RunN Tryd.prog [(70, sB X), (69, .bool false), (9, iN ls.length), (8, sB (takN (smN ls ls.length) X)), (7, pT gt), (0, sB X), (1, .slice p ls.length cp), (2, .int .i64 (z : Int))] ((gu, oC #[sB (X.drop 65536), iN 65536] 73) :: (gt, oC #[sB (X.drop (smN ls ls.length)), iN (smN ls ls.length)] 73) :: O) (opAt Tryd.f6 16 1) (mkOf (.slice none 5120 5120)) (.cells (cn .u8 (List.replicate 5120 0)) 5) ∧ ∀ bm, bm = bm ∧ StrAt (cn .u8 (List.replicate 5120 0)) 0 5120 (bs (List.replicate 5120 0)) ∧ (bs X).size + (bs (List.replicate 5120 0)).size ≤ 9223372036854775807 ∧ Value.string (bs X ++ bs (List.replicate 5120 0)) = sB (X ++ List.replicate 5120 0) ∧ Kt [(11, sB (X ++ List.replicate 5120 0)), (9, iN ls.length), (8, sB (takN (smN ls ls.length) X)), (7, pT gt), (0, sB X), (1, .slice p ls.length cp), (2, .int .i64 (z : Int))] ((bm, .cells (cn .u8 (List.replicate 5120 0)) 5) :: (gu, oC #[sB (X.drop 65536), iN 65536] 73) :: (gt, oC #[sB (X.drop (smN ls ls.length)), iN (smN ls ls.length)] 73) :: O)) (by kernel_rfl) (fun _ => by kernel_rfl) (⟨(make_ok (t := 63) (e := 5) (p := (.const (iN 5120))) (q := (.const (iN 5120))) (by kernel_rfl) rfl rfl Tryd.underlying63 (by kernel_rfl) (by decide)), fun bm => ⟨rfl, (str_all (List.length_replicate ..) (rep0_lt)), (by simp only [bs_size, List.length_replicate]; omega), (vS2 (bs_app _ _)), fun ac30 wd30 FF30 MM30 => then_n ?_⟩⟩))
        refine wp_seq (rg_seq FF30 MM30 [o_, t_ (iN (smN ls ls.length)), o_, t_ (iN (X.length + 5120)), w_ 2, o_, o_, o_, o_, t_ (iN (smN ls ls.length)), t_ (sB (takN (smN ls ls.length) X)), w_ 2, o_, o_, o_, u_ 1 (iN (smN ls ls.length)), o_, t_ (iN (smN ls ls.length)), w_ 2, o_, o_, u_ 1 (.bool true), o_, o_] [9, 8, 7, 0, 1, 2, 6] (fun Kt => iN ((bs (takN (smN ls ls.length) X)).size) = iN (smN ls ls.length) ∧ iN ((bs (X ++ List.replicate 5120 0)).size) = iN (X.length + 5120) ∧ (smN ls ls.length) ≤ (X.length + 5120) ∧ iN ((bs (takN (smN ls ls.length) X)).size) = iN (smN ls ls.length) ∧ 0 ≤ (smN ls ls.length) ∧ (smN ls ls.length) ≤ (bs (X ++ List.replicate 5120 0)).size ∧ Value.string ((bs (X ++ List.replicate 5120 0)).extract 0 (smN ls ls.length)) = sB (takN (smN ls ls.length) X) ∧ bs (takN (smN ls ls.length) X) = bs (takN (smN ls ls.length) X) ∧ CallP Tryd.prog 24 [pT gt] ((bm, .cells (cn .u8 (List.replicate 5120 0)) 5) :: (gu, oC #[sB (X.drop 65536), iN 65536] 73) :: (gt, oC #[sB (X.drop (smN ls ls.length)), iN (smN ls ls.length)] 73) :: O) (iN (smN ls ls.length)) ∧ iN ((bs (takN (smN ls ls.length) X)).size) = iN (smN ls ls.length) ∧ (smN ls ls.length) = (smN ls ls.length) ∧ CallP Tryd.prog 9 [] ((bm, .cells (cn .u8 (List.replicate 5120 0)) 5) :: (gu, oC #[sB (X.drop 65536), iN 65536] 73) :: (gt, oC #[sB (X.drop (smN ls ls.length)), iN (smN ls ls.length)] 73) :: O) (.bool true) ∧ Kt [(6, .bool true), (9, iN ls.length), (8, sB (takN (smN ls ls.length) X)), (7, pT gt), (0, sB X), (1, .slice p ls.length cp), (2, .int .i64 (z : Int))] ((bm, .cells (cn .u8 (List.replicate 5120 0)) 5) :: (gu, oC #[sB (X.drop 65536), iN 65536] 73) :: (gt, oC #[sB (X.drop (smN ls ls.length)), iN (smN ls ls.length)] 73) :: O)) (by kernel_rfl) (fun _ => by kernel_rfl) (⟨(vI ((bs_size _).trans (takN_len _ _))), (vI ((bs_size _).trans (rep_len5 X))), (by omega), (vI ((bs_size _).trans (takN_len _ _))), (Nat.zero_le _), (by simp only [bs_size]; have := rep_len5 X; omega), (vS2 ((bs_extract _ _ _).trans (congrArg bs (tak_pre (by omega))))), rfl, ⟨en_tused, fun w Hw => tused_any gt (X.drop (smN ls ls.length)) (smN ls ls.length) w (Hw 2 _ rfl)⟩, (vI ((bs_size _).trans (takN_len _ _))), rfl, ⟨en_wakes, fun w Hw => wakes_w w (hT.at (Has.tl (Has.tl (Has.tl Hw))))⟩, fun ac31 wd31 FF31 MM31 => then_n ?_⟩))
        refine wp_ret ?_
        repeat first | refine then_ret ?_ | refine inb_ret ?_
        exact (ret_fr FF31 0 Tryd.results6 rfl ⟨rfl, MM31.belowN H (fun _ hx => List.mem_cons_of_mem _ (List.mem_cons_of_mem _ (List.mem_cons_of_mem _ (hx))))⟩)
set_option maxRecDepth 100000 in
theorem ends_big (O : Blks) (hD : Distinct O) (hT : TabO O) (X : List Nat) (hX : ∀ i, X.getD i 0 < 256) (p : Option Addr) (ls : List Nat) (cp : Nat) (hls : ∀ i, ls.getD i 0 < 256) (hA : RowO O p ls.length (fun j => iB (ls.getD j 0))) (z : Int) (hz : z > 65536) (w0 : World) (H : Has w0 O) :
    Calls Tryd.prog 6 #[sB X, .slice p ls.length cp, .int .i64 z] w0 fun e w' => e = .returned (.bool true) ∧ Below w0.heap.size w0 w' := by
  refine enter_fr Tryd.func6 rfl Tryd.ntmps6 (by simp) fun ac (FF : Fr 97 ac [(0, sB X), (1, .slice p ls.length cp), (2, .int .i64 (z : Int))]) => ?_
  have MM : MemS (fun k => k < w0.heap.size ∧ ∀ x ∈ O, x.1 ≠ k) w0 w0 O [] := MemS.startN H hD
  refine wp_seq (rg_seq FF MM [o_] [0, 1, 2, 6] (fun Kt => Kt [(6, .bool false), (0, sB X), (1, .slice p ls.length cp), (2, .int .i64 (z : Int))] O) (by kernel_rfl) (fun _ => by kernel_rfl) (fun ac1 wd1 FF1 MM1 => then_n ?_))
  refine wp_seq ?_
  by_cases h1 : X.length > 1000
  · skip
    refine wp_seq (rg_seq FF1 MM1 [o_, t_ (iN X.length), w_ 2, o_, o_, o_, o_, o_] [6, 0, 1, 2, 19] (fun Kt => iN ((bs X).size) = iN X.length ∧ X.length > 1000 ∧ Kt [(19, .bool true), (6, .bool false), (0, sB X), (1, .slice p ls.length cp), (2, .int .i64 (z : Int))] O) (by kernel_rfl) (fun _ => by kernel_rfl) (⟨(vI (bs_size _)), h1, fun ac2 wd2 FF2 MM2 => then_n ?_⟩))
    refine wp_cond_true (FF2.ev 0 rfl) ?_
    refine wp_seq (rg_seq FF2 MM2 [u_ 1 (.bool true), o_] [6, 0, 1, 2] (fun Kt => CallP Tryd.prog 9 [] O (.bool true) ∧ Kt [(6, .bool true), (0, sB X), (1, .slice p ls.length cp), (2, .int .i64 (z : Int))] O) (by kernel_rfl) (fun _ => by kernel_rfl) (⟨⟨en_wakes, fun w Hw => wakes_w w (hT.at Hw)⟩, fun ac3 wd3 FF3 MM3 => then_n ?_⟩))
    refine wp_ret ?_
    repeat first | refine then_ret ?_ | refine inb_ret ?_
    exact (ret_fr FF3 0 Tryd.results6 rfl ⟨rfl, MM3.belowN H (fun _ hx => hx)⟩)
  · by_cases h2 : ls.length > 20
    · skip
      refine wp_seq (rg_seq FF1 MM1 [o_, t_ (iN X.length), w_ 3, o_, o_, o_, w_ 2, o_] [6, 0, 1, 2, 19] (fun Kt => iN ((bs X).size) = iN X.length ∧ ¬ (X.length > 1000) ∧ ls.length > 20 ∧ Kt [(19, .bool true), (6, .bool false), (0, sB X), (1, .slice p ls.length cp), (2, .int .i64 (z : Int))] O) (by kernel_rfl) (fun _ => by kernel_rfl) (⟨(vI (bs_size _)), h1, h2, fun ac4 wd4 FF4 MM4 => then_n ?_⟩))
      refine wp_cond_true (FF4.ev 0 rfl) ?_
      refine wp_seq (rg_seq FF4 MM4 [u_ 1 (.bool true), o_] [6, 0, 1, 2] (fun Kt => CallP Tryd.prog 9 [] O (.bool true) ∧ Kt [(6, .bool true), (0, sB X), (1, .slice p ls.length cp), (2, .int .i64 (z : Int))] O) (by kernel_rfl) (fun _ => by kernel_rfl) (⟨⟨en_wakes, fun w Hw => wakes_w w (hT.at Hw)⟩, fun ac5 wd5 FF5 MM5 => then_n ?_⟩))
      refine wp_ret ?_
      repeat first | refine then_ret ?_ | refine inb_ret ?_
      exact (ret_fr FF5 0 Tryd.results6 rfl ⟨rfl, MM5.belowN H (fun _ hx => hx)⟩)
    · skip
      refine wp_seq (rg_seq FF1 MM1 [o_, t_ (iN X.length), w_ 3, o_, o_, o_, w_ 3, o_] [6, 0, 1, 2, 19] (fun Kt => iN ((bs X).size) = iN X.length ∧ ¬ (X.length > 1000) ∧ ¬ (ls.length > 20) ∧ Kt [(19, .bool false), (6, .bool false), (0, sB X), (1, .slice p ls.length cp), (2, .int .i64 (z : Int))] O) (by kernel_rfl) (fun _ => by kernel_rfl) (⟨(vI (bs_size _)), h1, h2, fun ac6 wd6 FF6 MM6 => then_n ?_⟩))
      refine wp_cond_false (FF6.ev 0 rfl) ?_
      refine wp_skip ?_
      refine then_n ?_
      refine wp_seq (wp_region_list ?_)
      refine rg_part 1 FF6 MM6 [o_] [6, 0, 1, 2, 21] (fun Kt => Kt [(21, sB X), (6, .bool false), (0, sB X), (1, .slice p ls.length cp), (2, .int .i64 (z : Int))] O) (by kernel_rfl) (fun _ => by kernel_rfl) (fun ac7 wd7 FF7 MM7 => ?_)
      refine st_callE [6, 0, 1, 2, 22] FF7 (d := 22) (mk := fun v => v) en_tnew rfl rfl (tnew_any X _) rfl (by kernel_rfl) (by decide) fun ac9 wd9 lv8 (FF9 : Fr 97 ac9 [(22, lv8), (6, .bool false), (0, sB X), (1, .slice p ls.length cp), (2, .int .i64 (z : Int))]) hr10 => ?_
      obtain ⟨gt, rfl, hB_gt, hf_gt, hb_gt⟩ := hr10
      have MM11 := MM7.keep hB_gt
      have MM12 : MemS (fun k => k < w0.heap.size ∧ ∀ x ∈ O, x.1 ≠ k) w0 wd9 ((gt, oC #[sB X, iN 0] 73) :: O) [] := MM7.addFresh MM11 hb_gt hf_gt
      refine rg_part 1 FF9 MM12 [o_] [6, 0, 1, 2, 7] (fun Kt => Kt [(7, pT gt), (6, .bool false), (0, sB X), (1, .slice p ls.length cp), (2, .int .i64 (z : Int))] ((gt, oC #[sB X, iN 0] 73) :: O)) (by kernel_rfl) (fun _ => by kernel_rfl) (fun ac13 wd13 FF13 MM13 => ?_)
      refine wpl_nil (then_n ?_)
      refine wp_seq (rg_seq FF13 MM13 [t_ (sB (takN (smN ls 0) X))] [7, 6, 0, 1, 2, 8] (fun Kt => sB [] = sB (takN (smN ls 0) X) ∧ Kt [(8, sB (takN (smN ls 0) X)), (7, pT gt), (6, .bool false), (0, sB X), (1, .slice p ls.length cp), (2, .int .i64 (z : Int))] ((gt, oC #[sB X, iN 0] 73) :: O)) (by kernel_rfl) (fun _ => by kernel_rfl) (⟨(vS (tak0 X).symm), fun ac14 wd14 FF14 MM14 => then_n ?_⟩))
      refine wp_seq ?_
      refine wp_seq (rg_seq FF14 MM14 [o_] [8, 7, 6, 0, 1, 2, 9] (fun Kt => Kt [(9, iN 0), (8, sB (takN (smN ls 0) X)), (7, pT gt), (6, .bool false), (0, sB X), (1, .slice p ls.length cp), (2, .int .i64 (z : Int))] ((gt, oC #[sB X, iN 0] 73) :: O)) (by kernel_rfl) (fun _ => by kernel_rfl) (fun ac15 wd15 FF15 MM15 => then_n ?_))
      refine wp_for2 (fun a' w' => ∃ i : Nat, i ≤ ls.length ∧ Fr 97 a' [(9, iN i), (8, sB (takN (smN ls i) X)), (7, pT gt), (0, sB X), (1, .slice p ls.length cp), (2, .int .i64 (z : Int))] ∧ MemS (fun k => k < w0.heap.size ∧ ∀ x ∈ O, x.1 ≠ k) w0 w' ((gt, oC #[sB (X.drop (smN ls i)), iN (smN ls i)] 73) :: O) []) (fun a' _ => (ls.length - cnt 9 a').toNat) ⟨0, Nat.zero_le _, FF15.pick [0, 1, 2, 4, 5, 6], MM15⟩ ?_
      rintro ac16 wd16 ⟨i, hi, FF16, MM16⟩
      have hc := cnt_of (FF16.get 0 rfl)
      refine rg_seq FF16 MM16 [o_, o_, o_, o_] [9, 8, 7, 0, 1, 2, 26] (fun Kt => Kt [(26, .bool (decide (i < ls.length))), (9, iN i), (8, sB (takN (smN ls i) X)), (7, pT gt), (0, sB X), (1, .slice p ls.length cp), (2, .int .i64 (z : Int))] ((gt, oC #[sB (X.drop (smN ls i)), iN (smN ls i)] 73) :: O)) (by kernel_rfl) (fun _ => by kernel_rfl) (fun ac17 wd17 FF17 MM17 => ?_)
      by_cases hlt : i < ls.length
      · skip
        refine then_n (.inl ⟨(FF17.ev 0 rfl).trans (dec_t hlt), ?_⟩)
        have hsi := sm_le hls i hi
        have hst := sm_step hlt
        have hlb := hls i
        refine wp_seq (rg_seq FF17 MM17 [o_, o_, o_, o_, f_ (.pointer (some ⟨gOf p, oOf p + i, none⟩)), f_ (iB (ls.getD i 0)), w_ 1, c_ (sB (takN (ls.getD i 0) (X.drop (smN ls i)))) [(0, oC #[sB (X.drop (smN ls (i + 1))), iN (smN ls (i + 1))] 73)], t_ (sB (takN (smN ls (i + 1)) X)), o_] [9, 8, 7, 0, 1, 2] (fun Kt => RunV Tryd.prog [(32, iN i), (31, .slice p ls.length cp), (30, pT gt), (29, sB (takN (smN ls i) X)), (26, .bool (decide (i < ls.length))), (9, iN i), (8, sB (takN (smN ls i) X)), (7, pT gt), (0, sB X), (1, .slice p ls.length cp), (2, .int .i64 (z : Int))] ((gt, oC #[sB (X.drop (smN ls i)), iN (smN ls i)] 73) :: O) (opAt Tryd.f6 8 4) (.pointer (some ⟨gOf p, oOf p + i, none⟩)) ∧ RunV Tryd.prog [(33, .pointer (some ⟨gOf p, oOf p + i, none⟩)), (32, iN i), (31, .slice p ls.length cp), (30, pT gt), (29, sB (takN (smN ls i) X)), (26, .bool (decide (i < ls.length))), (9, iN i), (8, sB (takN (smN ls i) X)), (7, pT gt), (0, sB X), (1, .slice p ls.length cp), (2, .int .i64 (z : Int))] ((gt, oC #[sB (X.drop (smN ls i)), iN (smN ls i)] 73) :: O) (opAt Tryd.f6 8 5) (iB (ls.getD i 0)) ∧ (ls.getD i 0) < 9223372036854775808 ∧ CallU Tryd.prog 11 [pT gt, iN (ls.getD i 0)] ((gt, oC #[sB (X.drop (smN ls i)), iN (smN ls i)] 73) :: O) (sB (takN (ls.getD i 0) (X.drop (smN ls i)))) [(0, oC #[sB (X.drop (smN ls (i + 1))), iN (smN ls (i + 1))] 73)] ∧ (bs (takN (smN ls i) X)).size + (bs (takN (ls.getD i 0) (X.drop (smN ls i)))).size ≤ 9223372036854775807 ∧ Value.string (bs (takN (smN ls i) X) ++ bs (takN (ls.getD i 0) (X.drop (smN ls i)))) = sB (takN (smN ls (i + 1)) X) ∧ Kt [(8, sB (takN (smN ls (i + 1)) X)), (9, iN i), (7, pT gt), (0, sB X), (1, .slice p ls.length cp), (2, .int .i64 (z : Int))] ((gt, oC #[sB (X.drop (smN ls (i + 1))), iN (smN ls (i + 1))] 73) :: O)) (by kernel_rfl) (fun _ => by kernel_rfl) (⟨(rowX_addr (x := (.tmp 31)) (y := (.tmp 32)) (k := 1) (i := i) (by kernel_rfl) rfl rfl Tryd.underlying63 (by kernel_rfl) hA (by omega) (by omega)), (rowX_load (x := (.tmp 33)) (j := i) (by kernel_rfl) rfl Tryd.underlying5 rfl hA (fun _ hx => List.mem_cons_of_mem _ (hx)) (by omega) rfl), (by have := hls i; omega), (callU_turn en_take (g := gt) (ob := TB (X.drop (smN ls i)) (smN ls i)) rfl fun w hg => by have h0 := take_any gt (ls.getD i 0) (X.drop (smN ls i)) (smN ls i) (dropX_lt hX _) (by omega) (by omega) w hg; rw [List.drop_drop, ← hst] at h0; exact h0), (by simp only [bs_size, takN_len]; omega), (vS2 ((bs_app _ _).trans (congrArg bs ((tak_app _ _ X).trans (by rw [hst]))))), fun ac18 wd18 FF18 MM18 => then_n ?_⟩))
        refine wp_seq ?_
        refine wp_seq (rg_seq FF18 MM18 [o_, u_ 4 (.bool false), o_, o_, o_, o_, o_, o_] [8, 9, 7, 0, 1, 2, 45] (fun Kt => Value.bool (decide (z < ((0 : Nat) : Int))) = .bool false ∧ Kt [(45, .bool false), (8, sB (takN (smN ls (i + 1)) X)), (9, iN i), (7, pT gt), (0, sB X), (1, .slice p ls.length cp), (2, .int .i64 (z : Int))] ((gt, oC #[sB (X.drop (smN ls (i + 1))), iN (smN ls (i + 1))] 73) :: O)) (by kernel_rfl) (fun _ => by kernel_rfl) (⟨(dec_f (by omega)), fun ac19 wd19 FF19 MM19 => then_n ?_⟩))
        refine wp_cond_false (FF19.ev 0 rfl) ?_
        refine wp_skip ?_
        refine then_n ?_
        refine wp_seq (rg_seq FF19 MM19 [o_, w_ 6, o_, o_, o_, t_ (sB []), w_ 3, o_] [8, 9, 7, 0, 1, 2, 53] (fun Kt => z > ((65536 : Nat) : Int) ∧ CallP Tryd.prog 11 [pT gt, .int .i64 (z : Int)] [] (sB []) ∧ ¬ (bs [] ≠ bs []) ∧ Kt [(53, .bool false), (8, sB (takN (smN ls (i + 1)) X)), (9, iN i), (7, pT gt), (0, sB X), (1, .slice p ls.length cp), (2, .int .i64 (z : Int))] ((gt, oC #[sB (X.drop (smN ls (i + 1))), iN (smN ls (i + 1))] 73) :: O)) (by kernel_rfl) (fun _ => by kernel_rfl) (⟨(by omega), (callP_of en_take (take_big gt z hz) _), (fun h => h rfl), fun ac20 wd20 FF20 MM20 => then_n ?_⟩))
        refine wp_cond_false (FF20.ev 0 rfl) ?_
        refine wp_skip ?_
        refine inb_n (then_n ?_)
        refine rg_seq FF20 MM20 [o_, o_, o_] [8, 9, 7, 0, 1, 2] (fun Kt => i + 1 < 9223372036854775808 ∧ Kt [(9, iN (i + 1)), (8, sB (takN (smN ls (i + 1)) X)), (7, pT gt), (0, sB X), (1, .slice p ls.length cp), (2, .int .i64 (z : Int))] ((gt, oC #[sB (X.drop (smN ls (i + 1))), iN (smN ls (i + 1))] 73) :: O)) (by kernel_rfl) (fun _ => by kernel_rfl) (⟨(by omega), fun ac21 wd21 FF21 MM21 => ?_⟩)
        have hd := cnt_of (FF21.get 0 rfl)
        refine then_n ⟨⟨i + 1, by omega, FF21.pick [0, 1, 2, 3, 4, 5], MM21⟩, ?_⟩
        rw [hc, hd]; omega
      · skip
        refine then_n (.inr ⟨(FF17.ev 0 rfl).trans (dec_f hlt), ?_⟩)
        obtain rfl : i = ls.length := by omega
        have hsn := sm_le hls ls.length (Nat.le_refl _)
        refine then_n ?_
        refine wp_seq (wp_region_list ?_)
        refine rg_part 1 FF17 MM17 [o_] [9, 8, 7, 0, 1, 2, 54] (fun Kt => Kt [(54, sB X), (9, iN ls.length), (8, sB (takN (smN ls ls.length) X)), (7, pT gt), (0, sB X), (1, .slice p ls.length cp), (2, .int .i64 (z : Int))] ((gt, oC #[sB (X.drop (smN ls ls.length)), iN (smN ls ls.length)] 73) :: O)) (by kernel_rfl) (fun _ => by kernel_rfl) (fun ac22 wd22 FF22 MM22 => ?_)
        refine st_callE [9, 8, 7, 0, 1, 2, 55] FF22 (d := 55) (mk := fun v => v) en_tnew rfl rfl (tnew_any X _) rfl (by kernel_rfl) (by decide) fun ac24 wd24 lv23 (FF24 : Fr 97 ac24 [(55, lv23), (9, iN ls.length), (8, sB (takN (smN ls ls.length) X)), (7, pT gt), (0, sB X), (1, .slice p ls.length cp), (2, .int .i64 (z : Int))]) hr25 => ?_
        obtain ⟨gu, rfl, hB_gu, hf_gu, hb_gu⟩ := hr25
        have MM26 := MM22.keep hB_gu
        have MM27 : MemS (fun k => k < w0.heap.size ∧ ∀ x ∈ O, x.1 ≠ k) w0 wd24 ((gu, oC #[sB X, iN 0] 73) :: (gt, oC #[sB (X.drop (smN ls ls.length)), iN (smN ls ls.length)] 73) :: O) [] := MM22.addFresh MM26 hb_gu hf_gu
        refine rg_part 1 FF24 MM27 [o_] [9, 8, 7, 0, 1, 2, 10] (fun Kt => Kt [(10, pT gu), (9, iN ls.length), (8, sB (takN (smN ls ls.length) X)), (7, pT gt), (0, sB X), (1, .slice p ls.length cp), (2, .int .i64 (z : Int))] ((gu, oC #[sB X, iN 0] 73) :: (gt, oC #[sB (X.drop (smN ls ls.length)), iN (smN ls ls.length)] 73) :: O)) (by kernel_rfl) (fun _ => by kernel_rfl) (fun ac28 wd28 FF28 MM28 => ?_)
        refine wpl_nil (then_n ?_)
        refine wp_seq ?_
        refine wp_seq (rg_seq FF28 MM28 [o_, c_ (sB (takN 65536 X)) [(0, oC #[sB (X.drop 65536), iN 65536] 73)], t_ (iN 65536), w_ 3, o_, o_, t_ (sB []), w_ 3, o_, o_, o_, u_ 1 (iN 65536), w_ 3, o_] [9, 8, 7, 0, 1, 2, 69] (fun Kt => CallU Tryd.prog 11 [pT gu, iN 65536] ((gu, oC #[sB X, iN 0] 73) :: (gt, oC #[sB (X.drop (smN ls ls.length)), iN (smN ls ls.length)] 73) :: O) (sB (takN 65536 X)) [(0, oC #[sB (X.drop 65536), iN 65536] 73)] ∧ iN ((bs (takN 65536 X)).size) = iN 65536 ∧ ¬ (65536 ≠ 65536) ∧ CallP Tryd.prog 11 [pT gu, iN 65537] [] (sB []) ∧ ¬ (bs [] ≠ bs []) ∧ CallP Tryd.prog 24 [pT gu] ((gu, oC #[sB (X.drop 65536), iN 65536] 73) :: (gt, oC #[sB (X.drop (smN ls ls.length)), iN (smN ls ls.length)] 73) :: O) (iN 65536) ∧ ¬ (65536 ≠ 65536) ∧ Kt [(69, .bool false), (9, iN ls.length), (8, sB (takN (smN ls ls.length) X)), (7, pT gt), (0, sB X), (1, .slice p ls.length cp), (2, .int .i64 (z : Int))] ((gu, oC #[sB (X.drop 65536), iN 65536] 73) :: (gt, oC #[sB (X.drop (smN ls ls.length)), iN (smN ls ls.length)] 73) :: O)) (by kernel_rfl) (fun _ => by kernel_rfl) (⟨(callU_turn en_take (g := gu) (ob := TB X 0) rfl fun w hg => by have h0 := take_any gu 65536 X 0 hX (by decide) (by decide) w hg; exact h0), (vI ((bs_size _).trans (takN_len _ _))), (by decide), (callP_of en_take (take_big gu ((65537 : Nat) : Int) (by decide)) _), (fun h => h rfl), ⟨en_tused, fun w Hw => tused_any gu (X.drop 65536) 65536 w (Hw 0 _ rfl)⟩, (by decide), fun ac29 wd29 FF29 MM29 => then_n ?_⟩))
        refine wp_cond_false (FF29.ev 0 rfl) ?_
        refine wp_skip ?_
        refine then_n ?_
        refine wp_seq (rg_seq FF29 MM29 [o_, n_ (.slice none 5120 5120) (.cells (cn .u8 (List.replicate 5120 0)) 5), l_ 0 (sB (List.replicate 5120 0)), t_ (sB (X ++ List.replicate 5120 0)), o_] [9, 8, 7, 0, 1, 2, 11] (fun Kt => RunN Tryd.prog [(70, sB X), (69, .bool false), (9, iN ls.length), (8, sB (takN (smN ls ls.length) X)), (7, pT gt), (0, sB X), (1, .slice p ls.length cp), (2, .int .i64 (z : Int))] ((gu, oC #[sB (X.drop 65536), iN 65536] 73) :: (gt, oC #[sB (X.drop (smN ls ls.length)), iN (smN ls ls.length)] 73) :: O) (opAt Tryd.f6 16 1) (mkOf (.slice none 5120 5120)) (.cells (cn .u8 (List.replicate 5120 0)) 5) ∧ ∀ bm, bm = bm ∧ StrAt (cn .u8 (List.replicate 5120 0)) 0 5120 (bs (List.replicate 5120 0)) ∧ (bs X).size + (bs (List.replicate 5120 0)).size ≤ 9223372036854775807 ∧ Value.string (bs X ++ bs (List.replicate 5120 0)) = sB (X ++ List.replicate 5120 0) ∧ Kt [(11, sB (X ++ List.replicate 5120 0)), (9, iN ls.length), (8, sB (takN (smN ls ls.length) X)), (7, pT gt), (0, sB X), (1, .slice p ls.length cp), (2, .int .i64 (z : Int))] ((bm, .cells (cn .u8 (List.replicate 5120 0)) 5) :: (gu, oC #[sB (X.drop 65536), iN 65536] 73) :: (gt, oC #[sB (X.drop (smN ls ls.length)), iN (smN ls ls.length)] 73) :: O)) (by kernel_rfl) (fun _ => by kernel_rfl) (⟨(make_ok (t := 63) (e := 5) (p := (.const (iN 5120))) (q := (.const (iN 5120))) (by kernel_rfl) rfl rfl Tryd.underlying63 (by kernel_rfl) (by decide)), fun bm => ⟨rfl, (str_all (List.length_replicate ..) (rep0_lt)), (by simp only [bs_size, List.length_replicate]; omega), (vS2 (bs_app _ _)), fun ac30 wd30 FF30 MM30 => then_n ?_⟩⟩))
        refine wp_seq (rg_seq FF30 MM30 [o_, t_ (iN (smN ls ls.length)), o_, t_ (iN (X.length + 5120)), w_ 2, o_, o_, o_, o_, t_ (iN (smN ls ls.length)), t_ (sB (takN (smN ls ls.length) X)), w_ 2, o_, o_, o_, u_ 1 (iN (smN ls ls.length)), o_, t_ (iN (smN ls ls.length)), w_ 2, o_, o_, u_ 1 (.bool true), o_, o_] [9, 8, 7, 0, 1, 2, 6] (fun Kt => iN ((bs (takN (smN ls ls.length) X)).size) = iN (smN ls ls.length) ∧ iN ((bs (X ++ List.replicate 5120 0)).size) = iN (X.length + 5120) ∧ (smN ls ls.length) ≤ (X.length + 5120) ∧ iN ((bs (takN (smN ls ls.length) X)).size) = iN (smN ls ls.length) ∧ 0 ≤ (smN ls ls.length) ∧ (smN ls ls.length) ≤ (bs (X ++ List.replicate 5120 0)).size ∧ Value.string ((bs (X ++ List.replicate 5120 0)).extract 0 (smN ls ls.length)) = sB (takN (smN ls ls.length) X) ∧ bs (takN (smN ls ls.length) X) = bs (takN (smN ls ls.length) X) ∧ CallP Tryd.prog 24 [pT gt] ((bm, .cells (cn .u8 (List.replicate 5120 0)) 5) :: (gu, oC #[sB (X.drop 65536), iN 65536] 73) :: (gt, oC #[sB (X.drop (smN ls ls.length)), iN (smN ls ls.length)] 73) :: O) (iN (smN ls ls.length)) ∧ iN ((bs (takN (smN ls ls.length) X)).size) = iN (smN ls ls.length) ∧ (smN ls ls.length) = (smN ls ls.length) ∧ CallP Tryd.prog 9 [] ((bm, .cells (cn .u8 (List.replicate 5120 0)) 5) :: (gu, oC #[sB (X.drop 65536), iN 65536] 73) :: (gt, oC #[sB (X.drop (smN ls ls.length)), iN (smN ls ls.length)] 73) :: O) (.bool true) ∧ Kt [(6, .bool true), (9, iN ls.length), (8, sB (takN (smN ls ls.length) X)), (7, pT gt), (0, sB X), (1, .slice p ls.length cp), (2, .int .i64 (z : Int))] ((bm, .cells (cn .u8 (List.replicate 5120 0)) 5) :: (gu, oC #[sB (X.drop 65536), iN 65536] 73) :: (gt, oC #[sB (X.drop (smN ls ls.length)), iN (smN ls ls.length)] 73) :: O)) (by kernel_rfl) (fun _ => by kernel_rfl) (⟨(vI ((bs_size _).trans (takN_len _ _))), (vI ((bs_size _).trans (rep_len5 X))), (by omega), (vI ((bs_size _).trans (takN_len _ _))), (Nat.zero_le _), (by simp only [bs_size]; have := rep_len5 X; omega), (vS2 ((bs_extract _ _ _).trans (congrArg bs (tak_pre (by omega))))), rfl, ⟨en_tused, fun w Hw => tused_any gt (X.drop (smN ls ls.length)) (smN ls ls.length) w (Hw 2 _ rfl)⟩, (vI ((bs_size _).trans (takN_len _ _))), rfl, ⟨en_wakes, fun w Hw => wakes_w w (hT.at (Has.tl (Has.tl (Has.tl Hw))))⟩, fun ac31 wd31 FF31 MM31 => then_n ?_⟩))
        refine wp_ret ?_
        repeat first | refine then_ret ?_ | refine inb_ret ?_
        exact (ret_fr FF31 0 Tryd.results6 rfl ⟨rfl, MM31.belowN H (fun _ hx => List.mem_cons_of_mem _ (List.mem_cons_of_mem _ (List.mem_cons_of_mem _ (hx))))⟩)
set_option maxRecDepth 100000 in
theorem ends_mid (O : Blks) (hD : Distinct O) (hT : TabO O) (X : List Nat) (hX : ∀ i, X.getD i 0 < 256) (p : Option Addr) (ls : List Nat) (cp : Nat) (hls : ∀ i, ls.getD i 0 < 256) (hA : RowO O p ls.length (fun j => iB (ls.getD j 0))) (z : Int) (hz : ¬ z < 0) (hz2 : ¬ z > 65536) (w0 : World) (H : Has w0 O) :
    Calls Tryd.prog 6 #[sB X, .slice p ls.length cp, .int .i64 z] w0 fun e w' => e = .returned (.bool true) ∧ Below w0.heap.size w0 w' := by
  refine enter_fr Tryd.func6 rfl Tryd.ntmps6 (by simp) fun ac (FF : Fr 97 ac [(0, sB X), (1, .slice p ls.length cp), (2, .int .i64 (z : Int))]) => ?_
  have MM : MemS (fun k => k < w0.heap.size ∧ ∀ x ∈ O, x.1 ≠ k) w0 w0 O [] := MemS.startN H hD
  refine wp_seq (rg_seq FF MM [o_] [0, 1, 2, 6] (fun Kt => Kt [(6, .bool false), (0, sB X), (1, .slice p ls.length cp), (2, .int .i64 (z : Int))] O) (by kernel_rfl) (fun _ => by kernel_rfl) (fun ac1 wd1 FF1 MM1 => then_n ?_))
  refine wp_seq ?_
  by_cases h1 : X.length > 1000
  · skip
    refine wp_seq (rg_seq FF1 MM1 [o_, t_ (iN X.length), w_ 2, o_, o_, o_, o_, o_] [6, 0, 1, 2, 19] (fun Kt => iN ((bs X).size) = iN X.length ∧ X.length > 1000 ∧ Kt [(19, .bool true), (6, .bool false), (0, sB X), (1, .slice p ls.length cp), (2, .int .i64 (z : Int))] O) (by kernel_rfl) (fun _ => by kernel_rfl) (⟨(vI (bs_size _)), h1, fun ac2 wd2 FF2 MM2 => then_n ?_⟩))
    refine wp_cond_true (FF2.ev 0 rfl) ?_
    refine wp_seq (rg_seq FF2 MM2 [u_ 1 (.bool true), o_] [6, 0, 1, 2] (fun Kt => CallP Tryd.prog 9 [] O (.bool true) ∧ Kt [(6, .bool true), (0, sB X), (1, .slice p ls.length cp), (2, .int .i64 (z : Int))] O) (by kernel_rfl) (fun _ => by kernel_rfl) (⟨⟨en_wakes, fun w Hw => wakes_w w (hT.at Hw)⟩, fun ac3 wd3 FF3 MM3 => then_n ?_⟩))
    refine wp_ret ?_
    repeat first | refine then_ret ?_ | refine inb_ret ?_
    exact (ret_fr FF3 0 Tryd.results6 rfl ⟨rfl, MM3.belowN H (fun _ hx => hx)⟩)
  · by_cases h2 : ls.length > 20
    · skip
      refine wp_seq (rg_seq FF1 MM1 [o_, t_ (iN X.length), w_ 3, o_, o_, o_, w_ 2, o_] [6, 0, 1, 2, 19] (fun Kt => iN ((bs X).size) = iN X.length ∧ ¬ (X.length > 1000) ∧ ls.length > 20 ∧ Kt [(19, .bool true), (6, .bool false), (0, sB X), (1, .slice p ls.length cp), (2, .int .i64 (z : Int))] O) (by kernel_rfl) (fun _ => by kernel_rfl) (⟨(vI (bs_size _)), h1, h2, fun ac4 wd4 FF4 MM4 => then_n ?_⟩))
      refine wp_cond_true (FF4.ev 0 rfl) ?_
      refine wp_seq (rg_seq FF4 MM4 [u_ 1 (.bool true), o_] [6, 0, 1, 2] (fun Kt => CallP Tryd.prog 9 [] O (.bool true) ∧ Kt [(6, .bool true), (0, sB X), (1, .slice p ls.length cp), (2, .int .i64 (z : Int))] O) (by kernel_rfl) (fun _ => by kernel_rfl) (⟨⟨en_wakes, fun w Hw => wakes_w w (hT.at Hw)⟩, fun ac5 wd5 FF5 MM5 => then_n ?_⟩))
      refine wp_ret ?_
      repeat first | refine then_ret ?_ | refine inb_ret ?_
      exact (ret_fr FF5 0 Tryd.results6 rfl ⟨rfl, MM5.belowN H (fun _ hx => hx)⟩)
    · skip
      refine wp_seq (rg_seq FF1 MM1 [o_, t_ (iN X.length), w_ 3, o_, o_, o_, w_ 3, o_] [6, 0, 1, 2, 19] (fun Kt => iN ((bs X).size) = iN X.length ∧ ¬ (X.length > 1000) ∧ ¬ (ls.length > 20) ∧ Kt [(19, .bool false), (6, .bool false), (0, sB X), (1, .slice p ls.length cp), (2, .int .i64 (z : Int))] O) (by kernel_rfl) (fun _ => by kernel_rfl) (⟨(vI (bs_size _)), h1, h2, fun ac6 wd6 FF6 MM6 => then_n ?_⟩))
      refine wp_cond_false (FF6.ev 0 rfl) ?_
      refine wp_skip ?_
      refine then_n ?_
      refine wp_seq (wp_region_list ?_)
      refine rg_part 1 FF6 MM6 [o_] [6, 0, 1, 2, 21] (fun Kt => Kt [(21, sB X), (6, .bool false), (0, sB X), (1, .slice p ls.length cp), (2, .int .i64 (z : Int))] O) (by kernel_rfl) (fun _ => by kernel_rfl) (fun ac7 wd7 FF7 MM7 => ?_)
      refine st_callE [6, 0, 1, 2, 22] FF7 (d := 22) (mk := fun v => v) en_tnew rfl rfl (tnew_any X _) rfl (by kernel_rfl) (by decide) fun ac9 wd9 lv8 (FF9 : Fr 97 ac9 [(22, lv8), (6, .bool false), (0, sB X), (1, .slice p ls.length cp), (2, .int .i64 (z : Int))]) hr10 => ?_
      obtain ⟨gt, rfl, hB_gt, hf_gt, hb_gt⟩ := hr10
      have MM11 := MM7.keep hB_gt
      have MM12 : MemS (fun k => k < w0.heap.size ∧ ∀ x ∈ O, x.1 ≠ k) w0 wd9 ((gt, oC #[sB X, iN 0] 73) :: O) [] := MM7.addFresh MM11 hb_gt hf_gt
      refine rg_part 1 FF9 MM12 [o_] [6, 0, 1, 2, 7] (fun Kt => Kt [(7, pT gt), (6, .bool false), (0, sB X), (1, .slice p ls.length cp), (2, .int .i64 (z : Int))] ((gt, oC #[sB X, iN 0] 73) :: O)) (by kernel_rfl) (fun _ => by kernel_rfl) (fun ac13 wd13 FF13 MM13 => ?_)
      refine wpl_nil (then_n ?_)
      refine wp_seq (rg_seq FF13 MM13 [t_ (sB (takN (smN ls 0) X))] [7, 6, 0, 1, 2, 8] (fun Kt => sB [] = sB (takN (smN ls 0) X) ∧ Kt [(8, sB (takN (smN ls 0) X)), (7, pT gt), (6, .bool false), (0, sB X), (1, .slice p ls.length cp), (2, .int .i64 (z : Int))] ((gt, oC #[sB X, iN 0] 73) :: O)) (by kernel_rfl) (fun _ => by kernel_rfl) (⟨(vS (tak0 X).symm), fun ac14 wd14 FF14 MM14 => then_n ?_⟩))
      refine wp_seq ?_
      refine wp_seq (rg_seq FF14 MM14 [o_] [8, 7, 6, 0, 1, 2, 9] (fun Kt => Kt [(9, iN 0), (8, sB (takN (smN ls 0) X)), (7, pT gt), (6, .bool false), (0, sB X), (1, .slice p ls.length cp), (2, .int .i64 (z : Int))] ((gt, oC #[sB X, iN 0] 73) :: O)) (by kernel_rfl) (fun _ => by kernel_rfl) (fun ac15 wd15 FF15 MM15 => then_n ?_))
      refine wp_for2 (fun a' w' => ∃ i : Nat, i ≤ ls.length ∧ Fr 97 a' [(9, iN i), (8, sB (takN (smN ls i) X)), (7, pT gt), (0, sB X), (1, .slice p ls.length cp), (2, .int .i64 (z : Int))] ∧ MemS (fun k => k < w0.heap.size ∧ ∀ x ∈ O, x.1 ≠ k) w0 w' ((gt, oC #[sB (X.drop (smN ls i)), iN (smN ls i)] 73) :: O) []) (fun a' _ => (ls.length - cnt 9 a').toNat) ⟨0, Nat.zero_le _, FF15.pick [0, 1, 2, 4, 5, 6], MM15⟩ ?_
      rintro ac16 wd16 ⟨i, hi, FF16, MM16⟩
      have hc := cnt_of (FF16.get 0 rfl)
      refine rg_seq FF16 MM16 [o_, o_, o_, o_] [9, 8, 7, 0, 1, 2, 26] (fun Kt => Kt [(26, .bool (decide (i < ls.length))), (9, iN i), (8, sB (takN (smN ls i) X)), (7, pT gt), (0, sB X), (1, .slice p ls.length cp), (2, .int .i64 (z : Int))] ((gt, oC #[sB (X.drop (smN ls i)), iN (smN ls i)] 73) :: O)) (by kernel_rfl) (fun _ => by kernel_rfl) (fun ac17 wd17 FF17 MM17 => ?_)
      by_cases hlt : i < ls.length
      · skip
        refine then_n (.inl ⟨(FF17.ev 0 rfl).trans (dec_t hlt), ?_⟩)
        have hsi := sm_le hls i hi
        have hst := sm_step hlt
        have hlb := hls i
        refine wp_seq (rg_seq FF17 MM17 [o_, o_, o_, o_, f_ (.pointer (some ⟨gOf p, oOf p + i, none⟩)), f_ (iB (ls.getD i 0)), w_ 1, c_ (sB (takN (ls.getD i 0) (X.drop (smN ls i)))) [(0, oC #[sB (X.drop (smN ls (i + 1))), iN (smN ls (i + 1))] 73)], t_ (sB (takN (smN ls (i + 1)) X)), o_] [9, 8, 7, 0, 1, 2] (fun Kt => RunV Tryd.prog [(32, iN i), (31, .slice p ls.length cp), (30, pT gt), (29, sB (takN (smN ls i) X)), (26, .bool (decide (i < ls.length))), (9, iN i), (8, sB (takN (smN ls i) X)), (7, pT gt), (0, sB X), (1, .slice p ls.length cp), (2, .int .i64 (z : Int))] ((gt, oC #[sB (X.drop (smN ls i)), iN (smN ls i)] 73) :: O) (opAt Tryd.f6 8 4) (.pointer (some ⟨gOf p, oOf p + i, none⟩)) ∧ RunV Tryd.prog [(33, .pointer (some ⟨gOf p, oOf p + i, none⟩)), (32, iN i), (31, .slice p ls.length cp), (30, pT gt), (29, sB (takN (smN ls i) X)), (26, .bool (decide (i < ls.length))), (9, iN i), (8, sB (takN (smN ls i) X)), (7, pT gt), (0, sB X), (1, .slice p ls.length cp), (2, .int .i64 (z : Int))] ((gt, oC #[sB (X.drop (smN ls i)), iN (smN ls i)] 73) :: O) (opAt Tryd.f6 8 5) (iB (ls.getD i 0)) ∧ (ls.getD i 0) < 9223372036854775808 ∧ CallU Tryd.prog 11 [pT gt, iN (ls.getD i 0)] ((gt, oC #[sB (X.drop (smN ls i)), iN (smN ls i)] 73) :: O) (sB (takN (ls.getD i 0) (X.drop (smN ls i)))) [(0, oC #[sB (X.drop (smN ls (i + 1))), iN (smN ls (i + 1))] 73)] ∧ (bs (takN (smN ls i) X)).size + (bs (takN (ls.getD i 0) (X.drop (smN ls i)))).size ≤ 9223372036854775807 ∧ Value.string (bs (takN (smN ls i) X) ++ bs (takN (ls.getD i 0) (X.drop (smN ls i)))) = sB (takN (smN ls (i + 1)) X) ∧ Kt [(8, sB (takN (smN ls (i + 1)) X)), (9, iN i), (7, pT gt), (0, sB X), (1, .slice p ls.length cp), (2, .int .i64 (z : Int))] ((gt, oC #[sB (X.drop (smN ls (i + 1))), iN (smN ls (i + 1))] 73) :: O)) (by kernel_rfl) (fun _ => by kernel_rfl) (⟨(rowX_addr (x := (.tmp 31)) (y := (.tmp 32)) (k := 1) (i := i) (by kernel_rfl) rfl rfl Tryd.underlying63 (by kernel_rfl) hA (by omega) (by omega)), (rowX_load (x := (.tmp 33)) (j := i) (by kernel_rfl) rfl Tryd.underlying5 rfl hA (fun _ hx => List.mem_cons_of_mem _ (hx)) (by omega) rfl), (by have := hls i; omega), (callU_turn en_take (g := gt) (ob := TB (X.drop (smN ls i)) (smN ls i)) rfl fun w hg => by have h0 := take_any gt (ls.getD i 0) (X.drop (smN ls i)) (smN ls i) (dropX_lt hX _) (by omega) (by omega) w hg; rw [List.drop_drop, ← hst] at h0; exact h0), (by simp only [bs_size, takN_len]; omega), (vS2 ((bs_app _ _).trans (congrArg bs ((tak_app _ _ X).trans (by rw [hst]))))), fun ac18 wd18 FF18 MM18 => then_n ?_⟩))
        refine wp_seq ?_
        refine wp_seq (rg_seq FF18 MM18 [o_, u_ 4 (.bool false), o_, o_, o_, o_, o_, o_] [8, 9, 7, 0, 1, 2, 45] (fun Kt => Value.bool (decide (z < ((0 : Nat) : Int))) = .bool false ∧ Kt [(45, .bool false), (8, sB (takN (smN ls (i + 1)) X)), (9, iN i), (7, pT gt), (0, sB X), (1, .slice p ls.length cp), (2, .int .i64 (z : Int))] ((gt, oC #[sB (X.drop (smN ls (i + 1))), iN (smN ls (i + 1))] 73) :: O)) (by kernel_rfl) (fun _ => by kernel_rfl) (⟨(dec_f (by omega)), fun ac19 wd19 FF19 MM19 => then_n ?_⟩))
        refine wp_cond_false (FF19.ev 0 rfl) ?_
        refine wp_skip ?_
        refine then_n ?_
        refine wp_seq (rg_seq FF19 MM19 [o_, u_ 4 (.bool false), o_, o_, o_, o_, o_, o_] [8, 9, 7, 0, 1, 2, 53] (fun Kt => Value.bool (decide (z > ((65536 : Nat) : Int))) = .bool false ∧ Kt [(53, .bool false), (8, sB (takN (smN ls (i + 1)) X)), (9, iN i), (7, pT gt), (0, sB X), (1, .slice p ls.length cp), (2, .int .i64 (z : Int))] ((gt, oC #[sB (X.drop (smN ls (i + 1))), iN (smN ls (i + 1))] 73) :: O)) (by kernel_rfl) (fun _ => by kernel_rfl) (⟨(dec_f (by omega)), fun ac20 wd20 FF20 MM20 => then_n ?_⟩))
        refine wp_cond_false (FF20.ev 0 rfl) ?_
        refine wp_skip ?_
        refine inb_n (then_n ?_)
        refine rg_seq FF20 MM20 [o_, o_, o_] [8, 9, 7, 0, 1, 2] (fun Kt => i + 1 < 9223372036854775808 ∧ Kt [(9, iN (i + 1)), (8, sB (takN (smN ls (i + 1)) X)), (7, pT gt), (0, sB X), (1, .slice p ls.length cp), (2, .int .i64 (z : Int))] ((gt, oC #[sB (X.drop (smN ls (i + 1))), iN (smN ls (i + 1))] 73) :: O)) (by kernel_rfl) (fun _ => by kernel_rfl) (⟨(by omega), fun ac21 wd21 FF21 MM21 => ?_⟩)
        have hd := cnt_of (FF21.get 0 rfl)
        refine then_n ⟨⟨i + 1, by omega, FF21.pick [0, 1, 2, 3, 4, 5], MM21⟩, ?_⟩
        rw [hc, hd]; omega
      · skip
        refine then_n (.inr ⟨(FF17.ev 0 rfl).trans (dec_f hlt), ?_⟩)
        obtain rfl : i = ls.length := by omega
        have hsn := sm_le hls ls.length (Nat.le_refl _)
        refine then_n ?_
        refine wp_seq (wp_region_list ?_)
        refine rg_part 1 FF17 MM17 [o_] [9, 8, 7, 0, 1, 2, 54] (fun Kt => Kt [(54, sB X), (9, iN ls.length), (8, sB (takN (smN ls ls.length) X)), (7, pT gt), (0, sB X), (1, .slice p ls.length cp), (2, .int .i64 (z : Int))] ((gt, oC #[sB (X.drop (smN ls ls.length)), iN (smN ls ls.length)] 73) :: O)) (by kernel_rfl) (fun _ => by kernel_rfl) (fun ac22 wd22 FF22 MM22 => ?_)
        refine st_callE [9, 8, 7, 0, 1, 2, 55] FF22 (d := 55) (mk := fun v => v) en_tnew rfl rfl (tnew_any X _) rfl (by kernel_rfl) (by decide) fun ac24 wd24 lv23 (FF24 : Fr 97 ac24 [(55, lv23), (9, iN ls.length), (8, sB (takN (smN ls ls.length) X)), (7, pT gt), (0, sB X), (1, .slice p ls.length cp), (2, .int .i64 (z : Int))]) hr25 => ?_
        obtain ⟨gu, rfl, hB_gu, hf_gu, hb_gu⟩ := hr25
        have MM26 := MM22.keep hB_gu
        have MM27 : MemS (fun k => k < w0.heap.size ∧ ∀ x ∈ O, x.1 ≠ k) w0 wd24 ((gu, oC #[sB X, iN 0] 73) :: (gt, oC #[sB (X.drop (smN ls ls.length)), iN (smN ls ls.length)] 73) :: O) [] := MM22.addFresh MM26 hb_gu hf_gu
        refine rg_part 1 FF24 MM27 [o_] [9, 8, 7, 0, 1, 2, 10] (fun Kt => Kt [(10, pT gu), (9, iN ls.length), (8, sB (takN (smN ls ls.length) X)), (7, pT gt), (0, sB X), (1, .slice p ls.length cp), (2, .int .i64 (z : Int))] ((gu, oC #[sB X, iN 0] 73) :: (gt, oC #[sB (X.drop (smN ls ls.length)), iN (smN ls ls.length)] 73) :: O)) (by kernel_rfl) (fun _ => by kernel_rfl) (fun ac28 wd28 FF28 MM28 => ?_)
        refine wpl_nil (then_n ?_)
        refine wp_seq ?_
        refine wp_seq (rg_seq FF28 MM28 [o_, c_ (sB (takN 65536 X)) [(0, oC #[sB (X.drop 65536), iN 65536] 73)], t_ (iN 65536), w_ 3, o_, o_, t_ (sB []), w_ 3, o_, o_, o_, u_ 1 (iN 65536), w_ 3, o_] [9, 8, 7, 0, 1, 2, 69] (fun Kt => CallU Tryd.prog 11 [pT gu, iN 65536] ((gu, oC #[sB X, iN 0] 73) :: (gt, oC #[sB (X.drop (smN ls ls.length)), iN (smN ls ls.length)] 73) :: O) (sB (takN 65536 X)) [(0, oC #[sB (X.drop 65536), iN 65536] 73)] ∧ iN ((bs (takN 65536 X)).size) = iN 65536 ∧ ¬ (65536 ≠ 65536) ∧ CallP Tryd.prog 11 [pT gu, iN 65537] [] (sB []) ∧ ¬ (bs [] ≠ bs []) ∧ CallP Tryd.prog 24 [pT gu] ((gu, oC #[sB (X.drop 65536), iN 65536] 73) :: (gt, oC #[sB (X.drop (smN ls ls.length)), iN (smN ls ls.length)] 73) :: O) (iN 65536) ∧ ¬ (65536 ≠ 65536) ∧ Kt [(69, .bool false), (9, iN ls.length), (8, sB (takN (smN ls ls.length) X)), (7, pT gt), (0, sB X), (1, .slice p ls.length cp), (2, .int .i64 (z : Int))] ((gu, oC #[sB (X.drop 65536), iN 65536] 73) :: (gt, oC #[sB (X.drop (smN ls ls.length)), iN (smN ls ls.length)] 73) :: O)) (by kernel_rfl) (fun _ => by kernel_rfl) (⟨(callU_turn en_take (g := gu) (ob := TB X 0) rfl fun w hg => by have h0 := take_any gu 65536 X 0 hX (by decide) (by decide) w hg; exact h0), (vI ((bs_size _).trans (takN_len _ _))), (by decide), (callP_of en_take (take_big gu ((65537 : Nat) : Int) (by decide)) _), (fun h => h rfl), ⟨en_tused, fun w Hw => tused_any gu (X.drop 65536) 65536 w (Hw 0 _ rfl)⟩, (by decide), fun ac29 wd29 FF29 MM29 => then_n ?_⟩))
        refine wp_cond_false (FF29.ev 0 rfl) ?_
        refine wp_skip ?_
        refine then_n ?_
        refine wp_seq (rg_seq FF29 MM29 [o_, n_ (.slice none 5120 5120) (.cells (cn .u8 (List.replicate 5120 0)) 5), l_ 0 (sB (List.replicate 5120 0)), t_ (sB (X ++ List.replicate 5120 0)), o_] [9, 8, 7, 0, 1, 2, 11] (fun Kt => RunN Tryd.prog [(70, sB X), (69, .bool false), (9, iN ls.length), (8, sB (takN (smN ls ls.length) X)), (7, pT gt), (0, sB X), (1, .slice p ls.length cp), (2, .int .i64 (z : Int))] ((gu, oC #[sB (X.drop 65536), iN 65536] 73) :: (gt, oC #[sB (X.drop (smN ls ls.length)), iN (smN ls ls.length)] 73) :: O) (opAt Tryd.f6 16 1) (mkOf (.slice none 5120 5120)) (.cells (cn .u8 (List.replicate 5120 0)) 5) ∧ ∀ bm, bm = bm ∧ StrAt (cn .u8 (List.replicate 5120 0)) 0 5120 (bs (List.replicate 5120 0)) ∧ (bs X).size + (bs (List.replicate 5120 0)).size ≤ 9223372036854775807 ∧ Value.string (bs X ++ bs (List.replicate 5120 0)) = sB (X ++ List.replicate 5120 0) ∧ Kt [(11, sB (X ++ List.replicate 5120 0)), (9, iN ls.length), (8, sB (takN (smN ls ls.length) X)), (7, pT gt), (0, sB X), (1, .slice p ls.length cp), (2, .int .i64 (z : Int))] ((bm, .cells (cn .u8 (List.replicate 5120 0)) 5) :: (gu, oC #[sB (X.drop 65536), iN 65536] 73) :: (gt, oC #[sB (X.drop (smN ls ls.length)), iN (smN ls ls.length)] 73) :: O)) (by kernel_rfl) (fun _ => by kernel_rfl) (⟨(make_ok (t := 63) (e := 5) (p := (.const (iN 5120))) (q := (.const (iN 5120))) (by kernel_rfl) rfl rfl Tryd.underlying63 (by kernel_rfl) (by decide)), fun bm => ⟨rfl, (str_all (List.length_replicate ..) (rep0_lt)), (by simp only [bs_size, List.length_replicate]; omega), (vS2 (bs_app _ _)), fun ac30 wd30 FF30 MM30 => then_n ?_⟩⟩))
        refine wp_seq (rg_seq FF30 MM30 [o_, t_ (iN (smN ls ls.length)), o_, t_ (iN (X.length + 5120)), w_ 2, o_, o_, o_, o_, t_ (iN (smN ls ls.length)), t_ (sB (takN (smN ls ls.length) X)), w_ 2, o_, o_, o_, u_ 1 (iN (smN ls ls.length)), o_, t_ (iN (smN ls ls.length)), w_ 2, o_, o_, u_ 1 (.bool true), o_, o_] [9, 8, 7, 0, 1, 2, 6] (fun Kt => iN ((bs (takN (smN ls ls.length) X)).size) = iN (smN ls ls.length) ∧ iN ((bs (X ++ List.replicate 5120 0)).size) = iN (X.length + 5120) ∧ (smN ls ls.length) ≤ (X.length + 5120) ∧ iN ((bs (takN (smN ls ls.length) X)).size) = iN (smN ls ls.length) ∧ 0 ≤ (smN ls ls.length) ∧ (smN ls ls.length) ≤ (bs (X ++ List.replicate 5120 0)).size ∧ Value.string ((bs (X ++ List.replicate 5120 0)).extract 0 (smN ls ls.length)) = sB (takN (smN ls ls.length) X) ∧ bs (takN (smN ls ls.length) X) = bs (takN (smN ls ls.length) X) ∧ CallP Tryd.prog 24 [pT gt] ((bm, .cells (cn .u8 (List.replicate 5120 0)) 5) :: (gu, oC #[sB (X.drop 65536), iN 65536] 73) :: (gt, oC #[sB (X.drop (smN ls ls.length)), iN (smN ls ls.length)] 73) :: O) (iN (smN ls ls.length)) ∧ iN ((bs (takN (smN ls ls.length) X)).size) = iN (smN ls ls.length) ∧ (smN ls ls.length) = (smN ls ls.length) ∧ CallP Tryd.prog 9 [] ((bm, .cells (cn .u8 (List.replicate 5120 0)) 5) :: (gu, oC #[sB (X.drop 65536), iN 65536] 73) :: (gt, oC #[sB (X.drop (smN ls ls.length)), iN (smN ls ls.length)] 73) :: O) (.bool true) ∧ Kt [(6, .bool true), (9, iN ls.length), (8, sB (takN (smN ls ls.length) X)), (7, pT gt), (0, sB X), (1, .slice p ls.length cp), (2, .int .i64 (z : Int))] ((bm, .cells (cn .u8 (List.replicate 5120 0)) 5) :: (gu, oC #[sB (X.drop 65536), iN 65536] 73) :: (gt, oC #[sB (X.drop (smN ls ls.length)), iN (smN ls ls.length)] 73) :: O)) (by kernel_rfl) (fun _ => by kernel_rfl) (⟨(vI ((bs_size _).trans (takN_len _ _))), (vI ((bs_size _).trans (rep_len5 X))), (by omega), (vI ((bs_size _).trans (takN_len _ _))), (Nat.zero_le _), (by simp only [bs_size]; have := rep_len5 X; omega), (vS2 ((bs_extract _ _ _).trans (congrArg bs (tak_pre (by omega))))), rfl, ⟨en_tused, fun w Hw => tused_any gt (X.drop (smN ls ls.length)) (smN ls ls.length) w (Hw 2 _ rfl)⟩, (vI ((bs_size _).trans (takN_len _ _))), rfl, ⟨en_wakes, fun w Hw => wakes_w w (hT.at (Has.tl (Has.tl (Has.tl Hw))))⟩, fun ac31 wd31 FF31 MM31 => then_n ?_⟩))
        refine wp_ret ?_
        repeat first | refine then_ret ?_ | refine inb_ret ?_
        exact (ret_fr FF31 0 Tryd.results6 rfl ⟨rfl, MM31.belowN H (fun _ hx => List.mem_cons_of_mem _ (List.mem_cons_of_mem _ (List.mem_cons_of_mem _ (hx))))⟩)
theorem ends_any (O : Blks) (hD : Distinct O) (hT : TabO O) (X : List Nat) (hX : ∀ i, X.getD i 0 < 256) (p : Option Addr) (ls : List Nat) (cp : Nat) (hls : ∀ i, ls.getD i 0 < 256) (hA : RowO O p ls.length (fun j => iB (ls.getD j 0))) (z : Int) (w0 : World) (H : Has w0 O) : Calls Tryd.prog 6 #[sB X, .slice p ls.length cp, .int .i64 z] w0 fun e w' => e = .returned (.bool true) ∧ Below w0.heap.size w0 w' := by
  by_cases hz : z < 0
  · exact ends_neg O hD hT X hX p ls cp hls hA z hz w0 H
  · by_cases hz2 : z > 65536
    · exact ends_big O hD hT X hX p ls cp hls hA z hz2 w0 H
    · exact ends_mid O hD hT X hX p ls cp hls hA z hz hz2 w0 H
end Go.Proofs.YtdeiodcfblldgaaDoor
namespace Go.Proofs.YtdeiodcfblldgaaDoor
open Go.ChangeShapes Go.WideShapes Go.ChangeAt Go.RowKit
set_option maxRecDepth 100000 in
theorem u8s_param {H : Type} {enc : TypeId × Value → H} {W : World} {r : Reach} {base base' : Nat} {spare : Nat → Bool} {held : Bool} {v : Value} {d : DataW H} {q : List MemPlace} (hv : Value.okWide Tryd.prog W r base 63 v) (h : DataW.Trod enc Tryd.prog W base' spare held 63 v d q) :
    ∃ (p : Option Addr) (ls : List Nat) (c : Nat), v = .slice p ls.length c ∧ (∀ i, ls.getD i 0 < 256) ∧ RowIn W p ls.length (fun j => .int .u8 (ls.getD j 0 : Nat)) := by
  obtain ⟨p, n, c, rfl, h1⟩ := rowX_param Tryd.underlying63 (k := 1) (by kernel_rfl) (by decide) hv h
  rcases h1 with rfl | ⟨b, off, cs, T, fr, h2, h3, h4⟩
  · exact ⟨p, [], c, rfl, fun i => by simp, .inl rfl⟩
  · have key : ∀ j, ∃ x : Nat, x < 256 ∧ (j < n → cs[off + j]? = some (.int .u8 (x : Nat))) := fun j => by
      by_cases hj : j < n
      · obtain ⟨X, x, fuel, q1, q2, q3⟩ := h4 j hj
        obtain ⟨z, e, _, wz⟩ := DataW.trod_int Tryd.underlying5 q3
        have bz := bounds_u8 wz
        obtain ⟨m, rfl⟩ := Int.eq_ofNat_of_zero_le bz.1
        have h5 := q2 0 (by decide)
        rw [Nat.mul_one, Nat.add_zero, e] at h5
        exact ⟨m, by have := bz.2; omega, fun _ => by simpa [Value.cells] using h5⟩
      · exact ⟨0, by decide, fun h => (hj h).elim⟩
    obtain ⟨f, hf⟩ := Classical.axiomOfChoice key
    have hl : ((List.range n).map f).length = n := by simp
    have hg : ∀ j, j < n → ((List.range n).map f).getD j 0 = f j := fun j hj => by simp [hj]
    refine ⟨p, (List.range n).map f, c, by rw [hl], fun i => ?_, .inr ⟨b, off, cs, T, fr, h2, h3, fun j hj => ?_⟩⟩
    · rcases Nat.lt_or_ge i n with hi | hi
      · rw [hg i hi]; exact (hf i).1
      · rw [List.getD_eq_getElem?_getD, List.getElem?_eq_none (by rw [hl]; exact hi)]; decide
    · rw [hl] at hj
      show cs[off + j]? = some (.int .u8 (((List.range n).map f).getD j 0 : Nat))
      rw [hg j hj]
      exact (hf j).2 hj
end Go.Proofs.YtdeiodcfblldgaaDoor
namespace Go.Proofs.YtdeiodcfblldgaaDoor
open Go.RowKit
def pw10 : List Nat := [1, 10, 100, 1000, 10000, 100000, 1000000, 10000000, 100000000, 1000000000, 10000000000, 100000000000, 1000000000000, 10000000000000, 100000000000000, 1000000000000000, 10000000000000000, 100000000000000000, 1000000000000000000, 10000000000000000000]
theorem pw10_at : ∀ i : Fin 20, pw10[i.val]? = some (10 ^ i.val) := by decide +kernel
theorem tab_in {w : World} {T : TypeId} {fr : Nat × Nat} (h : w.heap[2]? = some (.cells (cn .u64 pw10) T fr)) : TabIn w := .inr ⟨2, _, T, fr, rfl, h, fun j hj => by
  have := pw10_at ⟨j, hj⟩
  simp [cn, this]⟩
end Go.Proofs.YtdeiodcfblldgaaDoor
namespace Go.Proofs.YtdeiodcfblldgaaDoor
open Go.RowKit
theorem laid_mem {P : Program} {W : World} : ∀ (laid : List (String × DataW Unit)) (ps : List MemPlace), DataW.LaidVars P W laid ps → ∀ x ∈ laid, ∃ g t cs fuel p, P.globalNamed x.1 = some g ∧ (P.globals[g]?).map (·.type) = some t ∧ W.var? P x.1 = some cs ∧ DataW.trod (fun _ => ()) P W 0 (fun _ => true) false fuel t cs.toList = some (x.2, p)
  | [], _, _, _, hx => by cases hx
  | (n, d) :: r, ps, h, x, hx => by
    obtain ⟨g, t, cs, fuel, p, q, h1, h2, h3, h4, h5, _⟩ := h
    rcases List.mem_cons.1 hx with rfl | hx
    · exact ⟨g, t, cs, fuel, p, h1, h2, h3, h4⟩
    · exact laid_mem r q h5 x hx
/-- A table of numbers that is laid lies in its block. -/
theorem tab_of {P : Program} {W : World} {laid : List (String × DataW Unit)} {n : String} {D : DataW Unit} {g : Nat} {t e : TypeId} {m : Nat} {k : IntKind} {K : List Nat} (h : laidMetH P laid W) (hH : (laid.all fun x => x.2.handleName?.isNone) = true) (hx : (n, D) ∈ laid)
    (hg : P.globalNamed n = some g) (ht : (P.globals[g]?).map (·.type) = some t) (hu : P.underlying t = some (.array m e)) (he : P.underlying e = some (.int k)) (hc : P.cellsOf e = 1) (hct : P.cellsOf t = m) (hD : D = .agg (K.map fun (x : Nat) => .lit (.int k (x : Int)))) (hK : K.length = m) :
    ∃ T fr, W.heap[g]? = some (.cells (cn k K) T fr) := by
  rw [MakeChecks.laidMetH_plain _ _ _ hH] at h
  obtain ⟨ps, hl, _⟩ := h
  obtain ⟨g', t', cs, fuel, p, h1, h2, h3, h4⟩ := laid_mem laid ps hl _ hx
  obtain rfl := Option.some.inj (hg.symm.trans h1)
  obtain rfl := Option.some.inj (ht.symm.trans h2)
  have hb : ∃ T fr, W.heap[g]? = some (.cells cs T fr) := by
    simp only [World.var?, hg, Option.bind_some] at h3
    split at h3
    · rename_i c T fr hb
      cases h3
      exact ⟨T, fr, hb⟩
    · cases h3
  obtain ⟨T, fr, hb⟩ := hb
  refine ⟨T, fr, ?_⟩
  rw [hb]
  obtain ⟨xs, m1, _, hx1, hlen, hn, hel⟩ := DataW.trod_array hu h4
  have hx2 : D = .agg (xs.map fun x => x.1) := (Prod.mk.inj hx1).1
  rw [hD] at hx2
  have hx3 : (K.map fun (x : Nat) => (DataW.lit (.int k (x : Int)) : DataW Unit)) = xs.map fun x => x.1 := by injection hx2
  have hcs : cs = cn k K := by
    refine Array.ext_getElem? fun i => ?_
    rcases Nat.lt_or_ge i m with hi | hi
    · have e1 := hel i hi
      have e2 : xs[i]? = some (xs[i]'(by omega)) := by simp
      rw [e2, hc] at e1
      obtain ⟨z, e3, e4, _⟩ := DataW.trod_int he e1
      have e5 := congrArg (fun l => l[i]?) hx3
      simp only [List.getElem?_map, e2, e4, List.getElem?_eq_getElem (show i < K.length by omega), Option.map_some, Option.some.injEq, DataW.lit.injEq, Lit.int.injEq] at e5
      have e6 := congrArg (fun l => l[0]?) e3
      rw [Nat.mul_one] at e6
      have e7 : cs[i]? = some (.int k z) := by simpa using e6
      rw [e7, cn_get k K i (by omega), ← e5.2]
      simp [show i < K.length by omega]
    · rw [Array.getElem?_eq_none (by rw [← Array.length_toList, hlen, hct]; exact hi), Array.getElem?_eq_none (by rw [cn_size, hK]; exact hi)]
  rw [hcs]
end Go.Proofs.YtdeiodcfblldgaaDoor
