/- Several texts in one: The library: a row of noughts as a text. Package nat: rows trimmed, numbers of a word, of bytes. Package nat: what a number is, which is less. Rows of words that a walk owns: as cells, as blocks; sums and differences of words. Sums of words. No program in this text. Package nat: sums. Package nat: sums of rows of numbers. Products of words. No program in this text. -/
import Derived.Test.YtlljedijldkcbaaDoorZ3
import Derived.Shelf.Spec.BitsCarry
namespace Go.Proofs.YtlljedijldkcbaaDoor
open Go.RowKit
def zs64 : List Nat := List.replicate 64 48
def sp128 : List Nat := List.replicate 128 32
def ds128 : List Nat := List.replicate 128 45
theorem zs_take {k : Nat} (h : k ≤ 19) : (zs64.take k).drop 0 = List.replicate k 48 := by rw [List.drop_zero, zs64, List.take_replicate, Nat.min_eq_left (by omega)]
theorem rep48_lt (k : Nat) : ∀ i, (List.replicate k 48).getD i 0 < 256 := fun i => by rw [List.getD_eq_getElem?_getD, List.getElem?_replicate]; split <;> decide
theorem bs_ne {A B : List Nat} (h : (bs A).data ≠ (bs B).data) : ¬ bs A = bs B := fun e => h (by rw [e])
set_option maxRecDepth 100000 in
theorem lhasp_zs64  (w0 : World) :
    Calls Tryd.prog 94 #[sB zs64, sB [48]] w0 fun e w' => e = .returned (.bool true) ∧ Below w0.heap.size w0 w' := by
  refine enter_fr Tryd.func94 rfl Tryd.ntmps94 (by simp) fun ac (FF : Fr 18 ac [(0, sB zs64), (1, sB [48])]) => ?_
  have MM := MemS.start w0
  refine wp_seq (rg_seq FF MM [o_] [0, 1, 4] (fun Kt => Kt [(4, .bool false), (0, sB zs64), (1, sB [48])] []) (by kernel_rfl) (fun _ => by kernel_rfl) (fun ac1 wd1 FF1 MM1 => then_n ?_))
  refine wp_seq (rg_seq FF1 MM1 [o_, t_ (iN 64), o_, t_ (iN 1), w_ 2, o_, o_, o_, t_ (iN 1), t_ (sB [48]), o_, w_ 2, o_, o_] [4] (fun Kt => iN ((bs zs64).size) = iN 64 ∧ iN ((bs [48]).size) = iN 1 ∧ 64 ≥ 1 ∧ iN ((bs [48]).size) = iN 1 ∧ 0 ≤ 1 ∧ 1 ≤ (bs zs64).size ∧ Value.string ((bs zs64).extract 0 1) = sB [48] ∧ bs [48] = bs [48] ∧ Kt [(4, .bool true)] []) (by kernel_rfl) (fun _ => by kernel_rfl) (⟨(vI ((bs_size _).trans rfl)), (vI ((bs_size _).trans rfl)), (by decide), (vI ((bs_size _).trans rfl)), (Nat.zero_le _), (by rw [bs_size, show zs64.length = 64 from (by kernel_rfl)]; omega), (vS2 ((bs_extract _ _ _).trans (congrArg bs (by kernel_rfl)))), rfl, fun ac2 wd2 FF2 MM2 => then_n ?_⟩))
  refine wp_ret ?_
  repeat first | refine then_ret ?_ | refine inb_ret ?_
  exact (ret_fr FF2 0 Tryd.results94 rfl ⟨rfl, MM2.below⟩)
set_option maxRecDepth 100000 in
theorem lhasp_sp128  (w0 : World) :
    Calls Tryd.prog 94 #[sB sp128, sB [48]] w0 fun e w' => e = .returned (.bool false) ∧ Below w0.heap.size w0 w' := by
  refine enter_fr Tryd.func94 rfl Tryd.ntmps94 (by simp) fun ac (FF : Fr 18 ac [(0, sB sp128), (1, sB [48])]) => ?_
  have MM := MemS.start w0
  refine wp_seq (rg_seq FF MM [o_] [0, 1, 4] (fun Kt => Kt [(4, .bool false), (0, sB sp128), (1, sB [48])] []) (by kernel_rfl) (fun _ => by kernel_rfl) (fun ac1 wd1 FF1 MM1 => then_n ?_))
  refine wp_seq (rg_seq FF1 MM1 [o_, t_ (iN 128), o_, t_ (iN 1), w_ 2, o_, o_, o_, t_ (iN 1), t_ (sB [32]), o_, w_ 3, o_, o_] [4] (fun Kt => iN ((bs sp128).size) = iN 128 ∧ iN ((bs [48]).size) = iN 1 ∧ 128 ≥ 1 ∧ iN ((bs [48]).size) = iN 1 ∧ 0 ≤ 1 ∧ 1 ≤ (bs sp128).size ∧ Value.string ((bs sp128).extract 0 1) = sB [32] ∧ ¬ (bs [32] = bs [48]) ∧ Kt [(4, .bool false)] []) (by kernel_rfl) (fun _ => by kernel_rfl) (⟨(vI ((bs_size _).trans rfl)), (vI ((bs_size _).trans rfl)), (by decide), (vI ((bs_size _).trans rfl)), (Nat.zero_le _), (by rw [bs_size, show sp128.length = 128 from (by kernel_rfl)]; omega), (vS2 ((bs_extract _ _ _).trans (congrArg bs (by kernel_rfl)))), (bs_ne (by decide)), fun ac2 wd2 FF2 MM2 => then_n ?_⟩))
  refine wp_ret ?_
  repeat first | refine then_ret ?_ | refine inb_ret ?_
  exact (ret_fr FF2 0 Tryd.results94 rfl ⟨rfl, MM2.below⟩)
set_option maxRecDepth 100000 in
theorem lhasp_ds128  (w0 : World) :
    Calls Tryd.prog 94 #[sB ds128, sB [48]] w0 fun e w' => e = .returned (.bool false) ∧ Below w0.heap.size w0 w' := by
  refine enter_fr Tryd.func94 rfl Tryd.ntmps94 (by simp) fun ac (FF : Fr 18 ac [(0, sB ds128), (1, sB [48])]) => ?_
  have MM := MemS.start w0
  refine wp_seq (rg_seq FF MM [o_] [0, 1, 4] (fun Kt => Kt [(4, .bool false), (0, sB ds128), (1, sB [48])] []) (by kernel_rfl) (fun _ => by kernel_rfl) (fun ac1 wd1 FF1 MM1 => then_n ?_))
  refine wp_seq (rg_seq FF1 MM1 [o_, t_ (iN 128), o_, t_ (iN 1), w_ 2, o_, o_, o_, t_ (iN 1), t_ (sB [45]), o_, w_ 3, o_, o_] [4] (fun Kt => iN ((bs ds128).size) = iN 128 ∧ iN ((bs [48]).size) = iN 1 ∧ 128 ≥ 1 ∧ iN ((bs [48]).size) = iN 1 ∧ 0 ≤ 1 ∧ 1 ≤ (bs ds128).size ∧ Value.string ((bs ds128).extract 0 1) = sB [45] ∧ ¬ (bs [45] = bs [48]) ∧ Kt [(4, .bool false)] []) (by kernel_rfl) (fun _ => by kernel_rfl) (⟨(vI ((bs_size _).trans rfl)), (vI ((bs_size _).trans rfl)), (by decide), (vI ((bs_size _).trans rfl)), (Nat.zero_le _), (by rw [bs_size, show ds128.length = 128 from (by kernel_rfl)]; omega), (vS2 ((bs_extract _ _ _).trans (congrArg bs (by kernel_rfl)))), (bs_ne (by decide)), fun ac2 wd2 FF2 MM2 => then_n ?_⟩))
  refine wp_ret ?_
  repeat first | refine then_ret ?_ | refine inb_ret ?_
  exact (ret_fr FF2 0 Tryd.results94 rfl ⟨rfl, MM2.below⟩)
set_option maxRecDepth 100000 in
theorem hasp_zs64  (w0 : World) :
    Calls Tryd.prog 83 #[sB zs64, sB [48]] w0 fun e w' => e = .returned (.bool true) ∧ Below w0.heap.size w0 w' := by
  refine enter_fr Tryd.func83 rfl Tryd.ntmps83 (by simp) fun ac (FF : Fr 8 ac [(0, sB zs64), (1, sB [48])]) => ?_
  have MM := MemS.start w0
  refine wp_seq (rg_seq FF MM [o_] [0, 1, 4] (fun Kt => Kt [(4, .bool false), (0, sB zs64), (1, sB [48])] []) (by kernel_rfl) (fun _ => by kernel_rfl) (fun ac1 wd1 FF1 MM1 => then_n ?_))
  refine wp_seq (rg_seq FF1 MM1 [o_, o_, t_ (.bool true), o_] [4] (fun Kt => CallP Tryd.prog 94 [sB zs64, sB [48]] [] (.bool true) ∧ Kt [(4, .bool true)] []) (by kernel_rfl) (fun _ => by kernel_rfl) (⟨(callP_of en_lhasp lhasp_zs64 _), fun ac2 wd2 FF2 MM2 => then_n ?_⟩))
  refine wp_ret ?_
  repeat first | refine then_ret ?_ | refine inb_ret ?_
  exact (ret_fr FF2 0 Tryd.results83 rfl ⟨rfl, MM2.below⟩)
set_option maxRecDepth 100000 in
theorem hasp_sp128  (w0 : World) :
    Calls Tryd.prog 83 #[sB sp128, sB [48]] w0 fun e w' => e = .returned (.bool false) ∧ Below w0.heap.size w0 w' := by
  refine enter_fr Tryd.func83 rfl Tryd.ntmps83 (by simp) fun ac (FF : Fr 8 ac [(0, sB sp128), (1, sB [48])]) => ?_
  have MM := MemS.start w0
  refine wp_seq (rg_seq FF MM [o_] [0, 1, 4] (fun Kt => Kt [(4, .bool false), (0, sB sp128), (1, sB [48])] []) (by kernel_rfl) (fun _ => by kernel_rfl) (fun ac1 wd1 FF1 MM1 => then_n ?_))
  refine wp_seq (rg_seq FF1 MM1 [o_, o_, t_ (.bool false), o_] [4] (fun Kt => CallP Tryd.prog 94 [sB sp128, sB [48]] [] (.bool false) ∧ Kt [(4, .bool false)] []) (by kernel_rfl) (fun _ => by kernel_rfl) (⟨(callP_of en_lhasp lhasp_sp128 _), fun ac2 wd2 FF2 MM2 => then_n ?_⟩))
  refine wp_ret ?_
  repeat first | refine then_ret ?_ | refine inb_ret ?_
  exact (ret_fr FF2 0 Tryd.results83 rfl ⟨rfl, MM2.below⟩)
set_option maxRecDepth 100000 in
theorem hasp_ds128  (w0 : World) :
    Calls Tryd.prog 83 #[sB ds128, sB [48]] w0 fun e w' => e = .returned (.bool false) ∧ Below w0.heap.size w0 w' := by
  refine enter_fr Tryd.func83 rfl Tryd.ntmps83 (by simp) fun ac (FF : Fr 8 ac [(0, sB ds128), (1, sB [48])]) => ?_
  have MM := MemS.start w0
  refine wp_seq (rg_seq FF MM [o_] [0, 1, 4] (fun Kt => Kt [(4, .bool false), (0, sB ds128), (1, sB [48])] []) (by kernel_rfl) (fun _ => by kernel_rfl) (fun ac1 wd1 FF1 MM1 => then_n ?_))
  refine wp_seq (rg_seq FF1 MM1 [o_, o_, t_ (.bool false), o_] [4] (fun Kt => CallP Tryd.prog 94 [sB ds128, sB [48]] [] (.bool false) ∧ Kt [(4, .bool false)] []) (by kernel_rfl) (fun _ => by kernel_rfl) (⟨(callP_of en_lhasp lhasp_ds128 _), fun ac2 wd2 FF2 MM2 => then_n ?_⟩))
  refine wp_ret ?_
  repeat first | refine then_ret ?_ | refine inb_ret ?_
  exact (ret_fr FF2 0 Tryd.results83 rfl ⟨rfl, MM2.below⟩)
set_option maxRecDepth 100000 in
theorem repeat_any (k : Nat) (hk : k ≤ 19) (w0 : World) :
    Calls Tryd.prog 74 #[sB [48], iN k] w0 fun e w' => e = .returned (sB (List.replicate k 48)) ∧ Below w0.heap.size w0 w' := by
  refine enter_fr Tryd.func74 rfl Tryd.ntmps74 (by simp) fun ac (FF : Fr 125 ac [(0, sB [48]), (1, iN k)]) => ?_
  have MM := MemS.start w0
  refine wp_seq (rg_seq FF MM [o_] [0, 1, 4] (fun Kt => Kt [(4, sB []), (0, sB [48]), (1, iN k)] []) (by kernel_rfl) (fun _ => by kernel_rfl) (fun ac1 wd1 FF1 MM1 => then_n ?_))
  refine wp_seq ?_
  refine wp_seq (rg_seq FF1 MM1 [o_] [4, 0, 1, 11] (fun Kt => Kt [(11, iN k), (4, sB []), (0, sB [48]), (1, iN k)] []) (by kernel_rfl) (fun _ => by kernel_rfl) (fun ac2 wd2 FF2 MM2 => then_n ?_))
  refine wp_block ?_
  refine wp_seq (rg_seq FF2 MM2 [o_, o_] [11, 4, 0, 1, 12] (fun Kt => Kt [(12, .bool (decide (k = 0))), (11, iN k), (4, sB []), (0, sB [48]), (1, iN k)] []) (by kernel_rfl) (fun _ => by kernel_rfl) (fun ac3 wd3 FF3 MM3 => then_n ?_))
  by_cases hs12 : k = 0
  · refine wp_cond_true ((FF3.ev 0 rfl).trans (dec_t hs12)) ?_
    refine wp_seq (rg_seq FF3 MM3 [t_ (sB (List.replicate k 48))] [11, 4, 0, 1] (fun Kt => sB [] = sB (List.replicate k 48) ∧ Kt [(4, sB (List.replicate k 48)), (11, iN k), (0, sB [48]), (1, iN k)] []) (by kernel_rfl) (fun _ => by kernel_rfl) (⟨(vS (by rw [hs12]; rfl)), fun ac4 wd4 FF4 MM4 => then_n ?_⟩))
    refine wp_ret ?_
    repeat first | refine then_ret ?_ | refine inb_ret ?_
    exact (ret_fr FF4 0 Tryd.results74 rfl ⟨rfl, MM4.below⟩)
  · refine wp_cond_false ((FF3.ev 0 rfl).trans (dec_f hs12)) ?_
    refine wp_seq (rg_seq FF3 MM3 [o_, o_] [11, 4, 0, 1, 14] (fun Kt => Kt [(14, .bool (decide (k = 1))), (11, iN k), (4, sB []), (0, sB [48]), (1, iN k)] []) (by kernel_rfl) (fun _ => by kernel_rfl) (fun ac5 wd5 FF5 MM5 => then_n ?_))
    by_cases hs14 : k = 1
    · refine wp_cond_true ((FF5.ev 0 rfl).trans (dec_t hs14)) ?_
      refine wp_seq (rg_seq FF5 MM5 [o_, t_ (sB (List.replicate k 48))] [11, 4, 0, 1] (fun Kt => sB [48] = sB (List.replicate k 48) ∧ Kt [(4, sB (List.replicate k 48)), (11, iN k), (0, sB [48]), (1, iN k)] []) (by kernel_rfl) (fun _ => by kernel_rfl) (⟨(vS (by rw [hs14]; rfl)), fun ac6 wd6 FF6 MM6 => then_n ?_⟩))
      refine wp_ret ?_
      repeat first | refine then_ret ?_ | refine inb_ret ?_
      exact (ret_fr FF6 0 Tryd.results74 rfl ⟨rfl, MM6.below⟩)
    · refine wp_cond_false ((FF5.ev 0 rfl).trans (dec_f hs14)) ?_
      refine wp_skip ?_
      refine inb_n ?_
      refine then_n ?_
      refine wp_seq ?_
      refine wp_seq (rg_seq FF5 MM5 [o_, w_ 3] [11, 4, 0, 1, 18] (fun Kt => ¬ (k < 0) ∧ Kt [(18, .bool false), (11, iN k), (4, sB []), (0, sB [48]), (1, iN k)] []) (by kernel_rfl) (fun _ => by kernel_rfl) (⟨(by omega), fun ac7 wd7 FF7 MM7 => then_n ?_⟩))
      refine wp_cond_false (FF7.ev 0 rfl) ?_
      refine wp_skip ?_
      refine then_n ?_
      refine wp_seq (rg_seq FF7 MM7 [o_, t_ (iN 1), o_, o_, w_ 1, t_ (.tuple #[iW (1 * k / 18446744073709551616), iW (1 * k % 18446744073709551616)]), o_, t_ (iW 0), t_ (iW k), o_, o_] [11, 4, 0, 1, 5, 6] (fun Kt => iN ((bs [48]).size) = iN 1 ∧ k < 18446744073709551616 ∧ CallP Tryd.prog 82 [iW 1, iW k] [] (.tuple #[iW (1 * k / 18446744073709551616), iW (1 * k % 18446744073709551616)]) ∧ iW (1 * k / 18446744073709551616) = iW 0 ∧ iW (1 * k % 18446744073709551616) = iW k ∧ Kt [(6, iW k), (5, iW 0), (11, iN k), (4, sB []), (0, sB [48]), (1, iN k)] []) (by kernel_rfl) (fun _ => by kernel_rfl) (⟨(vI ((bs_size _).trans rfl)), (by have := hk; omega), (callP_of en_bmul (bmul_any 1 k (by decide) (by omega)) _), (vI (by omega)), (vI (by omega)), fun ac8 wd8 FF8 MM8 => then_n ?_⟩))
      refine wp_seq ?_
      refine wp_seq (rg_seq FF8 MM8 [o_, w_ 3, o_, o_, w_ 3, o_] [6, 11, 4, 0, 1, 34] (fun Kt => ¬ (0 > 0) ∧ ¬ (k > 9223372036854775807) ∧ Kt [(34, .bool false), (6, iW k), (11, iN k), (4, sB []), (0, sB [48]), (1, iN k)] []) (by kernel_rfl) (fun _ => by kernel_rfl) (⟨(by decide), (by omega), fun ac9 wd9 FF9 MM9 => then_n ?_⟩))
      refine wp_cond_false (FF9.ev 0 rfl) ?_
      refine wp_skip ?_
      refine then_n ?_
      refine wp_seq (rg_seq FF9 MM9 [o_, w_ 1, o_] [6, 11, 4, 0, 1, 7] (fun Kt => k < 9223372036854775808 ∧ Kt [(7, iN k), (6, iW k), (11, iN k), (4, sB []), (0, sB [48]), (1, iN k)] []) (by kernel_rfl) (fun _ => by kernel_rfl) (⟨(by have := hk; omega), fun ac10 wd10 FF10 MM10 => then_n ?_⟩))
      refine wp_seq ?_
      refine wp_seq (rg_seq FF10 MM10 [o_, t_ (iN 1), w_ 3] [7, 6, 11, 4, 0, 1, 40] (fun Kt => iN ((bs [48]).size) = iN 1 ∧ ¬ (1 = 0) ∧ Kt [(40, .bool false), (7, iN k), (6, iW k), (11, iN k), (4, sB []), (0, sB [48]), (1, iN k)] []) (by kernel_rfl) (fun _ => by kernel_rfl) (⟨(vI ((bs_size _).trans rfl)), (by decide), fun ac11 wd11 FF11 MM11 => then_n ?_⟩))
      refine wp_cond_false (FF11.ev 0 rfl) ?_
      refine wp_skip ?_
      refine then_n ?_
      refine wp_seq ?_
      refine wp_seq (rg_seq FF11 MM11 [o_, t_ (iB 48)] [7, 6, 11, 4, 0, 1, 42] (fun Kt => 0 < (bs [48]).size ∧ (nl (bs [48])).getD 0 0 = 48 ∧ Kt [(42, iB 48), (7, iN k), (6, iW k), (11, iN k), (4, sB []), (0, sB [48]), (1, iN k)] []) (by kernel_rfl) (fun _ => by kernel_rfl) (⟨(by decide), rfl, fun ac12 wd12 FF12 MM12 => then_n ?_⟩))
      refine wp_block ?_
      refine wp_seq ?_
      refine wp_seq (rg_seq FF12 MM12 [w_ 3, o_] [42, 7, 6, 11, 4, 0, 1, 43] (fun Kt => ¬ (48 = 32) ∧ Kt [(43, .bool false), (42, iB 48), (7, iN k), (6, iW k), (11, iN k), (4, sB []), (0, sB [48]), (1, iN k)] []) (by kernel_rfl) (fun _ => by kernel_rfl) (⟨(by decide), fun ac13 wd13 FF13 MM13 => then_n ?_⟩))
      refine wp_cond_false (FF13.ev 0 rfl) ?_
      refine wp_seq (rg_seq FF13 MM13 [w_ 3, o_] [43, 42, 7, 6, 11, 4, 0, 1] (fun Kt => ¬ (48 = 45) ∧ Kt [(43, .bool false), (42, iB 48), (7, iN k), (6, iW k), (11, iN k), (4, sB []), (0, sB [48]), (1, iN k)] []) (by kernel_rfl) (fun _ => by kernel_rfl) (⟨(by decide), fun ac14 wd14 FF14 MM14 => then_n ?_⟩))
      refine wp_cond_false (FF14.ev 0 rfl) ?_
      refine wp_seq (rg_seq FF14 MM14 [w_ 2, o_] [43, 42, 7, 6, 11, 4, 0, 1] (fun Kt => 48 = 48 ∧ Kt [(43, .bool true), (42, iB 48), (7, iN k), (6, iW k), (11, iN k), (4, sB []), (0, sB [48]), (1, iN k)] []) (by kernel_rfl) (fun _ => by kernel_rfl) (⟨(by decide), fun ac15 wd15 FF15 MM15 => then_n ?_⟩))
      refine wp_cond_true (FF15.ev 0 rfl) ?_
      refine wp_skip ?_
      refine then_n ?_
      refine wp_cond_true (FF15.ev 0 rfl) ?_
      refine wp_block ?_
      refine wp_seq (rg_seq FF15 MM15 [o_, w_ 2, o_, o_, t_ (.bool false), o_, o_] [42, 7, 6, 11, 4, 0, 1, 49] (fun Kt => k ≤ 128 ∧ CallP Tryd.prog 83 [sB sp128, sB [48]] [] (.bool false) ∧ Kt [(49, .bool false), (42, iB 48), (7, iN k), (6, iW k), (11, iN k), (4, sB []), (0, sB [48]), (1, iN k)] []) (by kernel_rfl) (fun _ => by kernel_rfl) (⟨(by omega), (callP_of en_hasp hasp_sp128 _), fun ac16 wd16 FF16 MM16 => then_n ?_⟩))
      refine wp_cond_false (FF16.ev 0 rfl) ?_
      refine wp_seq (rg_seq FF16 MM16 [o_, w_ 2, o_, o_, t_ (.bool false), o_, o_] [42, 7, 6, 11, 4, 0, 1, 58] (fun Kt => k ≤ 128 ∧ CallP Tryd.prog 83 [sB ds128, sB [48]] [] (.bool false) ∧ Kt [(58, .bool false), (42, iB 48), (7, iN k), (6, iW k), (11, iN k), (4, sB []), (0, sB [48]), (1, iN k)] []) (by kernel_rfl) (fun _ => by kernel_rfl) (⟨(by omega), (callP_of en_hasp hasp_ds128 _), fun ac17 wd17 FF17 MM17 => then_n ?_⟩))
      refine wp_cond_false (FF17.ev 0 rfl) ?_
      refine wp_seq (rg_seq FF17 MM17 [o_, w_ 2, o_, o_, t_ (.bool true), o_, o_] [42, 7, 6, 11, 4, 0, 1, 67] (fun Kt => k ≤ 64 ∧ CallP Tryd.prog 83 [sB zs64, sB [48]] [] (.bool true) ∧ Kt [(67, .bool true), (42, iB 48), (7, iN k), (6, iW k), (11, iN k), (4, sB []), (0, sB [48]), (1, iN k)] []) (by kernel_rfl) (fun _ => by kernel_rfl) (⟨(by omega), (callP_of en_hasp hasp_zs64 _), fun ac18 wd18 FF18 MM18 => then_n ?_⟩))
      refine wp_cond_true (FF18.ev 0 rfl) ?_
      refine wp_seq (rg_seq FF18 MM18 [o_, t_ (sB (List.replicate k 48)), o_] [42, 7, 6, 11, 4, 0, 1] (fun Kt => 0 ≤ k ∧ k ≤ (bs zs64).size ∧ Value.string ((bs zs64).extract 0 k) = sB (List.replicate k 48) ∧ Kt [(4, sB (List.replicate k 48)), (42, iB 48), (7, iN k), (6, iW k), (11, iN k), (0, sB [48]), (1, iN k)] []) (by kernel_rfl) (fun _ => by kernel_rfl) (⟨(Nat.zero_le _), (by rw [bs_size, show zs64.length = 64 from (by kernel_rfl)]; have := hk; omega), (vS2 ((bs_extract _ _ _).trans (congrArg bs (zs_take hk)))), fun ac19 wd19 FF19 MM19 => then_n ?_⟩))
      refine wp_ret ?_
      repeat first | refine then_ret ?_ | refine inb_ret ?_
      exact (ret_fr FF19 0 Tryd.results74 rfl ⟨rfl, MM19.below⟩)
end Go.Proofs.YtlljedijldkcbaaDoor
namespace Go.Proofs.YtlljedijldkcbaaDoor
open Go.RowKit
theorem en_trimd : Enters Tryd.prog 44 := fun args w => by simp [go_sem]
theorem en_nof : Enters Tryd.prog 30 := fun args w => by simp [go_sem]
theorem en_nbytes : Enters Tryd.prog 22 := fun args w => by simp [go_sem]
theorem en_ntext : Enters Tryd.prog 37 := fun args w => by simp [go_sem]
theorem en_nbits : Enters Tryd.prog 35 := fun args w => by simp [go_sem]
theorem en_ncmp : Enters Tryd.prog 33 := fun args w => by simp [go_sem]
theorem en_nadd : Enters Tryd.prog 31 := fun args w => by simp [go_sem]
theorem en_nmul : Enters Tryd.prog 34 := fun args w => by simp [go_sem]
theorem en_npow : Enters Tryd.prog 60 := fun args w => by simp [go_sem]
theorem en_digs : Enters Tryd.prog 58 := fun args w => by simp [go_sem]
theorem en_clone : Enters Tryd.prog 51 := fun args w => by simp [go_sem]
theorem en_plus : Enters Tryd.prog 49 := fun args w => by simp [go_sem]
theorem en_times : Enters Tryd.prog 54 := fun args w => by simp [go_sem]
theorem en_parted : Enters Tryd.prog 71 := fun args w => by simp [go_sem]
theorem en_addt : Enters Tryd.prog 70 := fun args w => by simp [go_sem]
theorem trim_len {X : List Nat} (hX : ∀ i, X.getD i 0 < 18446744073709551616) {n : Nat} (hn : n ≤ X.length) (h0 : ∀ i, n ≤ i → X.getD i 0 = 0) (h1 : n = 0 ∨ X.getD (n - 1) 0 ≠ 0) : n = qsz (qleV X) := by
  have := congrArg List.length (qtrim_ok hX hn h0 h1)
  rwa [qminB_len, List.length_take, Nat.min_eq_left hn] at this
theorem trim_zero {X : List Nat} {n : Nat} (h : n = qsz (qleV X)) (h0 : n = 0) : qleV X = 0 := by
  have := (qsz_ok (qleV X)).1
  rw [← h, h0] at this
  simpa using this
theorem trim_some {X : List Nat} {n : Nat} (_hX : ∀ i, X.getD i 0 < 18446744073709551616) (h : n = qsz (qleV X)) (h0 : ¬ n = 0) : ¬ qleV X = 0 := fun e => h0 (by rw [h, e]; rfl)
set_option maxRecDepth 100000 in
theorem trimd_O (O : Blks) (hD : Distinct O) (p : Option Addr) (c : Nat) (X : List Nat) (hX : ∀ i, X.getD i 0 < 18446744073709551616) (hc0 : X.length ≤ c) (hl : X.length < 4611686018427387904) (hA : CellsO O p X.length (fun j => iW (X.getD j 0))) (w0 : World) (H : Has w0 O) :
    Calls Tryd.prog 44 #[.slice p X.length c] w0 fun e w' => e = .returned (trimV p (qleV X) c) ∧ Below w0.heap.size w0 w' := by
  refine enter_fr Tryd.func44 rfl Tryd.ntmps44 (by simp) fun ac (FF : Fr 23 ac [(0, .slice p X.length c)]) => ?_
  have MM : MemS (fun k => k < w0.heap.size ∧ ∀ x ∈ O, x.1 ≠ k) w0 w0 O [] := MemS.startN H hD
  refine wp_seq (rg_seq FF MM [o_] [0, 2] (fun Kt => Kt [(2, .slice none 0 0), (0, .slice p X.length c)] O) (by kernel_rfl) (fun _ => by kernel_rfl) (fun ac1 wd1 FF1 MM1 => then_n ?_))
  refine wp_seq (rg_seq FF1 MM1 [o_, o_, o_] [2, 0, 3] (fun Kt => Kt [(3, iN X.length), (2, .slice none 0 0), (0, .slice p X.length c)] O) (by kernel_rfl) (fun _ => by kernel_rfl) (fun ac2 wd2 FF2 MM2 => then_n ?_))
  refine wp_seq ?_
  refine wp_for2w (fun a' w' => ∃ n : Nat, n ≤ X.length ∧ (∀ i, n ≤ i → X.getD i 0 = 0) ∧ Fr 23 a' [(3, iN n), (2, .slice none 0 0), (0, .slice p X.length c)] ∧ MemS (fun k => k < w0.heap.size ∧ ∀ x ∈ O, x.1 ≠ k) w0 w' O []) (fun a' _ => (cnt 3 a').toNat) ⟨X.length, Nat.le_refl _, (fun _ h => getD_out h), FF2.pick [0, 1, 2], MM2⟩ ?_
  rintro ac3 wd3 ⟨n, hn, h0, FF3, MM3⟩
  have hc := cnt_of (FF3.get 0 rfl)
  by_cases h1 : n > 0
  · by_cases h2 : X.getD (n - 1) 0 = 0
    · skip
      refine rg_seq FF3 MM3 [o_, w_ 2, o_, o_, o_, o_, f_ (.pointer (some ⟨gOf p, n - 1, none⟩)), f_ (iW (X.getD (n - 1) 0)), w_ 2, o_] [3, 2, 0, 15] (fun Kt => n > 0 ∧ 1 ≤ n ∧ n - 1 < 9223372036854775808 ∧ RunV Tryd.prog [(11, iN (n - 1)), (10, iN n), (9, .slice p X.length c), (8, .bool true), (7, .bool true), (6, iN n), (3, iN n), (2, .slice none 0 0), (0, .slice p X.length c)] O (opAt Tryd.f44 2 6) (.pointer (some ⟨gOf p, n - 1, none⟩)) ∧ RunV Tryd.prog [(12, .pointer (some ⟨gOf p, n - 1, none⟩)), (11, iN (n - 1)), (10, iN n), (9, .slice p X.length c), (8, .bool true), (7, .bool true), (6, iN n), (3, iN n), (2, .slice none 0 0), (0, .slice p X.length c)] O (opAt Tryd.f44 2 7) (iW (X.getD (n - 1) 0)) ∧ (X.getD (n - 1) 0) = 0 ∧ Kt [(15, .bool true), (3, iN n), (2, .slice none 0 0), (0, .slice p X.length c)] O) (by kernel_rfl) (fun _ => by kernel_rfl) (⟨(by omega), (by omega), (by omega), (rowAddr_ok (x := (.tmp 9)) (y := (.tmp 11)) (by kernel_rfl) rfl rfl Tryd.underlying35 (by kernel_rfl) hA (by omega)), (rowLoad_ok (x := (.tmp 12)) (i := n - 1) (by kernel_rfl) rfl Tryd.underlying61 rfl hA (fun _ hx => hx) (by omega)), h2, fun ac4 wd4 FF4 MM4 => ?_⟩)
      refine then_n (.inl ⟨FF4.ev 0 rfl, ?_⟩)
      refine rg_seq FF4 MM4 [o_, o_, o_] [3, 2, 0] (fun Kt => 1 ≤ n ∧ n - 1 < 9223372036854775808 ∧ Kt [(3, iN (n - 1)), (2, .slice none 0 0), (0, .slice p X.length c)] O) (by kernel_rfl) (fun _ => by kernel_rfl) (⟨(by omega), (by omega), fun ac5 wd5 FF5 MM5 => ?_⟩)
      refine inb_n ?_
      have hd := cnt_of (FF5.get 0 rfl)
      refine then_n ⟨⟨n - 1, by omega, fun i hi => (Nat.eq_or_lt_of_le hi).elim (fun e => e ▸ h2) (fun h => h0 i (by omega)), FF5.pick [0, 1, 2], MM5⟩, ?_⟩
      rw [hc, hd]; omega
    · skip
      refine rg_seq FF3 MM3 [o_, w_ 2, o_, o_, o_, o_, f_ (.pointer (some ⟨gOf p, n - 1, none⟩)), f_ (iW (X.getD (n - 1) 0)), w_ 3, o_] [3, 2, 0, 15] (fun Kt => n > 0 ∧ 1 ≤ n ∧ n - 1 < 9223372036854775808 ∧ RunV Tryd.prog [(11, iN (n - 1)), (10, iN n), (9, .slice p X.length c), (8, .bool true), (7, .bool true), (6, iN n), (3, iN n), (2, .slice none 0 0), (0, .slice p X.length c)] O (opAt Tryd.f44 2 6) (.pointer (some ⟨gOf p, n - 1, none⟩)) ∧ RunV Tryd.prog [(12, .pointer (some ⟨gOf p, n - 1, none⟩)), (11, iN (n - 1)), (10, iN n), (9, .slice p X.length c), (8, .bool true), (7, .bool true), (6, iN n), (3, iN n), (2, .slice none 0 0), (0, .slice p X.length c)] O (opAt Tryd.f44 2 7) (iW (X.getD (n - 1) 0)) ∧ ¬ ((X.getD (n - 1) 0) = 0) ∧ Kt [(15, .bool false), (3, iN n), (2, .slice none 0 0), (0, .slice p X.length c)] O) (by kernel_rfl) (fun _ => by kernel_rfl) (⟨(by omega), (by omega), (by omega), (rowAddr_ok (x := (.tmp 9)) (y := (.tmp 11)) (by kernel_rfl) rfl rfl Tryd.underlying35 (by kernel_rfl) hA (by omega)), (rowLoad_ok (x := (.tmp 12)) (i := n - 1) (by kernel_rfl) rfl Tryd.underlying61 rfl hA (fun _ hx => hx) (by omega)), h2, fun ac6 wd6 FF6 MM6 => ?_⟩)
      refine then_n (.inr ⟨FF6.ev 0 rfl, ?_⟩)
      have hz := trim_len hX hn h0 (by first | exact .inl (by omega) | exact .inr h2)
      refine then_n ?_
      refine wp_seq ?_
      refine wp_seq (rg_seq FF6 MM6 [o_, o_] [3, 2, 0, 19] (fun Kt => Kt [(19, .bool (decide (n = 0))), (3, iN n), (2, .slice none 0 0), (0, .slice p X.length c)] O) (by kernel_rfl) (fun _ => by kernel_rfl) (fun ac7 wd7 FF7 MM7 => then_n ?_))
      by_cases hs19 : n = 0
      · refine wp_cond_true ((FF7.ev 0 rfl).trans (dec_t hs19)) ?_
        have hN := trim_zero hz hs19
        refine wp_seq (rg_seq FF7 MM7 [o_] [3, 2, 0] (fun Kt => Kt [(2, .slice none 0 0), (3, iN n), (0, .slice p X.length c)] O) (by kernel_rfl) (fun _ => by kernel_rfl) (fun ac8 wd8 FF8 MM8 => then_n ?_))
        refine wp_ret ?_
        repeat first | refine then_ret ?_ | refine inb_ret ?_
        exact (ret_fr FF8 0 Tryd.results44 rfl ⟨congrArg Ending.returned (by rw [trimV_zero _ _ hN]), MM8.belowN H (fun _ hx => hx)⟩)
      · refine wp_cond_false ((FF7.ev 0 rfl).trans (dec_f hs19)) ?_
        have hN := trim_some hX hz hs19
        refine wp_skip ?_
        refine then_n ?_
        refine wp_seq (rg_seq FF7 MM7 [o_, o_, f_ (.slice p n c), o_] [3, 2, 0] (fun Kt => RunV Tryd.prog [(21, iN n), (20, .slice p X.length c), (19, .bool (decide (n = 0))), (3, iN n), (2, .slice none 0 0), (0, .slice p X.length c)] O (opAt Tryd.f44 6 2) (.slice p n c) ∧ Kt [(2, .slice p n c), (3, iN n), (0, .slice p X.length c)] O) (by kernel_rfl) (fun _ => by kernel_rfl) (⟨(sliceTo_ok (x := .tmp 20) (y := .tmp 21) (by kernel_rfl) rfl rfl Tryd.underlying35 (by kernel_rfl) hA (by omega) hn hc0), fun ac9 wd9 FF9 MM9 => then_n ?_⟩))
        refine wp_ret ?_
        repeat first | refine then_ret ?_ | refine inb_ret ?_
        exact (ret_fr FF9 0 Tryd.results44 rfl ⟨congrArg Ending.returned (by rw [trimV_pos _ _ hN, hz]), MM9.belowN H (fun _ hx => hx)⟩)
  · skip
    refine rg_seq FF3 MM3 [o_, w_ 3, o_, o_, o_, o_, o_, o_, o_, o_] [3, 2, 0, 15] (fun Kt => ¬ (n > 0) ∧ Kt [(15, .bool false), (3, iN n), (2, .slice none 0 0), (0, .slice p X.length c)] O) (by kernel_rfl) (fun _ => by kernel_rfl) (⟨(by omega), fun ac10 wd10 FF10 MM10 => ?_⟩)
    refine then_n (.inr ⟨FF10.ev 0 rfl, ?_⟩)
    have hz := trim_len hX hn h0 (by first | exact .inl (by omega) | exact .inr h2)
    refine then_n ?_
    refine wp_seq ?_
    refine wp_seq (rg_seq FF10 MM10 [o_, o_] [3, 2, 0, 19] (fun Kt => Kt [(19, .bool (decide (n = 0))), (3, iN n), (2, .slice none 0 0), (0, .slice p X.length c)] O) (by kernel_rfl) (fun _ => by kernel_rfl) (fun ac11 wd11 FF11 MM11 => then_n ?_))
    by_cases hs19 : n = 0
    · refine wp_cond_true ((FF11.ev 0 rfl).trans (dec_t hs19)) ?_
      have hN := trim_zero hz hs19
      refine wp_seq (rg_seq FF11 MM11 [o_] [3, 2, 0] (fun Kt => Kt [(2, .slice none 0 0), (3, iN n), (0, .slice p X.length c)] O) (by kernel_rfl) (fun _ => by kernel_rfl) (fun ac12 wd12 FF12 MM12 => then_n ?_))
      refine wp_ret ?_
      repeat first | refine then_ret ?_ | refine inb_ret ?_
      exact (ret_fr FF12 0 Tryd.results44 rfl ⟨congrArg Ending.returned (by rw [trimV_zero _ _ hN]), MM12.belowN H (fun _ hx => hx)⟩)
    · refine wp_cond_false ((FF11.ev 0 rfl).trans (dec_f hs19)) ?_
      have hN := trim_some hX hz hs19
      refine wp_skip ?_
      refine then_n ?_
      refine wp_seq (rg_seq FF11 MM11 [o_, o_, f_ (.slice p n c), o_] [3, 2, 0] (fun Kt => RunV Tryd.prog [(21, iN n), (20, .slice p X.length c), (19, .bool (decide (n = 0))), (3, iN n), (2, .slice none 0 0), (0, .slice p X.length c)] O (opAt Tryd.f44 6 2) (.slice p n c) ∧ Kt [(2, .slice p n c), (3, iN n), (0, .slice p X.length c)] O) (by kernel_rfl) (fun _ => by kernel_rfl) (⟨(sliceTo_ok (x := .tmp 20) (y := .tmp 21) (by kernel_rfl) rfl rfl Tryd.underlying35 (by kernel_rfl) hA (by omega) hn hc0), fun ac13 wd13 FF13 MM13 => then_n ?_⟩))
      refine wp_ret ?_
      repeat first | refine then_ret ?_ | refine inb_ret ?_
      exact (ret_fr FF13 0 Tryd.results44 rfl ⟨congrArg Ending.returned (by rw [trimV_pos _ _ hN, hz]), MM13.belowN H (fun _ hx => hx)⟩)
theorem cells_O {w : World} {p : Option Addr} {n : Nat} {V : Nat → Value} (h : CellsIn w p n V) : ∃ O : Blks, Has w O ∧ Distinct O ∧ CellsO O p n V := by
  rcases h with h | ⟨b, cs, T, fr, h1, h2, h3⟩
  · exact ⟨[], fun i x hx => by simp at hx, trivial, .inl h⟩
  · refine ⟨[(b, .cells cs T fr)], fun i x hx => ?_, ⟨fun y hy => (nomatch hy), trivial⟩, .inr ⟨b, cs, T, fr, h1, by simp, h3⟩⟩
    cases i with
    | zero => simp at hx; subst hx; exact h2
    | succ i => simp at hx
theorem trimd_any (p : Option Addr) (c : Nat) (X : List Nat) (hX : ∀ i, X.getD i 0 < 18446744073709551616) (hc0 : X.length ≤ c) (hl : X.length < 4611686018427387904) (w : World) (hA : CellsIn w p X.length (fun j => iW (X.getD j 0))) :
    Calls Tryd.prog 44 #[.slice p X.length c] w fun e w' => e = .returned (trimV p (qleV X) c) ∧ Below w.heap.size w w' := by
  obtain ⟨O, h1, h2, h3⟩ := cells_O hA
  exact trimd_O O h2 p c X hX hc0 hl h3 w h1
theorem qleV_one (x : Nat) : qleV [x] = x := by simp [qleV]
theorem one_lt {x : Nat} (hx : x < 18446744073709551616) : ∀ i, [x].getD i 0 < 18446744073709551616 := fun i => by
  cases i with
  | zero => exact hx
  | succ i => simp
theorem MemS.fresh {w0 w : World} {L : Blks} {R : List Row} (M : MemS (fun k => k < w0.heap.size) w0 w L R) (i : Nat) {b : Nat} {ob : Obj} (h : L[i]? = some (b, ob)) : w0.heap.size ≤ b := Nat.le_of_not_lt (M.base i _ h)
set_option maxRecDepth 100000 in
theorem nof_any (x : Nat) (hx : x < 18446744073709551616) (w0 : World) :
    Calls Tryd.prog 30 #[iW x] w0 fun e w' => ∃ v, e = .returned (.agg #[nv x v]) ∧ Below w0.heap.size w0 w' ∧ NatNew w0.heap.size w' (nv x v) x := by
  refine enter_fr Tryd.func30 rfl Tryd.ntmps30 (by simp) fun ac (FF : Fr 7 ac [(0, iW x)]) => ?_
  have MM := MemS.start w0
  refine wp_seq (rg_seq FF MM [o_] [0, 2] (fun Kt => ∀ br, Kt [(2, pT br), (0, iW x)] [(br, oC #[.slice none 0 0] 37)]) (by kernel_rfl) (fun _ => by kernel_rfl) (fun br => fun ac1 wd1 FF1 MM1 => then_n ?_))
  refine wp_seq (wp_region_list ?_)
  refine rg_part 2 FF1 MM1 [o_, o_] [2, 4] (fun Kt => ∀ bo, Kt [(4, .slice (some ⟨bo, 0, none⟩) 1 1), (2, pT br)] [(bo, .cells (cn .u64 [x]) 61), (br, oC #[.slice none 0 0] 37)]) (by kernel_rfl) (fun _ => by kernel_rfl) (fun bo => fun ac2 wd2 FF2 MM2 => ?_)
  refine rg_part 3 FF2 MM2 [u_ 1 (trimV (some ⟨bo, 0, none⟩) x 1), o_, b_ 1] [2] (fun Kt => CallP Tryd.prog 44 [.slice (some ⟨bo, 0, none⟩) 1 1] [(bo, .cells (cn .u64 [x]) 61), (br, oC #[.slice none 0 0] 37)] (trimV (some ⟨bo, 0, none⟩) x 1) ∧ br = br ∧ (#[.slice none 0 0] : Array Value).size = 1 ∧ (#[trimV (some ⟨bo, 0, none⟩) x 1] : Array Value).size = 1 ∧ (#[trimV (some ⟨bo, 0, none⟩) x 1] : Array Value).all (·.oneCell') = true ∧ (0, 0).2 = 0 ∧ Kt [(2, pT br)] [(bo, .cells (cn .u64 [x]) 61), (br, oC #[trimV (some ⟨bo, 0, none⟩) x 1] 37)]) (by kernel_rfl) (fun _ => by kernel_rfl) (⟨⟨en_trimd, fun w Hw => by have h0 := trimd_any (some ⟨bo, 0, none⟩) 1 [x] (one_lt hx) (by simp) (by simp) w (.inr ⟨bo, _, _, _, rfl, Hw 0 _ rfl, fun j hj => cn_get _ _ _ hj⟩); rw [show [x].length = 1 from rfl, qleV_one] at h0; exact h0⟩, rfl, rfl, rfl, (by kernel_rfl), rfl, fun ac3 wd3 FF3 MM3 => ?_⟩)
  refine wpl_nil (then_n ?_)
  refine wp_ret ?_
  repeat first | refine then_ret ?_ | refine inb_ret ?_
  exact (retc FF3 MM3 (k := 1) (i := 1) (j := 0) Tryd.results30 rfl rfl Tryd.underlying37 rfl (by kernel_rfl) rfl ⟨trimV (some ⟨bo, 0, none⟩) x 1, rfl, MM3.below, by have h0 := trim_new0 (c := 1) (X := [x]) (base := w0.heap.size) (one_lt hx) (by simp) (MM3.get 0 rfl) (MM3.fresh 0 rfl); rw [qleV_one] at h0; exact h0⟩)
theorem qleB_nil (X : List Nat) (m : Nat) : qleB m (leV (X.take 0)) = List.replicate m 0 := by
  refine ext_getD (by simp [qleB_len]) fun i hi => ?_
  rw [qleB_len] at hi
  rw [qleB_get hi, rep_get]
  simp [leV]
theorem pow8 (k : Nat) : 18446744073709551616 ^ k = 256 ^ (8 * k) := by rw [Nat.pow_mul]
theorem leV_take {X : List Nat} (hX : ∀ i, X.getD i 0 < 256) (i : Nat) : leV (X.take i) < 256 ^ i := by
  have := leV_lt (X.take i) (take_lt hX)
  exact Nat.lt_of_lt_of_le this (pw_le (by simp; omega))
theorem leV_take1 {X : List Nat} {i : Nat} (h : i < X.length) : leV (X.take (i + 1)) = leV (X.take i) + 256 ^ i * X.getD i 0 := by
  rw [List.take_add_one, leV_app, List.getElem?_eq_getElem h]
  simp [leV, Nat.min_eq_left (Nat.le_of_lt h), List.getD_eq_getElem?_getD, List.getElem?_eq_getElem h]
/-- A byte more. -/
theorem word_more {N i x : Nat} (hN : N < 256 ^ i) (hx : x < 256) (j : Nat) : qd (N + 256 ^ i * x) j = if j = i / 8 then qd N j ||| x * 2 ^ (8 * (i % 8)) % 18446744073709551616 else qd N j := by
  have hi : 256 ^ i = 18446744073709551616 ^ (i / 8) * 256 ^ (i % 8) := by rw [pow8, ← Nat.pow_add]; congr 1; omega
  have h8 : 256 ^ (i % 8) * 256 ≤ 18446744073709551616 := by
    rw [← Nat.pow_succ]
    exact Nat.le_trans (pw_le (show i % 8 + 1 ≤ 8 by omega)) (by decide)
  have e2 : 2 ^ (8 * (i % 8)) = 256 ^ (i % 8) := by rw [Nat.pow_mul]
  rcases Nat.lt_trichotomy j (i / 8) with h | h | h
  · rw [if_neg (by omega)]
    unfold qd
    have : 256 ^ i * x = 18446744073709551616 ^ j * (18446744073709551616 * (18446744073709551616 ^ (i / 8 - j - 1) * 256 ^ (i % 8) * x)) := by
      rw [hi, show 18446744073709551616 ^ (i / 8) = 18446744073709551616 ^ j * (18446744073709551616 * 18446744073709551616 ^ (i / 8 - j - 1)) by rw [← Nat.pow_succ', ← Nat.pow_add]; congr 1; omega]
      simp only [Nat.mul_assoc]
    rw [this, Nat.add_mul_div_left _ _ (Nat.pow_pos (by decide)), Nat.add_mul_mod_self_left]
  · subst h
    rw [if_pos rfl]
    unfold qd
    rw [hi, Nat.mul_assoc, Nat.add_mul_div_left _ _ (Nat.pow_pos (by decide)), e2]
    have hq : N / 18446744073709551616 ^ (i / 8) < 256 ^ (i % 8) := Nat.div_lt_of_lt_mul (by rw [← hi]; exact hN)
    have hlt : N / 18446744073709551616 ^ (i / 8) < 18446744073709551616 := by omega
    have hx8 : 256 ^ (i % 8) * x < 18446744073709551616 := Nat.lt_of_lt_of_le ((Nat.mul_lt_mul_left (Nat.pow_pos (by decide))).2 hx) h8
    have hs : 256 ^ (i % 8) * (x + 1) ≤ 18446744073709551616 := Nat.le_trans (Nat.mul_le_mul_left _ hx) h8
    rw [Nat.mod_eq_of_lt hlt, Nat.mul_comm x, Nat.mod_eq_of_lt hx8, Nat.mul_comm (256 ^ (i % 8)) x, ← e2, or_shl _ (by rw [e2]; exact hq), Nat.mod_eq_of_lt]
    rw [e2, Nat.mul_comm x]
    rw [Nat.mul_add, Nat.mul_one] at hs
    omega
  · rw [if_neg (by omega)]
    unfold qd
    have hb : 256 ^ i * 256 ≤ 18446744073709551616 ^ j := by
      rw [pow8, ← Nat.pow_succ]; exact pw_le (by omega)
    have h1 : N + 256 ^ i * x < 18446744073709551616 ^ j := by
      have : 256 ^ i * (x + 1) ≤ 256 ^ i * 256 := Nat.mul_le_mul_left _ hx
      rw [Nat.mul_add, Nat.mul_one] at this
      omega
    rw [Nat.div_eq_of_lt h1, Nat.div_eq_of_lt (Nat.lt_of_le_of_lt (Nat.le_add_right _ _) h1)]
theorem bytes_step {X : List Nat} (hX : ∀ i, X.getD i 0 < 256) {i m : Nat} (hi : i < X.length) (hm : i / 8 < m) : (qleB m (leV (X.take i))).set (i / 8) (qd (leV (X.take i)) (i / 8) ||| X.getD i 0 * 2 ^ (8 * (i % 8)) % 18446744073709551616) = qleB m (leV (X.take (i + 1))) := by
  refine ext_getD (by simp [qleB_len]) fun j hj => ?_
  simp only [List.length_set, qleB_len] at hj
  rw [getD_set, qleB_get hj, leV_take1 hi, qleB_get hj, qleB_len]
  have := word_more (leV_take hX i) (hX i) j
  unfold qd at this ⊢
  rw [this]
  by_cases e : i / 8 = j
  · subst e; rw [if_pos ⟨rfl, hm⟩, if_pos rfl]
  · rw [if_neg (fun h => e h.1), if_neg (fun h => e h.symm)]
theorem qleV_bytes {X : List Nat} (hX : ∀ i, X.getD i 0 < 256) : qleV (qleB ((X.length + 7) / 8) (leV X)) = leV X := by
  rw [qleV_leB, Nat.mod_eq_of_lt]
  rw [pow8]
  exact Nat.lt_of_lt_of_le (leV_lt X hX) (pw_le (by omega))
set_option maxRecDepth 100000 in
theorem nbytes_any (X : List Nat) (hX : ∀ i, X.getD i 0 < 256) (hl : X.length < 1000000000) (w0 : World) :
    Calls Tryd.prog 22 #[sB X] w0 fun e w' => ∃ v, e = .returned (.agg #[nv (leV X) v]) ∧ Below w0.heap.size w0 w' ∧ NatNew w0.heap.size w' (nv (leV X) v) (leV X) := by
  refine enter_fr Tryd.func22 rfl Tryd.ntmps22 (by simp) fun ac (FF : Fr 35 ac [(0, sB X)]) => ?_
  have MM := MemS.start w0
  refine wp_seq (rg_seq FF MM [o_] [0, 2] (fun Kt => ∀ br, Kt [(2, pT br), (0, sB X)] [(br, oC #[.slice none 0 0] 37)]) (by kernel_rfl) (fun _ => by kernel_rfl) (fun br => fun ac1 wd1 FF1 MM1 => then_n ?_))
  refine wp_seq (rg_seq FF1 MM1 [o_, t_ (iN X.length), o_, t_ (iN (X.length + 7)), t_ (iN ((X.length + 7) / 8)), n_ (.slice none ((X.length + 7) / 8) ((X.length + 7) / 8)) (.cells (cn .u64 (List.replicate ((X.length + 7) / 8) 0)) 61), o_] [2, 0, 3] (fun Kt => iN ((bs X).size) = iN X.length ∧ X.length + 8 < 9223372036854775808 ∧ 1 ≤ (X.length + 8) ∧ (X.length + 8) - 1 < 9223372036854775808 ∧ iN ((X.length + 8) - 1) = iN (X.length + 7) ∧ 8 ≠ 0 ∧ (X.length + 7) / 8 < 9223372036854775808 ∧ iN ((X.length + 7) / 8) = iN ((X.length + 7) / 8) ∧ RunN Tryd.prog [(9, iN ((X.length + 7) / 8)), (8, iN (X.length + 7)), (7, iN (X.length + 8)), (6, iN X.length), (5, sB X), (2, pT br), (0, sB X)] [(br, oC #[.slice none 0 0] 37)] (opAt Tryd.f22 1 5) (mkOf (.slice none ((X.length + 7) / 8) ((X.length + 7) / 8))) (.cells (cn .u64 (List.replicate ((X.length + 7) / 8) 0)) 61) ∧ ∀ bo, Kt [(3, .slice (some ⟨bo, 0, none⟩) ((X.length + 7) / 8) ((X.length + 7) / 8)), (2, pT br), (0, sB X)] [(bo, .cells (cn .u64 (List.replicate ((X.length + 7) / 8) 0)) 61), (br, oC #[.slice none 0 0] 37)]) (by kernel_rfl) (fun _ => by kernel_rfl) (⟨(vI (bs_size _)), (by omega), (by omega), (by omega), (vI (by omega)), (by decide), (by omega), rfl, (make64_ok (t := 35) (e := 61) (p := (.tmp 9)) (q := (.tmp 9)) (by kernel_rfl) rfl rfl Tryd.underlying35 (by kernel_rfl) (by omega)), fun bo => fun ac2 wd2 FF2 MM2 => then_n ?_⟩))
  have MMr : MemS (fun k => k < w0.heap.size) w0 wd2 [(bo, .cells (cn .u64 (qleB ((X.length + 7) / 8) (leV (X.take 0)))) 61), (br, oC #[.slice none 0 0] 37)] [] := by rw [show qleB ((X.length + 7) / 8) (leV (X.take 0)) = List.replicate ((X.length + 7) / 8) 0 from qleB_nil _ _]; exact MM2
  refine wp_seq ?_
  refine wp_seq (rg_seq FF2 MMr [o_, t_ (iN X.length), o_] [3, 2, 0, 12, 13] (fun Kt => iN ((bs X).size) = iN X.length ∧ Kt [(13, iN 0), (12, iN X.length), (3, .slice (some ⟨bo, 0, none⟩) ((X.length + 7) / 8) ((X.length + 7) / 8)), (2, pT br), (0, sB X)] [(bo, .cells (cn .u64 (qleB ((X.length + 7) / 8) (leV (X.take 0)))) 61), (br, oC #[.slice none 0 0] 37)]) (by kernel_rfl) (fun _ => by kernel_rfl) (⟨(vI (bs_size _)), fun ac3 wd3 FF3 MM3 => then_n ?_⟩))
  refine wp_for (fun a' w' => ∃ i : Nat, i ≤ X.length ∧ Fr 35 a' [(13, iN i), (12, iN X.length), (3, .slice (some ⟨bo, 0, none⟩) ((X.length + 7) / 8) ((X.length + 7) / 8)), (2, pT br), (0, sB X)] ∧ MemS (fun k => k < w0.heap.size) w0 w' [(bo, .cells (cn .u64 (qleB ((X.length + 7) / 8) (leV (X.take i)))) 61), (br, oC #[.slice none 0 0] 37)] []) (fun a' _ => (X.length - cnt 13 a').toNat) ⟨0, by omega, FF3.pick [0, 1, 2, 3, 4], MM3⟩ ?_
  rintro ac4 wd4 ⟨i, hi, FF4, MM4⟩
  have hc := cnt_of (FF4.get 0 rfl)
  refine rg_seq FF4 MM4 [o_] [13, 12, 3, 2, 0, 14] (fun Kt => Kt [(14, .bool (decide (i < X.length))), (13, iN i), (12, iN X.length), (3, .slice (some ⟨bo, 0, none⟩) ((X.length + 7) / 8) ((X.length + 7) / 8)), (2, pT br), (0, sB X)] [(bo, .cells (cn .u64 (qleB ((X.length + 7) / 8) (leV (X.take i)))) 61), (br, oC #[.slice none 0 0] 37)]) (by kernel_rfl) (fun _ => by kernel_rfl) (fun ac5 wd5 FF5 MM5 => ?_)
  by_cases hlt : i < X.length
  · skip
    refine then_n (.inl ⟨(FF5.ev 0 rfl).trans (dec_t hlt), ?_⟩)
    refine wp_seq (rg_seq FF5 MM5 [o_, o_] [13, 12, 3, 2, 0, 4] (fun Kt => Kt [(4, iN i), (13, iN i), (12, iN X.length), (3, .slice (some ⟨bo, 0, none⟩) ((X.length + 7) / 8) ((X.length + 7) / 8)), (2, pT br), (0, sB X)] [(bo, .cells (cn .u64 (qleB ((X.length + 7) / 8) (leV (X.take i)))) 61), (br, oC #[.slice none 0 0] 37)]) (by kernel_rfl) (fun _ => by kernel_rfl) (fun ac6 wd6 FF6 MM6 => then_n ?_))
    refine rg_draw FF6 MM6 [.inl (.slice (some ⟨bo, 0, none⟩) ((X.length + 7) / 8) ((X.length + 7) / 8)), .inl (iN i), .inl (iN (i / 8)), .inl (.pointer (some ⟨bo, i / 8, none⟩)), .inl (iW (qd (leV (X.take i)) (i / 8))), .inl (sB X), .inl (iN i), .inl (iB (X.getD i 0)), .inl (iW (X.getD i 0)), .inl (iN i), .inl (iN (i % 8)), .inl (iN (8 * (i % 8))), .inl (iW ((X.getD i 0) * (2 ^ (8 * (i % 8))) % 18446744073709551616)), .inl (iW ((qd (leV (X.take i)) (i / 8)) ||| ((X.getD i 0) * (2 ^ (8 * (i % 8))) % 18446744073709551616))), .inl (.pointer (some ⟨bo, i / 8, none⟩))] [] [o_, o_, o_, w_ 1, l_ 0 (iW (qd (leV (X.take i)) (i / 8))), o_, o_, t_ (iB (X.getD i 0)), w_ 1, o_, o_, o_, o_, o_, w_ 1] [s_ 0 (.cells (cn .u64 (qleB ((X.length + 7) / 8) (leV (X.take (i + 1))))) 61)] [4, 13, 12, 3, 2, 0] (fun nb => [8 ≠ 0, i / 8 < 9223372036854775808, (i / 8) < ((X.length + 7) / 8), bo = bo, (cn .u64 (qleB ((X.length + 7) / 8) (leV (X.take i))))[i / 8]? = some (iW (qd (leV (X.take i)) (i / 8))), i < (bs X).size, (nl (bs X)).getD i 0 = X.getD i 0, (X.getD i 0) < 18446744073709551616, 8 ≠ 0, 8 * (i % 8) < 9223372036854775808, (qd (leV (X.take i)) (i / 8)) < 18446744073709551616, ((X.getD i 0) * (2 ^ (8 * (i % 8))) % 18446744073709551616) < 18446744073709551616, (i / 8) < ((X.length + 7) / 8)]) (fun nb Kt => bo = bo ∧ i / 8 < (cn .u64 (qleB ((X.length + 7) / 8) (leV (X.take i)))).size ∧ (((0, 0)).2 = 0 ∨ i / 8 < ((0, 0)).1) ∧ (cn .u64 (qleB ((X.length + 7) / 8) (leV (X.take i)))).setIfInBounds (i / 8) (iW ((qd (leV (X.take i)) (i / 8)) ||| ((X.getD i 0) * (2 ^ (8 * (i % 8))) % 18446744073709551616))) = cn .u64 (qleB ((X.length + 7) / 8) (leV (X.take (i + 1)))) ∧ Kt [(4, iN i), (13, iN i), (12, iN X.length), (3, .slice (some ⟨bo, 0, none⟩) ((X.length + 7) / 8) ((X.length + 7) / 8)), (2, pT br), (0, sB X)] [(bo, .cells (cn .u64 (qleB ((X.length + 7) / 8) (leV (X.take (i + 1))))) 61), (br, oC #[.slice none 0 0] 37)]) (by kernel_rfl) (by kernel_rfl) (by kernel_rfl) (fun _ => by kernel_rfl) (fun _ _ => by kernel_rfl) trivial (fun nb => ⟨(by decide), (by omega), (by omega), rfl, ((cn_get _ _ _ (by rw [qleB_len]; omega)).trans (congrArg some (vI (qleB_get (by omega))))), (by simp only [bs_size]; omega), (byte_bs hX _), (by have := hX i; omega), (by decide), (by omega), (qd_lt _ _), (Nat.mod_lt _ (by decide)), (by omega), trivial⟩) (fun nb => ⟨rfl, (by rw [cn_size, (qleB_len _ _)]; omega), (.inl rfl), ((cn_set _ _ _ _).trans (congrArg _ (bytes_step hX (by omega) (by omega)))), fun ac7 wd7 FF7 MM7 => ?_⟩)
    refine inb_n (then_n ?_)
    refine rg_seq FF7 MM7 [o_, o_] [4, 13, 12, 3, 2, 0] (fun Kt => i + 1 < 9223372036854775808 ∧ Kt [(13, iN (i + 1)), (4, iN i), (12, iN X.length), (3, .slice (some ⟨bo, 0, none⟩) ((X.length + 7) / 8) ((X.length + 7) / 8)), (2, pT br), (0, sB X)] [(bo, .cells (cn .u64 (qleB ((X.length + 7) / 8) (leV (X.take (i + 1))))) 61), (br, oC #[.slice none 0 0] 37)]) (by kernel_rfl) (fun _ => by kernel_rfl) (⟨(by omega), fun ac8 wd8 FF8 MM8 => ?_⟩)
    have hd := cnt_of (FF8.get 0 rfl)
    refine then_n ⟨⟨i + 1, by omega, FF8.pick [0, 2, 3, 4, 5], MM8⟩, ?_⟩
    rw [hc, hd]; omega
  · skip
    refine then_n (.inr ⟨(FF5.ev 0 rfl).trans (dec_f hlt), ?_⟩)
    obtain rfl : i = X.length := by omega
    have MMl : MemS (fun k => k < w0.heap.size) w0 wd5 [(bo, .cells (cn .u64 (qleB ((X.length + 7) / 8) (leV X))) 61), (br, oC #[.slice none 0 0] 37)] [] := by rw [List.take_length] at MM5; exact MM5
    refine then_n ?_
    refine wp_seq (rg_seq FF5 MMl [o_, u_ 1 (trimV (some ⟨bo, 0, none⟩) (leV X) ((X.length + 7) / 8)), o_, b_ 1] [13, 12, 3, 2, 0] (fun Kt => CallP Tryd.prog 44 [.slice (some ⟨bo, 0, none⟩) ((X.length + 7) / 8) ((X.length + 7) / 8)] [(bo, .cells (cn .u64 (qleB ((X.length + 7) / 8) (leV X))) 61), (br, oC #[.slice none 0 0] 37)] (trimV (some ⟨bo, 0, none⟩) (leV X) ((X.length + 7) / 8)) ∧ br = br ∧ (#[.slice none 0 0] : Array Value).size = 1 ∧ (#[trimV (some ⟨bo, 0, none⟩) (leV X) ((X.length + 7) / 8)] : Array Value).size = 1 ∧ (#[trimV (some ⟨bo, 0, none⟩) (leV X) ((X.length + 7) / 8)] : Array Value).all (·.oneCell') = true ∧ (0, 0).2 = 0 ∧ Kt [(13, iN X.length), (12, iN X.length), (3, .slice (some ⟨bo, 0, none⟩) ((X.length + 7) / 8) ((X.length + 7) / 8)), (2, pT br), (0, sB X)] [(bo, .cells (cn .u64 (qleB ((X.length + 7) / 8) (leV X))) 61), (br, oC #[trimV (some ⟨bo, 0, none⟩) (leV X) ((X.length + 7) / 8)] 37)]) (by kernel_rfl) (fun _ => by kernel_rfl) (⟨⟨en_trimd, fun w Hw => by have h0 := trimd_any (some ⟨bo, 0, none⟩) ((X.length + 7) / 8) (qleB ((X.length + 7) / 8) (leV X)) (qleB_lt _ _) (by rw [qleB_len]; exact Nat.le_refl _) (by rw [qleB_len]; omega) w (.inr ⟨bo, _, _, _, rfl, Hw 0 _ rfl, fun j hj => cn_get _ _ _ hj⟩); rw [show (qleB ((X.length + 7) / 8) (leV X)).length = (X.length + 7) / 8 from (qleB_len _ _), qleV_bytes hX] at h0; exact h0⟩, rfl, rfl, rfl, (by kernel_rfl), rfl, fun ac9 wd9 FF9 MM9 => then_n ?_⟩))
    refine wp_ret ?_
    repeat first | refine then_ret ?_ | refine inb_ret ?_
    exact (retc FF9 MM9 (k := 1) (i := 1) (j := 3) Tryd.results22 rfl rfl Tryd.underlying37 rfl (by kernel_rfl) rfl ⟨trimV (some ⟨bo, 0, none⟩) (leV X) ((X.length + 7) / 8), rfl, MM9.below, by have h0 := trim_new0 (c := (X.length + 7) / 8) (X := qleB ((X.length + 7) / 8) (leV X)) (base := w0.heap.size) (qleB_lt _ _) (by rw [qleB_len]; exact Nat.le_refl _) (MM9.get 0 rfl) (MM9.fresh 0 rfl); rw [qleV_bytes hX] at h0; exact h0⟩)
end Go.Proofs.YtlljedijldkcbaaDoor
namespace Go.Proofs.YtlljedijldkcbaaDoor
open Go.RowKit
theorem natO_cells {O : Blks} {N : Nat} {x : Value} (h : NatO O (nv N x) N) : CellsO O (pOf x) (qsz N) (fun j => iW (qd N j)) := by
  obtain ⟨p, c, h1, _, _, _, h4⟩ := h
  simp only [nv, Value.slice.injEq] at h1
  rw [h1.1]; exact h4
theorem natO_none {O : Blks} {N : Nat} {x : Value} (h : NatO O (nv N x) N) : (pOf x).isNone = decide (N = 0) := by
  obtain ⟨p, c, h1, h2, h3, _⟩ := h
  simp only [nv, Value.slice.injEq] at h1
  rw [h1.1]
  by_cases hN : N = 0
  · simp [hN, (h2 hN).1]
  · have := h3 hN
    cases p with
    | none => exact (this rfl).elim
    | some a => simp [hN]
theorem qz0 {M : Nat} (h : qsz M = 0) : M = 0 := by have := (qsz_ok M).1; rw [h] at this; simpa using this
theorem bits_top {M : Nat} (h : ¬ qsz M = 0) : (qsz M - 1) * 64 + bsz (qd M (qsz M - 1)) = bsz M := by
  have h2 := (qsz_ok M).2.resolve_left h
  have e : 18446744073709551616 ^ (qsz M - 1) = 2 ^ ((qsz M - 1) * 64) := by rw [show 18446744073709551616 = 2 ^ 64 by rfl, ← Nat.pow_mul, Nat.mul_comm]
  have h1 := (qsz_ok M).1
  have e2 : 18446744073709551616 ^ qsz M = 18446744073709551616 ^ (qsz M - 1) * 18446744073709551616 := by rw [← Nat.pow_succ]; congr 1; omega
  rw [bsz_div (k := (qsz M - 1) * 64) (x := M) (by rw [← e]; exact h2), ← e]
  unfold qd
  rw [Nat.mod_eq_of_lt (Nat.div_lt_of_lt_mul (by rw [← e2]; exact h1))]
theorem cmp_sizes {M N : Nat} (h : qsz M ≠ qsz N) : cmpN (qsz M) (qsz N) = cmpN M N := by
  rcases Nat.lt_or_gt_of_ne h with c | c
  · have := qcmp_len c
    rw [cmpN, if_pos c, cmpN, if_pos this]
  · have := qcmp_len c
    rw [cmpN, if_neg (by omega), if_neg (by omega), cmpN, if_neg (by omega), if_neg (by omega)]
theorem cmp_word {M N j : Nat} (hq : M / 18446744073709551616 ^ (j + 1) = N / 18446744073709551616 ^ (j + 1)) (h : qd M j ≠ qd N j) : cmpN (qd M j) (qd N j) = cmpN M N := by
  rcases Nat.lt_or_gt_of_ne h with c | c
  · have := qcmp_lt hq c
    rw [cmpN, if_pos c, cmpN, if_pos this]
  · have := qcmp_lt hq.symm c
    rw [cmpN, if_neg (by omega), if_neg (by omega), cmpN, if_neg (by omega), if_neg (by omega)]
set_option maxRecDepth 100000 in
theorem nbits_O (O : Blks) (hD : Distinct O) (M : Nat) (x : Value) (hM : NatO O (nv M x) M) (hs : qsz M < 1000000)  (w0 : World) (H : Has w0 O) :
    Calls Tryd.prog 35 #[.agg #[nv M x]] w0 fun e w' => e = .returned (iN (bsz M)) ∧ Below w0.heap.size w0 w' := by
  refine enter_fr Tryd.func35 rfl Tryd.ntmps35 (by simp) fun ac (FF : Fr 20 ac [(0, aG #[nv M x])]) => ?_
  have MM : MemS (fun k => k < w0.heap.size ∧ ∀ x ∈ O, x.1 ≠ k) w0 w0 O [] := MemS.startN H hD
  refine wp_seq (rg_seq FF MM [o_, o_] [1, 2] (fun Kt => ∀ b1, Kt [(2, iN 0), (1, pT b1)] ((b1, oC #[nv M x] 37) :: O)) (by kernel_rfl) (fun _ => by kernel_rfl) (fun b1 => fun ac1 wd1 FF1 MM1 => then_n ?_))
  refine wp_seq (rg_seq FF1 MM1 [o_, l_ 0 (nv M x), o_, o_] [2, 1, 3] (fun Kt => b1 = b1 ∧ (#[nv M x] : Array Value)[0]? = some (nv M x) ∧ Kt [(3, iN (qsz M)), (2, iN 0), (1, pT b1)] ((b1, oC #[nv M x] 37) :: O)) (by kernel_rfl) (fun _ => by kernel_rfl) (⟨rfl, rfl, fun ac2 wd2 FF2 MM2 => then_n ?_⟩))
  refine wp_seq ?_
  refine wp_seq (rg_seq FF2 MM2 [o_, o_] [3, 2, 1, 8] (fun Kt => Kt [(8, .bool (decide ((qsz M) = 0))), (3, iN (qsz M)), (2, iN 0), (1, pT b1)] ((b1, oC #[nv M x] 37) :: O)) (by kernel_rfl) (fun _ => by kernel_rfl) (fun ac3 wd3 FF3 MM3 => then_n ?_))
  by_cases hs8 : (qsz M) = 0
  · refine wp_cond_true ((FF3.ev 0 rfl).trans (dec_t hs8)) ?_
    refine wp_seq (rg_seq FF3 MM3 [t_ (iN (bsz M))] [3, 2, 1] (fun Kt => iN 0 = iN (bsz M) ∧ Kt [(2, iN (bsz M)), (3, iN (qsz M)), (1, pT b1)] ((b1, oC #[nv M x] 37) :: O)) (by kernel_rfl) (fun _ => by kernel_rfl) (⟨(vI (by rw [qz0 hs8]; rfl)), fun ac4 wd4 FF4 MM4 => then_n ?_⟩))
    refine wp_ret ?_
    repeat first | refine then_ret ?_ | refine inb_ret ?_
    exact (ret_fr FF4 0 Tryd.results35 rfl ⟨rfl, MM4.belowN H (fun _ hx => List.mem_cons_of_mem _ (hx))⟩)
  · refine wp_cond_false ((FF3.ev 0 rfl).trans (dec_f hs8)) ?_
    refine wp_skip ?_
    refine then_n ?_
    refine wp_seq (rg_seq FF3 MM3 [o_, o_, o_, o_, l_ 0 (nv M x), o_, o_, f_ (.pointer (some ⟨gOf (pOf x), (qsz M) - 1, none⟩)), f_ (iW (qd M ((qsz M) - 1))), t_ (iN (bsz (qd M ((qsz M) - 1)))), t_ (iN (bsz M)), o_] [3, 2, 1] (fun Kt => 1 ≤ (qsz M) ∧ (qsz M) - 1 < 9223372036854775808 ∧ ((qsz M) - 1) * 64 < 9223372036854775808 ∧ b1 = b1 ∧ (#[nv M x] : Array Value)[0]? = some (nv M x) ∧ 1 ≤ (qsz M) ∧ (qsz M) - 1 < 9223372036854775808 ∧ RunV Tryd.prog [(15, iN ((qsz M) - 1)), (14, iN (qsz M)), (13, nv M x), (12, pT b1), (11, iN (((qsz M) - 1) * 64)), (10, iN ((qsz M) - 1)), (9, iN (qsz M)), (8, .bool (decide ((qsz M) = 0))), (3, iN (qsz M)), (2, iN 0), (1, pT b1)] ((b1, oC #[nv M x] 37) :: O) (opAt Tryd.f35 4 7) (.pointer (some ⟨gOf (pOf x), (qsz M) - 1, none⟩)) ∧ RunV Tryd.prog [(16, .pointer (some ⟨gOf (pOf x), (qsz M) - 1, none⟩)), (15, iN ((qsz M) - 1)), (14, iN (qsz M)), (13, nv M x), (12, pT b1), (11, iN (((qsz M) - 1) * 64)), (10, iN ((qsz M) - 1)), (9, iN (qsz M)), (8, .bool (decide ((qsz M) = 0))), (3, iN (qsz M)), (2, iN 0), (1, pT b1)] ((b1, oC #[nv M x] 37) :: O) (opAt Tryd.f35 4 8) (iW (qd M ((qsz M) - 1))) ∧ CallP Tryd.prog 55 [iW (qd M ((qsz M) - 1))] [] (iN (bsz (qd M ((qsz M) - 1)))) ∧ (((qsz M) - 1) * 64) + (bsz (qd M ((qsz M) - 1))) < 9223372036854775808 ∧ iN ((((qsz M) - 1) * 64) + (bsz (qd M ((qsz M) - 1)))) = iN (bsz M) ∧ Kt [(2, iN (bsz M)), (3, iN (qsz M)), (1, pT b1)] ((b1, oC #[nv M x] 37) :: O)) (by kernel_rfl) (fun _ => by kernel_rfl) (⟨(by omega), (by omega), (by omega), rfl, rfl, (by omega), (by omega), (rowAddr_ok (x := (.tmp 13)) (y := (.tmp 15)) (by kernel_rfl) rfl rfl Tryd.underlying35 (by kernel_rfl) (natO_cells hM) (by omega)), (rowLoad_ok (x := (.tmp 16)) (i := (qsz M) - 1) (by kernel_rfl) rfl Tryd.underlying61 rfl (natO_cells hM) (fun _ hx => List.mem_cons_of_mem _ (hx)) (by omega)), (callP_of en_len64 (len64_any (qd M ((qsz M) - 1)) (qd_lt _ _)) _), (by have := bsz64 (show qd M ((qsz M) - 1) < 18446744073709551616 from (qd_lt _ _)); omega), (vI (bits_top hs8)), fun ac5 wd5 FF5 MM5 => then_n ?_⟩))
    refine wp_ret ?_
    repeat first | refine then_ret ?_ | refine inb_ret ?_
    exact (ret_fr FF5 0 Tryd.results35 rfl ⟨rfl, MM5.belowN H (fun _ hx => List.mem_cons_of_mem _ (hx))⟩)
set_option maxRecDepth 100000 in
theorem ncmp_O (O : Blks) (hD : Distinct O) (M : Nat) (x : Value) (hM : NatO O (nv M x) M) (hs : qsz M < 1000000) (N : Nat) (y : Value) (hN : NatO O (nv N y) N) (w0 : World) (H : Has w0 O) :
    Calls Tryd.prog 33 #[.agg #[nv M x], .agg #[nv N y]] w0 fun e w' => e = .returned (.int .i64 (cmpN M N)) ∧ Below w0.heap.size w0 w' := by
  refine enter_fr Tryd.func33 rfl Tryd.ntmps33 (by simp) fun ac (FF : Fr 50 ac [(0, aG #[nv M x]), (1, aG #[nv N y])]) => ?_
  have MM : MemS (fun k => k < w0.heap.size ∧ ∀ x ∈ O, x.1 ≠ k) w0 w0 O [] := MemS.startN H hD
  refine wp_seq (rg_seq FF MM [o_, o_, o_] [2, 3, 4] (fun Kt => ∀ ba, ∀ bb, Kt [(4, iN 0), (3, pT bb), (2, pT ba)] ((bb, oC #[nv N y] 37) :: (ba, oC #[nv M x] 37) :: O)) (by kernel_rfl) (fun _ => by kernel_rfl) (fun ba => fun bb => fun ac1 wd1 FF1 MM1 => then_n ?_))
  refine wp_seq ?_
  refine wp_seq (rg_seq FF1 MM1 [o_, l_ 1 (nv M x), o_, o_, l_ 0 (nv N y), o_, o_] [4, 3, 2, 12] (fun Kt => ba = ba ∧ (#[nv M x] : Array Value)[0]? = some (nv M x) ∧ bb = bb ∧ (#[nv N y] : Array Value)[0]? = some (nv N y) ∧ Kt [(12, .bool (decide ((qsz M) ≠ (qsz N)))), (4, iN 0), (3, pT bb), (2, pT ba)] ((bb, oC #[nv N y] 37) :: (ba, oC #[nv M x] 37) :: O)) (by kernel_rfl) (fun _ => by kernel_rfl) (⟨rfl, rfl, rfl, rfl, fun ac2 wd2 FF2 MM2 => then_n ?_⟩))
  by_cases hs12 : (qsz M) ≠ (qsz N)
  · refine wp_cond_true ((FF2.ev 0 rfl).trans (dec_t hs12)) ?_
    refine wp_seq (rg_seq FF2 MM2 [o_, l_ 1 (nv M x), o_, o_, l_ 0 (nv N y), o_, t_ (.int .i64 (cmpN M N : Int)), o_] [4, 3, 2] (fun Kt => ba = ba ∧ (#[nv M x] : Array Value)[0]? = some (nv M x) ∧ bb = bb ∧ (#[nv N y] : Array Value)[0]? = some (nv N y) ∧ CallP Tryd.prog 52 [iN (qsz M), iN (qsz N)] [] (.int .i64 (cmpN M N : Int)) ∧ Kt [(4, .int .i64 (cmpN M N : Int)), (3, pT bb), (2, pT ba)] ((bb, oC #[nv N y] 37) :: (ba, oC #[nv M x] 37) :: O)) (by kernel_rfl) (fun _ => by kernel_rfl) (⟨rfl, rfl, rfl, rfl, (callP_of en_cmpi (fun w => by have h0 := cmpi_any (qsz M) (qsz N) w; rw [cmp_sizes hs12] at h0; exact h0) _), fun ac3 wd3 FF3 MM3 => then_n ?_⟩))
    refine wp_ret ?_
    repeat first | refine then_ret ?_ | refine inb_ret ?_
    exact (ret_fr FF3 0 Tryd.results33 rfl ⟨rfl, MM3.belowN H (fun _ hx => List.mem_cons_of_mem _ (List.mem_cons_of_mem _ (hx)))⟩)
  · refine wp_cond_false ((FF2.ev 0 rfl).trans (dec_f hs12)) ?_
    have hq0 : qsz M = qsz N := by omega
    refine wp_skip ?_
    refine then_n ?_
    refine wp_seq ?_
    refine wp_seq (rg_seq FF2 MM2 [o_, l_ 1 (nv M x), o_, u_ 4 (.int .i64 (((qsz M : Nat) : Int) - 1 : Int)), o_] [4, 3, 2, 5] (fun Kt => ba = ba ∧ (#[nv M x] : Array Value)[0]? = some (nv M x) ∧ -(9223372036854775808 : Int) ≤ ((qsz M : Nat) : Int) - ((1 : Nat) : Int) ∧ ((qsz M : Nat) : Int) - ((1 : Nat) : Int) < (9223372036854775808 : Nat) ∧ Value.int .i64 (((qsz M : Nat) : Int) - ((1 : Nat) : Int) : Int) = .int .i64 (((qsz M : Nat) : Int) - 1 : Int) ∧ Kt [(5, .int .i64 (((qsz M : Nat) : Int) - 1 : Int)), (4, iN 0), (3, pT bb), (2, pT ba)] ((bb, oC #[nv N y] 37) :: (ba, oC #[nv M x] 37) :: O)) (by kernel_rfl) (fun _ => by kernel_rfl) (⟨rfl, rfl, (by omega), (by omega), (vZ (by omega)), fun ac4 wd4 FF4 MM4 => then_n ?_⟩))
    refine wp_for2 (fun a' w' => ∃ j : Nat, j ≤ qsz M ∧ M / 18446744073709551616 ^ j = N / 18446744073709551616 ^ j ∧ Fr 50 a' [(5, .int .i64 (((j : Nat) : Int) - 1 : Int)), (3, pT bb), (2, pT ba)] ∧ MemS (fun k => k < w0.heap.size ∧ ∀ x ∈ O, x.1 ≠ k) w0 w' ((bb, oC #[nv N y] 37) :: (ba, oC #[nv M x] 37) :: O) []) (fun a' _ => (cnt 5 a' + 1).toNat) ⟨qsz M, Nat.le_refl _, qcmp_top hq0, FF4.pick [0, 2, 3], MM4⟩ ?_
    rintro ac5 wd5 ⟨j, hj, hq, FF5, MM5⟩
    have hc := cnt_of (FF5.get 0 rfl)
    refine rg_seq FF5 MM5 [o_, w_ 4] [5, 3, 2, 25] (fun Kt => Kt [(25, .bool (decide ((((j : Nat) : Int) - 1) ≥ ((0 : Nat) : Int)))), (5, .int .i64 (((j : Nat) : Int) - 1 : Int)), (3, pT bb), (2, pT ba)] ((bb, oC #[nv N y] 37) :: (ba, oC #[nv M x] 37) :: O)) (by kernel_rfl) (fun _ => by kernel_rfl) (fun ac6 wd6 FF6 MM6 => ?_)
    by_cases hlt : (((j : Nat) : Int) - 1) ≥ ((0 : Nat) : Int)
    · skip
      refine then_n (.inl ⟨(FF6.ev 0 rfl).trans (dec_t hlt), ?_⟩)
      obtain ⟨j, rfl⟩ : ∃ z, j = z + 1 := ⟨j - 1, by omega⟩
      refine wp_seq (rg_draw FF6 MM6 [.inl (pT ba), .inl (nv M x), .inl (iN j), .inl (.pointer (some ⟨gOf (pOf x), j, none⟩)), .inl (iW (qd M j)), .inl (pT bb), .inl (nv N y), .inl (iN j), .inl (.pointer (some ⟨gOf (pOf y), j, none⟩)), .inl (iW (qd N j)), .inl (.bool (decide ((qd M j) ≠ (qd N j))))] [] [o_, l_ 1 (nv M x), t_ (iN j), f_ (.pointer (some ⟨gOf (pOf x), j, none⟩)), f_ (iW (qd M j)), o_, l_ 0 (nv N y), t_ (iN j), f_ (.pointer (some ⟨gOf (pOf y), j, none⟩)), f_ (iW (qd N j)), o_] [] [5, 3, 2, 38] (fun nb => [ba = ba, (#[nv M x] : Array Value)[0]? = some (nv M x), Value.int .i64 ((((j + 1) : Nat) : Int) - 1 : Int) = iN j, RunV Tryd.prog [(29, nv M x), (30, iN j), (25, .bool (decide (((((j + 1) : Nat) : Int) - 1) ≥ ((0 : Nat) : Int)))), (5, .int .i64 ((((j + 1) : Nat) : Int) - 1 : Int)), (3, pT bb), (2, pT ba)] ((bb, oC #[nv N y] 37) :: (ba, oC #[nv M x] 37) :: O) (opAt Tryd.f33 6 3) (.pointer (some ⟨gOf (pOf x), j, none⟩)), RunV Tryd.prog [(31, .pointer (some ⟨gOf (pOf x), j, none⟩)), (25, .bool (decide (((((j + 1) : Nat) : Int) - 1) ≥ ((0 : Nat) : Int)))), (5, .int .i64 ((((j + 1) : Nat) : Int) - 1 : Int)), (3, pT bb), (2, pT ba)] ((bb, oC #[nv N y] 37) :: (ba, oC #[nv M x] 37) :: O) (opAt Tryd.f33 6 4) (iW (qd M j)), bb = bb, (#[nv N y] : Array Value)[0]? = some (nv N y), Value.int .i64 ((((j + 1) : Nat) : Int) - 1 : Int) = iN j, RunV Tryd.prog [(34, nv N y), (35, iN j), (25, .bool (decide (((((j + 1) : Nat) : Int) - 1) ≥ ((0 : Nat) : Int)))), (5, .int .i64 ((((j + 1) : Nat) : Int) - 1 : Int)), (3, pT bb), (2, pT ba)] ((bb, oC #[nv N y] 37) :: (ba, oC #[nv M x] 37) :: O) (opAt Tryd.f33 6 8) (.pointer (some ⟨gOf (pOf y), j, none⟩)), RunV Tryd.prog [(36, .pointer (some ⟨gOf (pOf y), j, none⟩)), (25, .bool (decide (((((j + 1) : Nat) : Int) - 1) ≥ ((0 : Nat) : Int)))), (5, .int .i64 ((((j + 1) : Nat) : Int) - 1 : Int)), (3, pT bb), (2, pT ba)] ((bb, oC #[nv N y] 37) :: (ba, oC #[nv M x] 37) :: O) (opAt Tryd.f33 6 9) (iW (qd N j))]) (fun nb Kt => Kt [(38, .bool (decide ((qd M j) ≠ (qd N j)))), (5, .int .i64 ((((j + 1) : Nat) : Int) - 1 : Int)), (3, pT bb), (2, pT ba)] ((bb, oC #[nv N y] 37) :: (ba, oC #[nv M x] 37) :: O)) (by kernel_rfl) (by kernel_rfl) (by kernel_rfl) (fun _ => by kernel_rfl) (fun _ _ => by kernel_rfl) trivial (fun nb => ⟨rfl, rfl, (vZ (by omega)), (rowAddr_ok (x := (.tmp 29)) (y := (.tmp 30)) (by kernel_rfl) rfl rfl Tryd.underlying35 (by kernel_rfl) (natO_cells hM) (by omega)), (rowLoad_ok (x := (.tmp 31)) (i := j) (by kernel_rfl) rfl Tryd.underlying61 rfl (natO_cells hM) (fun _ hx => List.mem_cons_of_mem _ (List.mem_cons_of_mem _ (hx))) (by omega)), rfl, rfl, (vZ (by omega)), (rowAddr_ok (x := (.tmp 34)) (y := (.tmp 35)) (by kernel_rfl) rfl rfl Tryd.underlying35 (by kernel_rfl) (natO_cells hN) (by omega)), (rowLoad_ok (x := (.tmp 36)) (i := j) (by kernel_rfl) rfl Tryd.underlying61 rfl (natO_cells hN) (fun _ hx => List.mem_cons_of_mem _ (List.mem_cons_of_mem _ (hx))) (by omega)), trivial⟩) (fun nb => fun ac7 wd7 FF7 MM7 => then_n ?_))
      by_cases hs38 : (qd M j) ≠ (qd N j)
      · refine wp_cond_true ((FF7.ev 0 rfl).trans (dec_t hs38)) ?_
        refine wp_seq (rg_draw FF7 MM7 [.inl (pT ba), .inl (nv M x), .inl (iN j), .inl (.pointer (some ⟨gOf (pOf x), j, none⟩)), .inl (iW (qd M j)), .inl (pT bb), .inl (nv N y), .inl (iN j), .inl (.pointer (some ⟨gOf (pOf y), j, none⟩)), .inl (iW (qd N j)), .inl (.int .i64 (cmpN M N : Int)), .inl (.int .i64 (cmpN M N : Int))] [] [o_, l_ 1 (nv M x), t_ (iN j), f_ (.pointer (some ⟨gOf (pOf x), j, none⟩)), f_ (iW (qd M j)), o_, l_ 0 (nv N y), t_ (iN j), f_ (.pointer (some ⟨gOf (pOf y), j, none⟩)), f_ (iW (qd N j)), t_ (.int .i64 (cmpN M N : Int)), o_] [] [5, 3, 2, 4] (fun nb => [ba = ba, (#[nv M x] : Array Value)[0]? = some (nv M x), Value.int .i64 ((((j + 1) : Nat) : Int) - 1 : Int) = iN j, RunV Tryd.prog [(40, nv M x), (41, iN j), (38, .bool (decide ((qd M j) ≠ (qd N j)))), (5, .int .i64 ((((j + 1) : Nat) : Int) - 1 : Int)), (3, pT bb), (2, pT ba)] ((bb, oC #[nv N y] 37) :: (ba, oC #[nv M x] 37) :: O) (opAt Tryd.f33 7 3) (.pointer (some ⟨gOf (pOf x), j, none⟩)), RunV Tryd.prog [(42, .pointer (some ⟨gOf (pOf x), j, none⟩)), (38, .bool (decide ((qd M j) ≠ (qd N j)))), (5, .int .i64 ((((j + 1) : Nat) : Int) - 1 : Int)), (3, pT bb), (2, pT ba)] ((bb, oC #[nv N y] 37) :: (ba, oC #[nv M x] 37) :: O) (opAt Tryd.f33 7 4) (iW (qd M j)), bb = bb, (#[nv N y] : Array Value)[0]? = some (nv N y), Value.int .i64 ((((j + 1) : Nat) : Int) - 1 : Int) = iN j, RunV Tryd.prog [(45, nv N y), (46, iN j), (38, .bool (decide ((qd M j) ≠ (qd N j)))), (5, .int .i64 ((((j + 1) : Nat) : Int) - 1 : Int)), (3, pT bb), (2, pT ba)] ((bb, oC #[nv N y] 37) :: (ba, oC #[nv M x] 37) :: O) (opAt Tryd.f33 7 8) (.pointer (some ⟨gOf (pOf y), j, none⟩)), RunV Tryd.prog [(47, .pointer (some ⟨gOf (pOf y), j, none⟩)), (38, .bool (decide ((qd M j) ≠ (qd N j)))), (5, .int .i64 ((((j + 1) : Nat) : Int) - 1 : Int)), (3, pT bb), (2, pT ba)] ((bb, oC #[nv N y] 37) :: (ba, oC #[nv M x] 37) :: O) (opAt Tryd.f33 7 9) (iW (qd N j)), CallP Tryd.prog 53 [iW (qd M j), iW (qd N j)] [] (.int .i64 (cmpN M N : Int))]) (fun nb Kt => Kt [(4, .int .i64 (cmpN M N : Int)), (5, .int .i64 ((((j + 1) : Nat) : Int) - 1 : Int)), (3, pT bb), (2, pT ba)] ((bb, oC #[nv N y] 37) :: (ba, oC #[nv M x] 37) :: O)) (by kernel_rfl) (by kernel_rfl) (by kernel_rfl) (fun _ => by kernel_rfl) (fun _ _ => by kernel_rfl) trivial (fun nb => ⟨rfl, rfl, (vZ (by omega)), (rowAddr_ok (x := (.tmp 40)) (y := (.tmp 41)) (by kernel_rfl) rfl rfl Tryd.underlying35 (by kernel_rfl) (natO_cells hM) (by omega)), (rowLoad_ok (x := (.tmp 42)) (i := j) (by kernel_rfl) rfl Tryd.underlying61 rfl (natO_cells hM) (fun _ hx => List.mem_cons_of_mem _ (List.mem_cons_of_mem _ (hx))) (by omega)), rfl, rfl, (vZ (by omega)), (rowAddr_ok (x := (.tmp 45)) (y := (.tmp 46)) (by kernel_rfl) rfl rfl Tryd.underlying35 (by kernel_rfl) (natO_cells hN) (by omega)), (rowLoad_ok (x := (.tmp 47)) (i := j) (by kernel_rfl) rfl Tryd.underlying61 rfl (natO_cells hN) (fun _ hx => List.mem_cons_of_mem _ (List.mem_cons_of_mem _ (hx))) (by omega)), (callP_of en_cmpu (fun w => by have h0 := cmpu_any (qd M j) (qd N j) w; rw [cmp_word hq hs38] at h0; exact h0) _), trivial⟩) (fun nb => fun ac8 wd8 FF8 MM8 => then_n ?_))
        refine wp_ret ?_
        repeat first | refine then_ret ?_ | refine inb_ret ?_
        exact (ret_fr FF8 0 Tryd.results33 rfl ⟨rfl, MM8.belowN H (fun _ hx => List.mem_cons_of_mem _ (List.mem_cons_of_mem _ (hx)))⟩)
      · refine wp_cond_false ((FF7.ev 0 rfl).trans (dec_f hs38)) ?_
        have hq2 := qcmp_eq hq (Classical.byContradiction fun h => hs38 h)
        refine wp_skip ?_
        refine inb_n (then_n ?_)
        refine rg_seq FF7 MM7 [o_, u_ 4 (.int .i64 (((j : Nat) : Int) - 1 : Int)), o_] [5, 3, 2] (fun Kt => -(9223372036854775808 : Int) ≤ ((((j + 1) : Nat) : Int) - 1) - ((1 : Nat) : Int) ∧ ((((j + 1) : Nat) : Int) - 1) - ((1 : Nat) : Int) < (9223372036854775808 : Nat) ∧ Value.int .i64 (((((j + 1) : Nat) : Int) - 1) - ((1 : Nat) : Int) : Int) = .int .i64 (((j : Nat) : Int) - 1 : Int) ∧ Kt [(5, .int .i64 (((j : Nat) : Int) - 1 : Int)), (3, pT bb), (2, pT ba)] ((bb, oC #[nv N y] 37) :: (ba, oC #[nv M x] 37) :: O)) (by kernel_rfl) (fun _ => by kernel_rfl) (⟨(by omega), (by omega), (vZ (by omega)), fun ac9 wd9 FF9 MM9 => ?_⟩)
        have hd := cnt_of (FF9.get 0 rfl)
        refine then_n ⟨⟨j, by omega, hq2, FF9.pick [0, 1, 2], MM9⟩, ?_⟩
        rw [hc, hd]; omega
    · skip
      refine then_n (.inr ⟨(FF6.ev 0 rfl).trans (dec_f hlt), ?_⟩)
      obtain rfl : j = 0 := by omega
      have hMN : M = N := by simpa using hq
      refine then_n ?_
      refine wp_seq (rg_seq FF6 MM6 [t_ (.int .i64 (cmpN M N : Int))] [5, 3, 2, 4] (fun Kt => iN 0 = .int .i64 (cmpN M N : Int) ∧ Kt [(4, .int .i64 (cmpN M N : Int)), (5, .int .i64 (((0 : Nat) : Int) - 1 : Int)), (3, pT bb), (2, pT ba)] ((bb, oC #[nv N y] 37) :: (ba, oC #[nv M x] 37) :: O)) (by kernel_rfl) (fun _ => by kernel_rfl) (⟨(vZ (cmp0 hMN)), fun ac10 wd10 FF10 MM10 => then_n ?_⟩))
      refine wp_ret ?_
      repeat first | refine then_ret ?_ | refine inb_ret ?_
      exact (ret_fr FF10 0 Tryd.results33 rfl ⟨rfl, MM10.belowN H (fun _ hx => List.mem_cons_of_mem _ (List.mem_cons_of_mem _ (hx)))⟩)
theorem nat1_O {w : World} {M : Nat} {x : Value} (h : NatIn w (nv M x) M) : ∃ O : Blks, Has w O ∧ Distinct O ∧ NatO O (nv M x) M := by
  obtain ⟨O, h1, h2, h3, _⟩ := nats_O [(nv M x, M)] (fun y hy => by rw [List.mem_singleton] at hy; subst hy; exact h) [] (fun i y hy => by simp at hy) .nil
  exact ⟨O, h1, distinct_of h2, h3.get 0 rfl⟩
theorem nat2_O {w : World} {M N : Nat} {x y : Value} (h : NatIn w (nv M x) M) (h' : NatIn w (nv N y) N) : ∃ O : Blks, Has w O ∧ Distinct O ∧ NatO O (nv M x) M ∧ NatO O (nv N y) N := by
  obtain ⟨O, h1, h2, h3, _⟩ := nats_O [(nv M x, M), (nv N y, N)] (fun z hz => by
    simp only [List.mem_cons, List.not_mem_nil, or_false] at hz
    rcases hz with rfl | rfl <;> assumption) [] (fun i y hy => by simp at hy) .nil
  exact ⟨O, h1, distinct_of h2, h3.get 0 rfl, h3.get 1 rfl⟩
theorem nbits_any (M : Nat) (x : Value) (hs : qsz M < 1000000) (w : World) (hM : NatIn w (nv M x) M) : Calls Tryd.prog 35 #[.agg #[nv M x]] w fun e w' => e = .returned (iN (bsz M)) ∧ Below w.heap.size w w' := by
  obtain ⟨O, h1, h2, h3⟩ := nat1_O hM
  exact nbits_O O h2 M x h3 hs w h1
theorem ncmp_any (M : Nat) (x : Value) (hs : qsz M < 1000000) (N : Nat) (y : Value) (w : World) (hM : NatIn w (nv M x) M) (hN : NatIn w (nv N y) N) : Calls Tryd.prog 33 #[.agg #[nv M x], .agg #[nv N y]] w fun e w' => e = .returned (.int .i64 (cmpN M N)) ∧ Below w.heap.size w w' := by
  obtain ⟨O, h1, h2, h3, h4⟩ := nat2_O hM hN
  exact ncmp_O O h2 M x h3 hs N y h4 w h1
end Go.Proofs.YtlljedijldkcbaaDoor
namespace Go.Proofs.YtlljedijldkcbaaDoor
open Go.RowKit
section
variable {P : Program} {o : Oper} {w0 w w' : World} {n : Nat} {l : Slots} {L O : Blks} {S : Nat → Prop} {R : List Row}
theorem add64_ok {f : FuncId} {fn : Func} {ts : Array TypeId} {x y z : Operand} {a b c : Nat} (hc : c ≤ 1) (ho : o.op = .call ⟨.value (.func f), #[x, y, z], ts⟩) (hx : evO l x = some (.int .u64 (a : Nat))) (hy : evO l y = some (.int .u64 (b : Nat))) (hz : evO l z = some (.int .u64 (c : Nat))) (hf : P.funcs[f]? = some fn) (hname : (fn.name == "runtime.NumGoroutine") = false) (hb : fn.body.isNone = true) (hn : Extern.findNext fn = none)
    (he : Extern.find fn = some add64Entry) : RunV P l L o (.tuple #[.int .u64 ((a + b + c) % 18446744073709551616 : Nat), .int .u64 ((a + b + c) / 18446744073709551616 : Nat)]) := fun ρ w A _ => by
  have h1 : ρ x = .int .u64 (a : Int) := A x _ hx
  have h2 : ρ y = .int .u64 (b : Int) := A y _ hy
  have h5 : ρ z = .int .u64 (c : Int) := A z _ hz
  have h3 : ρ (.func f) = .func (.func f) #[] #[] := A (.func f) _ rfl
  have h4 : (callFunc f #[.int .u64 (a : Int), .int .u64 (b : Int), .int .u64 (c : Int)]).run P w = .ok (.value (.tuple #[.int .u64 ((a + b + c) % 18446744073709551616 : Nat), .int .u64 ((a + b + c) / 18446744073709551616 : Nat)])) w := by
    rw [run_callFunc_extern hf hname hb hn he, run_add64 a b c (by omega) (by omega) (by omega) (by omega)]
    simp only [Result.andThen]
    congr 5 <;> omega
  simp [execOp, ho, resolve, h1, h2, h5, h3, Deferred.ofValue, invoke, h4]
/-- Words as cells. -/
def wc (X : List Nat) : List Value := X.map fun x => .int .u64 (x : Nat)
theorem wc_len (X : List Nat) : (wc X).length = X.length * 1 := by simp [wc]
theorem wc_cn (X : List Nat) : (cn .u64 X).toList = wc X := by simp [cn, wc]
theorem wc_app (X Y : List Nat) : wc X ++ wc Y = wc (X ++ Y) := by simp [wc]
theorem wc_one (X : List Nat) : ∀ u ∈ wc X, u.oneCell' = true := fun u hu => by
  obtain ⟨x, _, rfl⟩ := List.mem_map.1 hu
  rfl
theorem wc_rep (k : Nat) : List.replicate k (Value.int .u64 0) = wc (List.replicate k 0) := by simp [wc]
theorem lies_cn64 {b : Nat} {X : List Nat} {T : TypeId} {fr : Nat × Nat} (h : w.heap[b]? = some (.cells (cn .u64 X) T fr)) : ∀ (j : Nat) u, (wc X)[j]? = some u → w.cell? ((⟨b, 0, none⟩ : Addr).add j) = some u := fun j u hu => by
  rw [add_off, cell_of h, ← hu, ← wc_cn]; simp
theorem lies_O {p : Option Addr} {X : List Nat} (h : CellsIn w p X.length (fun j => .int .u64 (X.getD j 0 : Nat))) {ad : Addr} (hp : p = some ad) : ∀ (j : Nat) u, (wc X)[j]? = some u → w.cell? (ad.add j) = some u := fun j u hu => by
  have hj : j < X.length := by
    rcases Nat.lt_or_ge j X.length with h | h
    · exact h
    · rw [List.getElem?_eq_none (by rw [wc_len]; omega)] at hu; cases hu
  rcases h with h | ⟨b, cs, T, fr, h1, h2, h3⟩
  · omega
  · rw [hp] at h1
    obtain rfl := Option.some.inj h1
    rw [add_off, cell_of h2, Nat.zero_add, h3 j hj, ← hu]
    simp [wc, hj]
/-- A row of words as a block. -/
theorem MemS.freezeW {g m cap : Nat} {e : TypeId} {X : List Nat} (M : MemS S w0 w L ((.slice (some ⟨g, 0, none⟩) m cap, e, 1, m, wc X) :: R)) : ∃ rest : Array Value, MemS S w0 w ((g, .cells (cn .u64 X ++ rest) e) :: L) R ∧ w0.heap.size ≤ g ∧ m ≤ cap ∧ cap ≤ maxLen ∧ (cn .u64 X ++ rest).size = cap ∧ X.length = m := by
  obtain ⟨cur, h1, h2, h3, h4, h5, h6, h7⟩ := M.freeze
  have e1 : cur = cn .u64 X ++ (cur.toList.drop m).toArray := by
    apply Array.ext'
    rw [Array.toList_append, wc_cn]
    conv => lhs; rw [← List.take_append_drop m cur.toList]
    rw [Nat.mul_one] at h6
    rw [h6]
  refine ⟨(cur.toList.drop m).toArray, ?_, h2, h3, h4, ?_, ?_⟩
  · rw [← e1]; exact h1
  · rw [← e1, h5, Nat.mul_one]
  · rw [wc_len] at h7; omega
theorem MemS.thawW {g m cap : Nat} {e : TypeId} {X : List Nat} {rest : Array Value} (M : MemS S w0 w ((g, .cells (cn .u64 X ++ rest) e) :: L) R) (hg : w0.heap.size ≤ g) (hX : X.length = m) (hm : m ≤ cap) (hc : cap ≤ maxLen) (hs : (cn .u64 X ++ rest).size = cap) : MemS S w0 w L ((.slice (some ⟨g, 0, none⟩) m cap, e, 1, m, wc X) :: R) := by
  refine M.thaw hg hm hc (by rw [hs, Nat.mul_one]) (by rw [wc_len, hX]) ?_
  rw [Nat.mul_one, Array.toList_append, wc_cn, ← hX, show X.length = (wc X).length by simp [wc], List.take_left]
theorem MemS.rowSome {q : Option Addr} {m c k : Nat} {e : TypeId} {X : List Value} (M : MemS S w0 w L ((.slice q m c, e, k, m, X) :: R)) (h : 0 < m) : ∃ g, q = some ⟨g, 0, none⟩ := by
  rcases M.rowForm with ⟨_, h2⟩ | ⟨g, cap, h1⟩
  · omega
  · simp only [Value.slice.injEq] at h1
    exact ⟨g, h1.1⟩
/-- One block turns. -/
structure Turn (g : Nat) (ob : Obj) (w w' : World) : Prop where
  os : w'.os = w.os
  tape : w'.tape = w.tape
  output : w'.output = w.output
  size : w.heap.size ≤ w'.heap.size
  block : ∀ k, k < w.heap.size → k ≠ g → w'.heap[k]? = w.heap[k]?
  now : w'.heap[g]? = some ob
theorem MemS.turn {g : Nat} {ob ob' : Obj} (M : MemS (fun k => k < w0.heap.size ∧ ∀ x ∈ (g, ob) :: O, x.1 ≠ k) w0 w L R) (H : Has w0 O) (i : Nat) (hi : L[i]? = some (g, ob')) (hO : ∀ x ∈ O, x ∈ L) : Turn g ob' w0 w := by
  refine ⟨M.os, M.tape, M.output, M.size, fun k hk hne => ?_, M.get i hi⟩
  by_cases h : ∃ x ∈ O, x.1 = k
  · obtain ⟨x, hx, rfl⟩ := h
    rw [Has.mem M.hasL (hO x hx), Has.mem H hx]
  · exact M.block k ⟨hk, fun x hx e => by
      rcases List.mem_cons.1 hx with rfl | hx
      · exact hne e.symm
      · exact h ⟨x, hx, e⟩⟩
theorem MemS.turned {g : Nat} {ob ob' : Obj} (M : MemS S w0 w ((g, ob) :: L) R) (t : Turn g ob' w w') : MemS S w0 w' ((g, ob') :: L) R := by
  have p : Post w w' ((g, ob) :: L) ⟨fun _ => undef, none, [(0, ob')]⟩ 0 := ⟨t.os, t.tape, t.output, t.size, fun k hk hn => t.block k hk (fun e => hn _ (List.mem_singleton.2 rfl) (g, ob) rfl e.symm), fun _ h => (nomatch h), fun _ => rfl, fun u hu y hy => by
    rw [List.mem_singleton] at hu
    subst hu
    obtain rfl := Option.some.inj hy
    exact t.now⟩
  have := M.post p
  simpa [newL, setAll, modAt] using this
end
end Go.Proofs.YtlljedijldkcbaaDoor
namespace Go.Proofs.YtlljedijldkcbaaDoor
open Go.RowKit
theorem qd_out {N i : Nat} (h : qsz N ≤ i) : qd N i = 0 := by unfold qd; rw [Nat.div_eq_of_lt (qlt_sz h)]
/-- The words of a sum, up to i; then those of the first number. -/
def adL (n M N i : Nat) : List Nat := (List.range n).map fun j => if j < i then qd (M + N) j else qd M j
theorem adL_len (n M N i : Nat) : (adL n M N i).length = n := by simp [adL]
theorem adL_get (n M N i : Nat) {j : Nat} (h : j < n) : (adL n M N i).getD j 0 = if j < i then qd (M + N) j else qd M j := by simp [adL, h]
theorem adL_zero (n M N : Nat) : adL n M N 0 = qleB n M := by
  refine ext_getD (by rw [adL_len, qleB_len]) fun j hj => ?_
  rw [adL_len] at hj
  rw [adL_get n M N 0 hj, qleB_get hj, if_neg (by omega)]; rfl
theorem adL_step (n M N i : Nat) (h : i < n) : (adL n M N i).set i (qd (M + N) i) = adL n M N (i + 1) := by
  refine ext_getD (by simp [adL]) fun j hj => ?_
  simp only [List.length_set, adL_len] at hj
  rw [getD_set, adL_get n M N i hj, adL_get n M N (i + 1) hj, adL_len]
  by_cases e : i = j
  · subst e; rw [if_pos ⟨rfl, h⟩, if_pos (by omega)]
  · rw [if_neg (fun h => e h.1)]
    by_cases h1 : j < i
    · rw [if_pos h1, if_pos (by omega)]
    · rw [if_neg h1, if_neg (by omega)]
theorem add_word (M N i : Nat) : (qd M i + qd N i + qcarB M N i) % 18446744073709551616 = qd (M + N) i := by
  have := qcar_digit M N i
  unfold qd
  rw [← this]; congr 1; omega
theorem add_carry (M N i : Nat) : (qd M i + qd N i + qcarB M N i) / 18446744073709551616 = qcarB M N (i + 1) := by
  have := qcar_step M N i
  unfold qd
  rw [← this]; congr 1; omega
theorem qcar_le (M N i : Nat) : qcarB M N i ≤ 1 := by have := qcar_lt M N i; omega
theorem add_same {M N i : Nat} (h : qsz N ≤ i) (hc : qcarB M N i = 0) : (M + N) / 18446744073709551616 ^ i = M / 18446744073709551616 ^ i := by
  rw [sum_div _ _ _ (qpw_pos i), Nat.div_eq_of_lt (qlt_sz h)]
  unfold qcarB at hc
  omega
theorem div_more (K : Nat) {i j : Nat} (h : i ≤ j) : K / 18446744073709551616 ^ j = K / 18446744073709551616 ^ i / 18446744073709551616 ^ (j - i) := by
  rw [Nat.div_div_eq_div_mul, ← Nat.pow_add]; congr 2; omega
theorem add_fin0 {n M N i : Nat} (h : qsz N ≤ i) (hi : i ≤ n) (hM : qsz M ≤ n) (hc : qcarB M N i = 0) : adL n M N i = qleB n (M + N) ∧ M + N < 18446744073709551616 ^ n := by
  have e := add_same h hc
  constructor
  · refine ext_getD (by rw [adL_len, qleB_len]) fun j hj => ?_
    rw [adL_len] at hj
    rw [adL_get n M N i hj, qleB_get hj]
    split
    · rfl
    · unfold qd
      rw [div_more M (show i ≤ j by omega), div_more (M + N) (show i ≤ j by omega), e]
  · have h1 := div_more M hi
    have h2 := div_more (M + N) hi
    rw [e, ← h1, Nat.div_eq_of_lt (qlt_sz hM)] at h2
    rcases Nat.lt_or_ge (M + N) (18446744073709551616 ^ n) with c | c
    · exact c
    · have := Nat.div_pos c (qpw_pos n); omega
theorem add_fin1 (n M N : Nat) : adL n M N n = qleB n (M + N) := by
  refine ext_getD (by rw [adL_len, qleB_len]) fun j hj => ?_
  rw [adL_len] at hj
  rw [adL_get n M N n hj, qleB_get hj, if_pos hj]; rfl
theorem add_size0 {n M N : Nat} (hn : n = qsz M ∨ n = qsz N) (h : M + N < 18446744073709551616 ^ n) : n = qsz (M + N) := by
  have h1 := qsz_le h
  have h2 := qsz_mono (Nat.le_add_right M N)
  have h3 := qsz_mono (Nat.le_add_left N M)
  omega
theorem add_size1 {n M N : Nat} (hM : qsz M ≤ n) (hN : qsz N ≤ n) (hc : qcarB M N n > 0) : n + 1 = qsz (M + N) ∧ qd (M + N) n = qcarB M N n := by
  have e : (M + N) / 18446744073709551616 ^ n = qcarB M N n := by
    rw [sum_div _ _ _ (qpw_pos n), Nat.div_eq_of_lt (qlt_sz hM), Nat.div_eq_of_lt (qlt_sz hN)]
    unfold qcarB; omega
  have hl := qcar_lt M N n
  have h1 : 18446744073709551616 ^ n ≤ M + N := Nat.le_of_not_lt fun h => by rw [Nat.div_eq_of_lt h] at e; omega
  have h2 : M + N < 18446744073709551616 ^ (n + 1) := by
    rw [Nat.pow_succ]
    refine (Nat.div_lt_iff_lt_mul (qpw_pos n)).1 ?_ |> fun h => by rwa [Nat.mul_comm] at h
    rw [e]; omega
  refine ⟨qsz_of h2 (.inr (by simpa using h1)), ?_⟩
  unfold qd
  rw [e, Nat.mod_eq_of_lt (by omega)]
theorem add_row1 {n M N : Nat} (h : n + 1 = qsz (M + N) ∧ qd (M + N) n = qcarB M N n) : qleB n (M + N) ++ [qcarB M N n] = qminB (M + N) := by
  rw [qminB, ← h.1, qleB_succ, ← h.2]; rfl
end Go.Proofs.YtlljedijldkcbaaDoor
namespace Go.Proofs.YtlljedijldkcbaaDoor
open Go.RowKit
theorem pad_min {M n : Nat} (h : qsz M ≤ n) : qminB M ++ List.replicate (n - qsz M) 0 = qleB n M := by
  have := qpad_leB (N := M) (n := n) (k := n) (Nat.le_refl _)
  rw [← this, List.take_append, qminB_len, List.take_of_length_le (by rw [qminB_len]; exact h), List.take_replicate, Nat.min_eq_left (by omega)]
set_option maxRecDepth 100000 in
theorem plus_main {S : Nat → Prop} {w0 : World} {L : Blks} {R : List Row} {q : Option Addr} {c : Nat} (M N : Nat) (y : Value) (hN : NatO L (nv N y) N) (h0 : 0 < qsz M ∨ 0 < qsz N) (hs : qsz M < 1000000) (hs2 : qsz N < 1000000) (w : World) (MM : MemS S w0 w L ((Value.slice q (qsz M) c, 61, 1, qsz M, wc (qminB M)) :: R)) :
    Calls Tryd.prog 49 #[.slice q (qsz M) c, nv N y] w fun e w' => ∃ q' c', e = .returned (.slice q' (qsz (M + N)) c') ∧ MemS S w0 w' L ((Value.slice q' (qsz (M + N)) c', 61, 1, qsz (M + N), wc (qminB (M + N))) :: R) := by
  refine enter_fr Tryd.func49 rfl Tryd.ntmps49 (by simp) fun ac (FF : Fr 73 ac [(0, .slice q (qsz M) c), (1, nv N y)]) => ?_
  refine wp_seq (rg_seq FF MM [o_] [0, 1, 4] (fun Kt => Kt [(4, .slice none 0 0), (0, .slice q (qsz M) c), (1, nv N y)] L) (by kernel_rfl) (fun _ => by kernel_rfl) (fun ac1 wd1 FF1 MM1 => then_n ?_))
  refine wp_seq ?_
  refine wp_seq (rg_seq FF1 MM1 [o_, o_, o_, o_, o_] [4, 0, 1, 13] (fun Kt => Kt [(13, .bool (decide ((qsz N) > (qsz M)))), (4, .slice none 0 0), (0, .slice q (qsz M) c), (1, nv N y)] L) (by kernel_rfl) (fun _ => by kernel_rfl) (fun ac2 wd2 FF2 MM2 => then_n ?_))
  by_cases hs13 : (qsz N) > (qsz M)
  · refine wp_cond_true ((FF2.ev 0 rfl).trans (dec_t hs13)) ?_
    refine wp_region_list ?_
    refine rg_part 6 FF2 MM2 [o_, o_, o_, o_, o_, o_] [4, 0, 1, 14, 19] (fun Kt => (qsz M) ≤ (qsz N) ∧ (qsz N) - (qsz M) < 9223372036854775808 ∧ Kt [(19, iN ((qsz N) - (qsz M))), (14, .slice q (qsz M) c), (4, .slice none 0 0), (0, .slice q (qsz M) c), (1, nv N y)] L) (by kernel_rfl) (fun _ => by kernel_rfl) (⟨(by omega), (by omega), fun ac3 wd3 FF3 MM3 => ?_⟩)
    refine st_appZ [4, 0, 1, 20] FF3 MM3 (d := 20) (s := 14) (x := (.tmp 19)) (z := .int .u64 0) (bb := 8) rfl rfl rfl rfl rfl Tryd.underlying35 Tryd.underlying3 (by kernel_rfl) (by omega) (by simp only [maxLen]; omega) (by omega) rfl rfl (by decide) fun ac6 wd6 rg4 rc5 (FF6 : Fr 73 ac6 [(20, .slice (some ⟨rg4, 0, none⟩) ((qsz M) + ((qsz N) - (qsz M))) rc5), (4, .slice none 0 0), (0, .slice q (qsz M) c), (1, nv N y)]) (MM6 : MemS S w0 wd6 L ((.slice (some ⟨rg4, 0, none⟩) ((qsz M) + ((qsz N) - (qsz M))) rc5, 61, 1, ((qsz M) + ((qsz N) - (qsz M))), ((wc (qminB M)) ++ List.replicate ((qsz N) - (qsz M)) (Value.int .u64 0))) :: R)) => ?_
    have MMx : MemS S w0 wd6 L ((.slice (some ⟨rg4, 0, none⟩) (qsz N) rc5, 61, 1, (qsz N), (wc (qleB (qsz N) M))) :: R) := by have h9 := MM6; rw [wc_rep, wc_app, pad_min (show qsz M ≤ qsz N by omega), show qsz M + (qsz N - qsz M) = qsz N by omega] at h9; exact h9
    rw [show qsz M + (qsz N - qsz M) = qsz N by omega] at FF6
    refine rg_part 1 FF6 MMx [o_] [4, 0, 1] (fun Kt => Kt [(0, .slice (some ⟨rg4, 0, none⟩) (qsz N) rc5), (4, .slice none 0 0), (1, nv N y)] L) (by kernel_rfl) (fun _ => by kernel_rfl) (fun ac7 wd7 FF7 MM7 => ?_)
    refine wpl_nil ?_
    obtain ⟨rs, MMz, hg, hcap, hmx, hsz, hlen⟩ := MemS.freezeW (X := qleB (qsz N) M) MM7
    have MMy : MemS S w0 wd7 ((rg4, .cells ((cn .u64 (adL (qsz N) M N 0)) ++ rs) 61) :: L) R := by rw [adL_zero]; exact MMz
    have hsz2 : ∀ i, (cn .u64 (adL (qsz N) M N i) ++ rs).size = rc5 := fun i => by rw [Array.size_append, cn_size, adL_len]; rw [Array.size_append, cn_size, qleB_len] at hsz; exact hsz
    have hnM : qsz M ≤ qsz N := by omega
    have hnN : qsz N ≤ qsz N := by omega
    have hn0 : qsz N = qsz M ∨ qsz N = qsz N := by first | exact .inl rfl | exact .inr rfl
    refine then_n ?_
    refine wp_seq (rg_seq FF7 MMy [o_] [0, 4, 1, 5] (fun Kt => Kt [(5, iW 0), (0, .slice (some ⟨rg4, 0, none⟩) (qsz N) rc5), (4, .slice none 0 0), (1, nv N y)] ((rg4, .cells ((cn .u64 (adL (qsz N) M N 0)) ++ rs) 61) :: L)) (by kernel_rfl) (fun _ => by kernel_rfl) (fun ac8 wd8 FF8 MM8 => then_n ?_))
    refine wp_seq ?_
    refine wp_seq (rg_seq FF8 MM8 [o_, o_, o_] [5, 0, 4, 1, 21, 22, 23] (fun Kt => Kt [(23, iN 0), (22, iN (qsz N)), (21, nv N y), (5, iW 0), (0, .slice (some ⟨rg4, 0, none⟩) (qsz N) rc5), (4, .slice none 0 0), (1, nv N y)] ((rg4, .cells ((cn .u64 (adL (qsz N) M N 0)) ++ rs) 61) :: L)) (by kernel_rfl) (fun _ => by kernel_rfl) (fun ac9 wd9 FF9 MM9 => then_n ?_))
    refine wp_for (fun a' w' => ∃ i : Nat, ∃ cc : Nat, i ≤ qsz N ∧ cc = qcarB M N i ∧ Fr 73 a' [(23, iN i), (22, iN (qsz N)), (21, nv N y), (5, iW cc), (0, .slice (some ⟨rg4, 0, none⟩) (qsz N) rc5), (4, .slice none 0 0), (1, nv N y)] ∧ MemS S w0 w' ((rg4, .cells ((cn .u64 (adL (qsz N) M N i)) ++ rs) 61) :: L) R) (fun a' _ => (qsz N - cnt 23 a').toNat) ⟨0, 0, by omega, (qcar_zero M N).symm, FF9.pick [0, 1, 2, 3, 4, 5, 6], MM9⟩ ?_
    rintro ac10 wd10 ⟨i, cc, hi, hcc, FF10, MM10⟩
    have hc := cnt_of (FF10.get 0 rfl)
    refine rg_seq FF10 MM10 [o_] [23, 22, 21, 5, 0, 4, 1, 24] (fun Kt => Kt [(24, .bool (decide (i < (qsz N)))), (23, iN i), (22, iN (qsz N)), (21, nv N y), (5, iW cc), (0, .slice (some ⟨rg4, 0, none⟩) (qsz N) rc5), (4, .slice none 0 0), (1, nv N y)] ((rg4, .cells ((cn .u64 (adL (qsz N) M N i)) ++ rs) 61) :: L)) (by kernel_rfl) (fun _ => by kernel_rfl) (fun ac11 wd11 FF11 MM11 => ?_)
    by_cases hlt : i < (qsz N)
    · skip
      refine then_n (.inl ⟨(FF11.ev 0 rfl).trans (dec_t hlt), ?_⟩)
      refine wp_seq (rg_seq FF11 MM11 [o_, f_ (.pointer (some ⟨gOf (pOf y), i, none⟩)), f_ (iW (qd N i)), o_, o_] [23, 22, 21, 5, 0, 4, 1, 6, 7] (fun Kt => RunV Tryd.prog [(25, iN i), (24, .bool (decide (i < (qsz N)))), (23, iN i), (22, iN (qsz N)), (21, nv N y), (5, iW cc), (0, .slice (some ⟨rg4, 0, none⟩) (qsz N) rc5), (4, .slice none 0 0), (1, nv N y)] ((rg4, .cells ((cn .u64 (adL (qsz N) M N i)) ++ rs) 61) :: L) (opAt Tryd.f49 6 1) (.pointer (some ⟨gOf (pOf y), i, none⟩)) ∧ RunV Tryd.prog [(26, .pointer (some ⟨gOf (pOf y), i, none⟩)), (25, iN i), (24, .bool (decide (i < (qsz N)))), (23, iN i), (22, iN (qsz N)), (21, nv N y), (5, iW cc), (0, .slice (some ⟨rg4, 0, none⟩) (qsz N) rc5), (4, .slice none 0 0), (1, nv N y)] ((rg4, .cells ((cn .u64 (adL (qsz N) M N i)) ++ rs) 61) :: L) (opAt Tryd.f49 6 2) (iW (qd N i)) ∧ Kt [(7, iW (qd N i)), (6, iN i), (23, iN i), (22, iN (qsz N)), (21, nv N y), (5, iW cc), (0, .slice (some ⟨rg4, 0, none⟩) (qsz N) rc5), (4, .slice none 0 0), (1, nv N y)] ((rg4, .cells ((cn .u64 (adL (qsz N) M N i)) ++ rs) 61) :: L)) (by kernel_rfl) (fun _ => by kernel_rfl) (⟨(rowAddr_ok (x := (.tmp 21)) (y := (.tmp 23)) (by kernel_rfl) rfl rfl Tryd.underlying35 (by kernel_rfl) (natO_cells hN) (by omega)), (rowLoad_ok (x := (.tmp 26)) (i := i) (by kernel_rfl) rfl Tryd.underlying61 rfl (natO_cells hN) (fun _ hx => List.mem_cons_of_mem _ (hx)) (by omega)), fun ac12 wd12 FF12 MM12 => then_n ?_⟩))
      have hcl := qcar_le M N i
      have hw := add_word M N i
      have hy := add_carry M N i
      rw [← hcc] at hw hy
      refine rg_seq FF12 MM12 [o_, o_, o_, o_, w_ 1, l_ 0 (iW (qd M i)), o_, o_, f_ (.tuple #[iW (((qd M i) + (qd N i) + cc) % 18446744073709551616), iW (((qd M i) + (qd N i) + cc) / 18446744073709551616)]), o_, t_ (iW (qd (M + N) i)), t_ (iW (qcarB M N (i + 1))), w_ 1, s_ 0 (.cells ((cn .u64 (adL (qsz N) M N (i + 1))) ++ rs) 61), o_] [7, 6, 23, 22, 21, 5, 0, 4, 1] (fun Kt => i < (qsz N) ∧ rg4 = rg4 ∧ ((cn .u64 (adL (qsz N) M N i)) ++ rs)[i]? = some (iW (qd M i)) ∧ RunV Tryd.prog [(36, iW cc), (35, iW (qd N i)), (34, iW (qd M i)), (33, .pointer (some ⟨rg4, i, none⟩)), (32, iN i), (31, .slice (some ⟨rg4, 0, none⟩) (qsz N) rc5), (30, iN i), (29, .slice (some ⟨rg4, 0, none⟩) (qsz N) rc5), (7, iW (qd N i)), (6, iN i), (23, iN i), (22, iN (qsz N)), (21, nv N y), (5, iW cc), (0, .slice (some ⟨rg4, 0, none⟩) (qsz N) rc5), (4, .slice none 0 0), (1, nv N y)] ((rg4, .cells ((cn .u64 (adL (qsz N) M N i)) ++ rs) 61) :: L) (opAt Tryd.f49 7 8) (.tuple #[iW (((qd M i) + (qd N i) + cc) % 18446744073709551616), iW (((qd M i) + (qd N i) + cc) / 18446744073709551616)]) ∧ iW (((qd M i) + (qd N i) + cc) % 18446744073709551616) = iW (qd (M + N) i) ∧ iW (((qd M i) + (qd N i) + cc) / 18446744073709551616) = iW (qcarB M N (i + 1)) ∧ i < (qsz N) ∧ rg4 = rg4 ∧ i < ((cn .u64 (adL (qsz N) M N i)) ++ rs).size ∧ (((0, 0)).2 = 0 ∨ i < ((0, 0)).1) ∧ ((cn .u64 (adL (qsz N) M N i)) ++ rs).setIfInBounds i (iW (qd (M + N) i)) = (cn .u64 (adL (qsz N) M N (i + 1))) ++ rs ∧ Kt [(5, iW (qcarB M N (i + 1))), (7, iW (qd N i)), (6, iN i), (23, iN i), (22, iN (qsz N)), (21, nv N y), (0, .slice (some ⟨rg4, 0, none⟩) (qsz N) rc5), (4, .slice none 0 0), (1, nv N y)] ((rg4, .cells ((cn .u64 (adL (qsz N) M N (i + 1))) ++ rs) 61) :: L)) (by kernel_rfl) (fun _ => by kernel_rfl) (⟨(by omega), rfl, ((cat_l (by rw [cn_size, adL_len]; omega)).trans ((cn_get _ _ _ (by rw [adL_len]; omega)).trans (congrArg some (vI ((adL_get _ _ _ _ (by omega)).trans (if_neg (by omega))))))), (add64_ok (f := 66) (ts := #[61, 61, 61]) (x := (.tmp 34)) (y := (.tmp 35)) (z := (.tmp 36)) (by omega) (by kernel_rfl) rfl rfl rfl Tryd.func66 (by kernel_rfl) (by kernel_rfl) (by kernel_rfl) (by kernel_rfl)), (vI hw), (vI hy), (by omega), rfl, (by rw [hsz2]; omega), (.inl rfl), ((cat_set_l (by rw [cn_size, adL_len]; omega)).trans (congrArg (· ++ _) ((cn_set _ _ _ _).trans (congrArg _ (adL_step _ _ _ _ (by omega)))))), fun ac13 wd13 FF13 MM13 => ?_⟩)
      refine inb_n (then_n ?_)
      refine rg_seq FF13 MM13 [o_, o_] [5, 7, 6, 23, 22, 21, 0, 4, 1] (fun Kt => i + 1 < 9223372036854775808 ∧ Kt [(23, iN (i + 1)), (5, iW (qcarB M N (i + 1))), (7, iW (qd N i)), (6, iN i), (22, iN (qsz N)), (21, nv N y), (0, .slice (some ⟨rg4, 0, none⟩) (qsz N) rc5), (4, .slice none 0 0), (1, nv N y)] ((rg4, .cells ((cn .u64 (adL (qsz N) M N (i + 1))) ++ rs) 61) :: L)) (by kernel_rfl) (fun _ => by kernel_rfl) (⟨(by omega), fun ac14 wd14 FF14 MM14 => ?_⟩)
      have hd := cnt_of (FF14.get 0 rfl)
      refine then_n ⟨⟨i + 1, qcarB M N (i + 1), by omega, rfl, FF14.pick [0, 4, 5, 1, 6, 7, 8], MM14⟩, ?_⟩
      rw [hc, hd]; omega
    · skip
      refine then_n (.inr ⟨(FF11.ev 0 rfl).trans (dec_f hlt), ?_⟩)
      obtain rfl : i = qsz N := by omega
      refine then_n ?_
      refine wp_seq ?_
      refine wp_seq (rg_seq FF11 MM11 [o_, o_, o_] [23, 22, 21, 5, 0, 4, 1, 8] (fun Kt => Kt [(8, iN (qsz N)), (23, iN (qsz N)), (22, iN (qsz N)), (21, nv N y), (5, iW cc), (0, .slice (some ⟨rg4, 0, none⟩) (qsz N) rc5), (4, .slice none 0 0), (1, nv N y)] ((rg4, .cells ((cn .u64 (adL (qsz N) M N (qsz N))) ++ rs) 61) :: L)) (by kernel_rfl) (fun _ => by kernel_rfl) (fun ac15 wd15 FF15 MM15 => then_n ?_))
      refine wp_for2 (fun a' w' => ∃ i : Nat, ∃ cc : Nat, qsz N ≤ i ∧ i ≤ qsz N ∧ cc = qcarB M N i ∧ Fr 73 a' [(8, iN i), (23, iN (qsz N)), (22, iN (qsz N)), (21, nv N y), (5, iW cc), (0, .slice (some ⟨rg4, 0, none⟩) (qsz N) rc5), (4, .slice none 0 0), (1, nv N y)] ∧ MemS S w0 w' ((rg4, .cells ((cn .u64 (adL (qsz N) M N i)) ++ rs) 61) :: L) R) (fun a' _ => (qsz N - cnt 8 a').toNat) ⟨qsz N, cc, Nat.le_refl _, hnN, hcc, FF15.pick [0, 1, 2, 3, 4, 5, 6, 7], MM15⟩ ?_
      rintro ac16 wd16 ⟨i, cc, hi2, hi, hcc, FF16, MM16⟩
      have hc := cnt_of (FF16.get 0 rfl)
      by_cases h1 : cc > 0
      · by_cases h2 : i < qsz N
        · skip
          refine rg_seq FF16 MM16 [o_, w_ 2, o_, o_, o_, o_, w_ 2, o_] [8, 23, 22, 21, 5, 0, 4, 1, 51] (fun Kt => cc > 0 ∧ i < (qsz N) ∧ Kt [(51, .bool true), (8, iN i), (23, iN (qsz N)), (22, iN (qsz N)), (21, nv N y), (5, iW cc), (0, .slice (some ⟨rg4, 0, none⟩) (qsz N) rc5), (4, .slice none 0 0), (1, nv N y)] ((rg4, .cells ((cn .u64 (adL (qsz N) M N i)) ++ rs) 61) :: L)) (by kernel_rfl) (fun _ => by kernel_rfl) (⟨h1, h2, fun ac17 wd17 FF17 MM17 => ?_⟩)
          refine then_n (.inl ⟨FF17.ev 0 rfl, ?_⟩)
          have hcl := qcar_le M N i
          have hw := add_word M N i
          have hy := add_carry M N i
          rw [qd_out hi2, ← hcc] at hw hy
          refine rg_seq FF17 MM17 [o_, o_, o_, o_, w_ 1, l_ 0 (iW (qd M i)), o_, f_ (.tuple #[iW (((qd M i) + 0 + cc) % 18446744073709551616), iW (((qd M i) + 0 + cc) / 18446744073709551616)]), o_, t_ (iW (qd (M + N) i)), t_ (iW (qcarB M N (i + 1))), w_ 1, s_ 0 (.cells ((cn .u64 (adL (qsz N) M N (i + 1))) ++ rs) 61), o_] [8, 23, 22, 21, 5, 0, 4, 1] (fun Kt => i < (qsz N) ∧ rg4 = rg4 ∧ ((cn .u64 (adL (qsz N) M N i)) ++ rs)[i]? = some (iW (qd M i)) ∧ RunV Tryd.prog [(61, iW cc), (60, iW (qd M i)), (59, .pointer (some ⟨rg4, i, none⟩)), (58, iN i), (57, .slice (some ⟨rg4, 0, none⟩) (qsz N) rc5), (56, iN i), (55, .slice (some ⟨rg4, 0, none⟩) (qsz N) rc5), (51, .bool true), (8, iN i), (23, iN (qsz N)), (22, iN (qsz N)), (21, nv N y), (5, iW cc), (0, .slice (some ⟨rg4, 0, none⟩) (qsz N) rc5), (4, .slice none 0 0), (1, nv N y)] ((rg4, .cells ((cn .u64 (adL (qsz N) M N i)) ++ rs) 61) :: L) (opAt Tryd.f49 12 7) (.tuple #[iW (((qd M i) + 0 + cc) % 18446744073709551616), iW (((qd M i) + 0 + cc) / 18446744073709551616)]) ∧ iW (((qd M i) + 0 + cc) % 18446744073709551616) = iW (qd (M + N) i) ∧ iW (((qd M i) + 0 + cc) / 18446744073709551616) = iW (qcarB M N (i + 1)) ∧ i < (qsz N) ∧ rg4 = rg4 ∧ i < ((cn .u64 (adL (qsz N) M N i)) ++ rs).size ∧ (((0, 0)).2 = 0 ∨ i < ((0, 0)).1) ∧ ((cn .u64 (adL (qsz N) M N i)) ++ rs).setIfInBounds i (iW (qd (M + N) i)) = (cn .u64 (adL (qsz N) M N (i + 1))) ++ rs ∧ Kt [(5, iW (qcarB M N (i + 1))), (8, iN i), (23, iN (qsz N)), (22, iN (qsz N)), (21, nv N y), (0, .slice (some ⟨rg4, 0, none⟩) (qsz N) rc5), (4, .slice none 0 0), (1, nv N y)] ((rg4, .cells ((cn .u64 (adL (qsz N) M N (i + 1))) ++ rs) 61) :: L)) (by kernel_rfl) (fun _ => by kernel_rfl) (⟨(by omega), rfl, ((cat_l (by rw [cn_size, adL_len]; omega)).trans ((cn_get _ _ _ (by rw [adL_len]; omega)).trans (congrArg some (vI ((adL_get _ _ _ _ (by omega)).trans (if_neg (by omega))))))), (add64_ok (f := 66) (ts := #[61, 61, 61]) (x := (.tmp 60)) (y := (.const (iW 0))) (z := (.tmp 61)) (by omega) (by kernel_rfl) rfl rfl rfl Tryd.func66 (by kernel_rfl) (by kernel_rfl) (by kernel_rfl) (by kernel_rfl)), (vI hw), (vI hy), (by omega), rfl, (by rw [hsz2]; omega), (.inl rfl), ((cat_set_l (by rw [cn_size, adL_len]; omega)).trans (congrArg (· ++ _) ((cn_set _ _ _ _).trans (congrArg _ (adL_step _ _ _ _ (by omega)))))), fun ac18 wd18 FF18 MM18 => ?_⟩)
          refine inb_n (then_n ?_)
          refine rg_seq FF18 MM18 [o_, o_, o_] [5, 8, 23, 22, 21, 0, 4, 1] (fun Kt => i + 1 < 9223372036854775808 ∧ Kt [(8, iN (i + 1)), (5, iW (qcarB M N (i + 1))), (23, iN (qsz N)), (22, iN (qsz N)), (21, nv N y), (0, .slice (some ⟨rg4, 0, none⟩) (qsz N) rc5), (4, .slice none 0 0), (1, nv N y)] ((rg4, .cells ((cn .u64 (adL (qsz N) M N (i + 1))) ++ rs) 61) :: L)) (by kernel_rfl) (fun _ => by kernel_rfl) (⟨(by omega), fun ac19 wd19 FF19 MM19 => ?_⟩)
          have hd := cnt_of (FF19.get 0 rfl)
          refine then_n ⟨⟨i + 1, qcarB M N (i + 1), by omega, by omega, rfl, FF19.pick [0, 2, 3, 4, 1, 5, 6, 7], MM19⟩, ?_⟩
          rw [hc, hd]; omega
        · skip
          refine rg_seq FF16 MM16 [o_, w_ 2, o_, o_, o_, o_, w_ 3, o_] [8, 23, 22, 21, 5, 0, 4, 1, 51] (fun Kt => cc > 0 ∧ ¬ (i < (qsz N)) ∧ Kt [(51, .bool false), (8, iN i), (23, iN (qsz N)), (22, iN (qsz N)), (21, nv N y), (5, iW cc), (0, .slice (some ⟨rg4, 0, none⟩) (qsz N) rc5), (4, .slice none 0 0), (1, nv N y)] ((rg4, .cells ((cn .u64 (adL (qsz N) M N i)) ++ rs) 61) :: L)) (by kernel_rfl) (fun _ => by kernel_rfl) (⟨h1, h2, fun ac20 wd20 FF20 MM20 => ?_⟩)
          refine then_n (.inr ⟨FF20.ev 0 rfl, ?_⟩)
          obtain rfl : i = qsz N := by omega
          have hsz1 := add_size1 hnM hnN (hcc ▸ h1)
          have hrow : qleB (qsz N) (M + N) ++ [cc] = qminB (M + N) := by rw [hcc]; exact add_row1 hsz1
          have hfin := add_fin1 (qsz N) M N
          have MMt := MemS.thawW (X := qleB (qsz N) (M + N)) (m := qsz N) (cap := rc5) (by rw [← hfin]; exact MM20) hg (qleB_len _ _) hcap hmx (by rw [← hfin]; exact hsz2 _)
          refine then_n ?_
          refine wp_seq ?_
          refine wp_seq (rg_seq FF20 MMt [o_, w_ 2] [8, 23, 22, 21, 5, 0, 4, 1, 67] (fun Kt => cc > 0 ∧ Kt [(67, .bool true), (8, iN (qsz N)), (23, iN (qsz N)), (22, iN (qsz N)), (21, nv N y), (5, iW cc), (0, .slice (some ⟨rg4, 0, none⟩) (qsz N) rc5), (4, .slice none 0 0), (1, nv N y)] L) (by kernel_rfl) (fun _ => by kernel_rfl) (⟨h1, fun ac21 wd21 FF21 MM21 => then_n ?_⟩))
          refine wp_cond_true (FF21.ev 0 rfl) ?_
          refine wp_region_list ?_
          refine rg_part 3 FF21 MM21 [o_, o_, o_] [8, 23, 22, 21, 5, 0, 4, 1, 68, 70] (fun Kt => ∀ bq, Kt [(70, .slice (some ⟨bq, 0, none⟩) 1 1), (68, .slice (some ⟨rg4, 0, none⟩) (qsz N) rc5), (8, iN (qsz N)), (23, iN (qsz N)), (22, iN (qsz N)), (21, nv N y), (5, iW cc), (0, .slice (some ⟨rg4, 0, none⟩) (qsz N) rc5), (4, .slice none 0 0), (1, nv N y)] ((bq, .cells (cn .u64 [cc]) 61) :: L)) (by kernel_rfl) (fun _ => by kernel_rfl) (fun bq => fun ac22 wd22 FF22 MM22 => ?_)
          refine st_app [8, 23, 22, 21, 5, 0, 4, 1, 71] FF22 MM22 (d := 71) (s := 68) (x := 70) (Y := (wc [cc])) (z := iW 0) (bb := 8) rfl rfl rfl rfl (lies_cn64 (MM22.get 0 rfl)) (wc_one _) (by decide) Tryd.underlying35 (by kernel_rfl) rfl (by decide) (by simp only [maxLen]; omega) (by omega) rfl rfl (by decide) fun ac24 wd24 rv23 (FF24 : Fr 73 ac24 [(71, rv23), (8, iN (qsz N)), (23, iN (qsz N)), (22, iN (qsz N)), (21, nv N y), (5, iW cc), (0, .slice (some ⟨rg4, 0, none⟩) (qsz N) rc5), (4, .slice none 0 0), (1, nv N y)]) (MM24 : MemS S w0 wd24 ((bq, .cells (cn .u64 [cc]) 61) :: L) ((rv23, 61, 1, ((qsz N) + 1), ((wc (qleB (qsz N) (M + N))) ++ (wc [cc]))) :: R)) => ?_
          have MMa : MemS S w0 wd24 ((bq, .cells (cn .u64 [cc]) 61) :: L) ((rv23, 61, 1, (qsz (M + N)), (wc (qminB (M + N)))) :: R) := by have h9 := MM24; rw [wc_app, hrow, hsz1.1] at h9; exact h9
          refine rg_part 1 FF24 MMa [o_] [8, 23, 22, 21, 5, 0, 4, 1] (fun Kt => Kt [(0, rv23), (8, iN (qsz N)), (23, iN (qsz N)), (22, iN (qsz N)), (21, nv N y), (5, iW cc), (4, .slice none 0 0), (1, nv N y)] ((bq, .cells (cn .u64 [cc]) 61) :: L)) (by kernel_rfl) (fun _ => by kernel_rfl) (fun ac25 wd25 FF25 MM25 => ?_)
          refine wpl_nil ?_
          refine then_n ?_
          refine wp_seq (rg_seq FF25 MM25 [o_, o_] [0, 8, 23, 22, 21, 5, 4, 1] (fun Kt => Kt [(4, rv23), (0, rv23), (8, iN (qsz N)), (23, iN (qsz N)), (22, iN (qsz N)), (21, nv N y), (5, iW cc), (1, nv N y)] ((bq, .cells (cn .u64 [cc]) 61) :: L)) (by kernel_rfl) (fun _ => by kernel_rfl) (fun ac26 wd26 FF26 MM26 => then_n ?_))
          refine wp_ret ?_
          repeat first | refine then_ret ?_ | refine inb_ret ?_
          exact (ret_fr FF26 0 Tryd.results49 rfl (by obtain ⟨p9, c9, rfl, _⟩ := MM26.rowLen; exact ⟨p9, c9, rfl, (MM26.dropAt 0)⟩))
      · skip
        refine rg_seq FF16 MM16 [o_, w_ 3, o_, o_, o_, o_, o_, o_] [8, 23, 22, 21, 5, 0, 4, 1, 51] (fun Kt => ¬ (cc > 0) ∧ Kt [(51, .bool false), (8, iN i), (23, iN (qsz N)), (22, iN (qsz N)), (21, nv N y), (5, iW cc), (0, .slice (some ⟨rg4, 0, none⟩) (qsz N) rc5), (4, .slice none 0 0), (1, nv N y)] ((rg4, .cells ((cn .u64 (adL (qsz N) M N i)) ++ rs) 61) :: L)) (by kernel_rfl) (fun _ => by kernel_rfl) (⟨h1, fun ac27 wd27 FF27 MM27 => ?_⟩)
        refine then_n (.inr ⟨FF27.ev 0 rfl, ?_⟩)
        obtain ⟨hfin, hlt2⟩ := add_fin0 hi2 hi hnM (by omega)
        have hsz1 := add_size0 hn0 hlt2
        have MMt := MemS.thawW (X := qleB (qsz N) (M + N)) (m := qsz N) (cap := rc5) (by rw [← hfin]; exact MM27) hg (qleB_len _ _) hcap hmx (by rw [← hfin]; exact hsz2 _)
        refine then_n ?_
        refine wp_seq ?_
        refine wp_seq (rg_seq FF27 MMt [o_, w_ 3] [8, 23, 22, 21, 5, 0, 4, 1, 67] (fun Kt => ¬ (cc > 0) ∧ Kt [(67, .bool false), (8, iN i), (23, iN (qsz N)), (22, iN (qsz N)), (21, nv N y), (5, iW cc), (0, .slice (some ⟨rg4, 0, none⟩) (qsz N) rc5), (4, .slice none 0 0), (1, nv N y)] L) (by kernel_rfl) (fun _ => by kernel_rfl) (⟨h1, fun ac28 wd28 FF28 MM28 => then_n ?_⟩))
        refine wp_cond_false (FF28.ev 0 rfl) ?_
        refine wp_skip ?_
        refine then_n ?_
        refine wp_seq (rg_seq FF28 MM28 [o_, o_] [8, 23, 22, 21, 5, 0, 4, 1] (fun Kt => Kt [(4, .slice (some ⟨rg4, 0, none⟩) (qsz N) rc5), (8, iN i), (23, iN (qsz N)), (22, iN (qsz N)), (21, nv N y), (5, iW cc), (0, .slice (some ⟨rg4, 0, none⟩) (qsz N) rc5), (1, nv N y)] L) (by kernel_rfl) (fun _ => by kernel_rfl) (fun ac29 wd29 FF29 MM29 => then_n ?_))
        refine wp_ret ?_
        repeat first | refine then_ret ?_ | refine inb_ret ?_
        exact (ret_fr FF29 0 Tryd.results49 rfl (by have h9 := MM29; rw [hsz1, show qleB (qsz (M + N)) (M + N) = qminB (M + N) from rfl] at h9; exact ⟨_, _, congrArg Ending.returned (by rw [hsz1]), h9⟩))
  · refine wp_cond_false ((FF2.ev 0 rfl).trans (dec_f hs13)) ?_
    obtain ⟨g, rfl⟩ := MM.rowSome (by omega)
    obtain ⟨rs, MMz, hg, hcap, hmx, hsz, hlen⟩ := MemS.freezeW (X := qleB (qsz M) M) MM2
    have MMy : MemS S w0 wd2 ((g, .cells ((cn .u64 (adL (qsz M) M N 0)) ++ rs) 61) :: L) R := by rw [adL_zero]; exact MMz
    have hsz2 : ∀ i, (cn .u64 (adL (qsz M) M N i) ++ rs).size = c := fun i => by rw [Array.size_append, cn_size, adL_len]; rw [Array.size_append, cn_size, qleB_len] at hsz; exact hsz
    have hnM : qsz M ≤ qsz M := by omega
    have hnN : qsz N ≤ qsz M := by omega
    have hn0 : qsz M = qsz M ∨ qsz M = qsz N := by first | exact .inl rfl | exact .inr rfl
    refine wp_skip ?_
    refine then_n ?_
    refine wp_seq (rg_seq FF2 MMy [o_] [4, 0, 1, 5] (fun Kt => Kt [(5, iW 0), (4, .slice none 0 0), (0, .slice (some ⟨g, 0, none⟩) (qsz M) c), (1, nv N y)] ((g, .cells ((cn .u64 (adL (qsz M) M N 0)) ++ rs) 61) :: L)) (by kernel_rfl) (fun _ => by kernel_rfl) (fun ac30 wd30 FF30 MM30 => then_n ?_))
    refine wp_seq ?_
    refine wp_seq (rg_seq FF30 MM30 [o_, o_, o_] [5, 4, 0, 1, 21, 22, 23] (fun Kt => Kt [(23, iN 0), (22, iN (qsz N)), (21, nv N y), (5, iW 0), (4, .slice none 0 0), (0, .slice (some ⟨g, 0, none⟩) (qsz M) c), (1, nv N y)] ((g, .cells ((cn .u64 (adL (qsz M) M N 0)) ++ rs) 61) :: L)) (by kernel_rfl) (fun _ => by kernel_rfl) (fun ac31 wd31 FF31 MM31 => then_n ?_))
    refine wp_for (fun a' w' => ∃ i : Nat, ∃ cc : Nat, i ≤ qsz N ∧ cc = qcarB M N i ∧ Fr 73 a' [(23, iN i), (22, iN (qsz N)), (21, nv N y), (5, iW cc), (4, .slice none 0 0), (0, .slice (some ⟨g, 0, none⟩) (qsz M) c), (1, nv N y)] ∧ MemS S w0 w' ((g, .cells ((cn .u64 (adL (qsz M) M N i)) ++ rs) 61) :: L) R) (fun a' _ => (qsz N - cnt 23 a').toNat) ⟨0, 0, by omega, (qcar_zero M N).symm, FF31.pick [0, 1, 2, 3, 4, 5, 6], MM31⟩ ?_
    rintro ac32 wd32 ⟨i, cc, hi, hcc, FF32, MM32⟩
    have hc := cnt_of (FF32.get 0 rfl)
    refine rg_seq FF32 MM32 [o_] [23, 22, 21, 5, 4, 0, 1, 24] (fun Kt => Kt [(24, .bool (decide (i < (qsz N)))), (23, iN i), (22, iN (qsz N)), (21, nv N y), (5, iW cc), (4, .slice none 0 0), (0, .slice (some ⟨g, 0, none⟩) (qsz M) c), (1, nv N y)] ((g, .cells ((cn .u64 (adL (qsz M) M N i)) ++ rs) 61) :: L)) (by kernel_rfl) (fun _ => by kernel_rfl) (fun ac33 wd33 FF33 MM33 => ?_)
    by_cases hlt : i < (qsz N)
    · skip
      refine then_n (.inl ⟨(FF33.ev 0 rfl).trans (dec_t hlt), ?_⟩)
      refine wp_seq (rg_seq FF33 MM33 [o_, f_ (.pointer (some ⟨gOf (pOf y), i, none⟩)), f_ (iW (qd N i)), o_, o_] [23, 22, 21, 5, 4, 0, 1, 6, 7] (fun Kt => RunV Tryd.prog [(25, iN i), (24, .bool (decide (i < (qsz N)))), (23, iN i), (22, iN (qsz N)), (21, nv N y), (5, iW cc), (4, .slice none 0 0), (0, .slice (some ⟨g, 0, none⟩) (qsz M) c), (1, nv N y)] ((g, .cells ((cn .u64 (adL (qsz M) M N i)) ++ rs) 61) :: L) (opAt Tryd.f49 6 1) (.pointer (some ⟨gOf (pOf y), i, none⟩)) ∧ RunV Tryd.prog [(26, .pointer (some ⟨gOf (pOf y), i, none⟩)), (25, iN i), (24, .bool (decide (i < (qsz N)))), (23, iN i), (22, iN (qsz N)), (21, nv N y), (5, iW cc), (4, .slice none 0 0), (0, .slice (some ⟨g, 0, none⟩) (qsz M) c), (1, nv N y)] ((g, .cells ((cn .u64 (adL (qsz M) M N i)) ++ rs) 61) :: L) (opAt Tryd.f49 6 2) (iW (qd N i)) ∧ Kt [(7, iW (qd N i)), (6, iN i), (23, iN i), (22, iN (qsz N)), (21, nv N y), (5, iW cc), (4, .slice none 0 0), (0, .slice (some ⟨g, 0, none⟩) (qsz M) c), (1, nv N y)] ((g, .cells ((cn .u64 (adL (qsz M) M N i)) ++ rs) 61) :: L)) (by kernel_rfl) (fun _ => by kernel_rfl) (⟨(rowAddr_ok (x := (.tmp 21)) (y := (.tmp 23)) (by kernel_rfl) rfl rfl Tryd.underlying35 (by kernel_rfl) (natO_cells hN) (by omega)), (rowLoad_ok (x := (.tmp 26)) (i := i) (by kernel_rfl) rfl Tryd.underlying61 rfl (natO_cells hN) (fun _ hx => List.mem_cons_of_mem _ (hx)) (by omega)), fun ac34 wd34 FF34 MM34 => then_n ?_⟩))
      have hcl := qcar_le M N i
      have hw := add_word M N i
      have hy := add_carry M N i
      rw [← hcc] at hw hy
      refine rg_seq FF34 MM34 [o_, o_, o_, o_, w_ 1, l_ 0 (iW (qd M i)), o_, o_, f_ (.tuple #[iW (((qd M i) + (qd N i) + cc) % 18446744073709551616), iW (((qd M i) + (qd N i) + cc) / 18446744073709551616)]), o_, t_ (iW (qd (M + N) i)), t_ (iW (qcarB M N (i + 1))), w_ 1, s_ 0 (.cells ((cn .u64 (adL (qsz M) M N (i + 1))) ++ rs) 61), o_] [7, 6, 23, 22, 21, 5, 4, 0, 1] (fun Kt => i < (qsz M) ∧ g = g ∧ ((cn .u64 (adL (qsz M) M N i)) ++ rs)[i]? = some (iW (qd M i)) ∧ RunV Tryd.prog [(36, iW cc), (35, iW (qd N i)), (34, iW (qd M i)), (33, .pointer (some ⟨g, i, none⟩)), (32, iN i), (31, .slice (some ⟨g, 0, none⟩) (qsz M) c), (30, iN i), (29, .slice (some ⟨g, 0, none⟩) (qsz M) c), (7, iW (qd N i)), (6, iN i), (23, iN i), (22, iN (qsz N)), (21, nv N y), (5, iW cc), (4, .slice none 0 0), (0, .slice (some ⟨g, 0, none⟩) (qsz M) c), (1, nv N y)] ((g, .cells ((cn .u64 (adL (qsz M) M N i)) ++ rs) 61) :: L) (opAt Tryd.f49 7 8) (.tuple #[iW (((qd M i) + (qd N i) + cc) % 18446744073709551616), iW (((qd M i) + (qd N i) + cc) / 18446744073709551616)]) ∧ iW (((qd M i) + (qd N i) + cc) % 18446744073709551616) = iW (qd (M + N) i) ∧ iW (((qd M i) + (qd N i) + cc) / 18446744073709551616) = iW (qcarB M N (i + 1)) ∧ i < (qsz M) ∧ g = g ∧ i < ((cn .u64 (adL (qsz M) M N i)) ++ rs).size ∧ (((0, 0)).2 = 0 ∨ i < ((0, 0)).1) ∧ ((cn .u64 (adL (qsz M) M N i)) ++ rs).setIfInBounds i (iW (qd (M + N) i)) = (cn .u64 (adL (qsz M) M N (i + 1))) ++ rs ∧ Kt [(5, iW (qcarB M N (i + 1))), (7, iW (qd N i)), (6, iN i), (23, iN i), (22, iN (qsz N)), (21, nv N y), (4, .slice none 0 0), (0, .slice (some ⟨g, 0, none⟩) (qsz M) c), (1, nv N y)] ((g, .cells ((cn .u64 (adL (qsz M) M N (i + 1))) ++ rs) 61) :: L)) (by kernel_rfl) (fun _ => by kernel_rfl) (⟨(by omega), rfl, ((cat_l (by rw [cn_size, adL_len]; omega)).trans ((cn_get _ _ _ (by rw [adL_len]; omega)).trans (congrArg some (vI ((adL_get _ _ _ _ (by omega)).trans (if_neg (by omega))))))), (add64_ok (f := 66) (ts := #[61, 61, 61]) (x := (.tmp 34)) (y := (.tmp 35)) (z := (.tmp 36)) (by omega) (by kernel_rfl) rfl rfl rfl Tryd.func66 (by kernel_rfl) (by kernel_rfl) (by kernel_rfl) (by kernel_rfl)), (vI hw), (vI hy), (by omega), rfl, (by rw [hsz2]; omega), (.inl rfl), ((cat_set_l (by rw [cn_size, adL_len]; omega)).trans (congrArg (· ++ _) ((cn_set _ _ _ _).trans (congrArg _ (adL_step _ _ _ _ (by omega)))))), fun ac35 wd35 FF35 MM35 => ?_⟩)
      refine inb_n (then_n ?_)
      refine rg_seq FF35 MM35 [o_, o_] [5, 7, 6, 23, 22, 21, 4, 0, 1] (fun Kt => i + 1 < 9223372036854775808 ∧ Kt [(23, iN (i + 1)), (5, iW (qcarB M N (i + 1))), (7, iW (qd N i)), (6, iN i), (22, iN (qsz N)), (21, nv N y), (4, .slice none 0 0), (0, .slice (some ⟨g, 0, none⟩) (qsz M) c), (1, nv N y)] ((g, .cells ((cn .u64 (adL (qsz M) M N (i + 1))) ++ rs) 61) :: L)) (by kernel_rfl) (fun _ => by kernel_rfl) (⟨(by omega), fun ac36 wd36 FF36 MM36 => ?_⟩)
      have hd := cnt_of (FF36.get 0 rfl)
      refine then_n ⟨⟨i + 1, qcarB M N (i + 1), by omega, rfl, FF36.pick [0, 4, 5, 1, 6, 7, 8], MM36⟩, ?_⟩
      rw [hc, hd]; omega
    · skip
      refine then_n (.inr ⟨(FF33.ev 0 rfl).trans (dec_f hlt), ?_⟩)
      obtain rfl : i = qsz N := by omega
      refine then_n ?_
      refine wp_seq ?_
      refine wp_seq (rg_seq FF33 MM33 [o_, o_, o_] [23, 22, 21, 5, 4, 0, 1, 8] (fun Kt => Kt [(8, iN (qsz N)), (23, iN (qsz N)), (22, iN (qsz N)), (21, nv N y), (5, iW cc), (4, .slice none 0 0), (0, .slice (some ⟨g, 0, none⟩) (qsz M) c), (1, nv N y)] ((g, .cells ((cn .u64 (adL (qsz M) M N (qsz N))) ++ rs) 61) :: L)) (by kernel_rfl) (fun _ => by kernel_rfl) (fun ac37 wd37 FF37 MM37 => then_n ?_))
      refine wp_for2 (fun a' w' => ∃ i : Nat, ∃ cc : Nat, qsz N ≤ i ∧ i ≤ qsz M ∧ cc = qcarB M N i ∧ Fr 73 a' [(8, iN i), (23, iN (qsz N)), (22, iN (qsz N)), (21, nv N y), (5, iW cc), (4, .slice none 0 0), (0, .slice (some ⟨g, 0, none⟩) (qsz M) c), (1, nv N y)] ∧ MemS S w0 w' ((g, .cells ((cn .u64 (adL (qsz M) M N i)) ++ rs) 61) :: L) R) (fun a' _ => (qsz M - cnt 8 a').toNat) ⟨qsz N, cc, Nat.le_refl _, hnN, hcc, FF37.pick [0, 1, 2, 3, 4, 5, 6, 7], MM37⟩ ?_
      rintro ac38 wd38 ⟨i, cc, hi2, hi, hcc, FF38, MM38⟩
      have hc := cnt_of (FF38.get 0 rfl)
      by_cases h1 : cc > 0
      · by_cases h2 : i < qsz M
        · skip
          refine rg_seq FF38 MM38 [o_, w_ 2, o_, o_, o_, o_, w_ 2, o_] [8, 23, 22, 21, 5, 4, 0, 1, 51] (fun Kt => cc > 0 ∧ i < (qsz M) ∧ Kt [(51, .bool true), (8, iN i), (23, iN (qsz N)), (22, iN (qsz N)), (21, nv N y), (5, iW cc), (4, .slice none 0 0), (0, .slice (some ⟨g, 0, none⟩) (qsz M) c), (1, nv N y)] ((g, .cells ((cn .u64 (adL (qsz M) M N i)) ++ rs) 61) :: L)) (by kernel_rfl) (fun _ => by kernel_rfl) (⟨h1, h2, fun ac39 wd39 FF39 MM39 => ?_⟩)
          refine then_n (.inl ⟨FF39.ev 0 rfl, ?_⟩)
          have hcl := qcar_le M N i
          have hw := add_word M N i
          have hy := add_carry M N i
          rw [qd_out hi2, ← hcc] at hw hy
          refine rg_seq FF39 MM39 [o_, o_, o_, o_, w_ 1, l_ 0 (iW (qd M i)), o_, f_ (.tuple #[iW (((qd M i) + 0 + cc) % 18446744073709551616), iW (((qd M i) + 0 + cc) / 18446744073709551616)]), o_, t_ (iW (qd (M + N) i)), t_ (iW (qcarB M N (i + 1))), w_ 1, s_ 0 (.cells ((cn .u64 (adL (qsz M) M N (i + 1))) ++ rs) 61), o_] [8, 23, 22, 21, 5, 4, 0, 1] (fun Kt => i < (qsz M) ∧ g = g ∧ ((cn .u64 (adL (qsz M) M N i)) ++ rs)[i]? = some (iW (qd M i)) ∧ RunV Tryd.prog [(61, iW cc), (60, iW (qd M i)), (59, .pointer (some ⟨g, i, none⟩)), (58, iN i), (57, .slice (some ⟨g, 0, none⟩) (qsz M) c), (56, iN i), (55, .slice (some ⟨g, 0, none⟩) (qsz M) c), (51, .bool true), (8, iN i), (23, iN (qsz N)), (22, iN (qsz N)), (21, nv N y), (5, iW cc), (4, .slice none 0 0), (0, .slice (some ⟨g, 0, none⟩) (qsz M) c), (1, nv N y)] ((g, .cells ((cn .u64 (adL (qsz M) M N i)) ++ rs) 61) :: L) (opAt Tryd.f49 12 7) (.tuple #[iW (((qd M i) + 0 + cc) % 18446744073709551616), iW (((qd M i) + 0 + cc) / 18446744073709551616)]) ∧ iW (((qd M i) + 0 + cc) % 18446744073709551616) = iW (qd (M + N) i) ∧ iW (((qd M i) + 0 + cc) / 18446744073709551616) = iW (qcarB M N (i + 1)) ∧ i < (qsz M) ∧ g = g ∧ i < ((cn .u64 (adL (qsz M) M N i)) ++ rs).size ∧ (((0, 0)).2 = 0 ∨ i < ((0, 0)).1) ∧ ((cn .u64 (adL (qsz M) M N i)) ++ rs).setIfInBounds i (iW (qd (M + N) i)) = (cn .u64 (adL (qsz M) M N (i + 1))) ++ rs ∧ Kt [(5, iW (qcarB M N (i + 1))), (8, iN i), (23, iN (qsz N)), (22, iN (qsz N)), (21, nv N y), (4, .slice none 0 0), (0, .slice (some ⟨g, 0, none⟩) (qsz M) c), (1, nv N y)] ((g, .cells ((cn .u64 (adL (qsz M) M N (i + 1))) ++ rs) 61) :: L)) (by kernel_rfl) (fun _ => by kernel_rfl) (⟨(by omega), rfl, ((cat_l (by rw [cn_size, adL_len]; omega)).trans ((cn_get _ _ _ (by rw [adL_len]; omega)).trans (congrArg some (vI ((adL_get _ _ _ _ (by omega)).trans (if_neg (by omega))))))), (add64_ok (f := 66) (ts := #[61, 61, 61]) (x := (.tmp 60)) (y := (.const (iW 0))) (z := (.tmp 61)) (by omega) (by kernel_rfl) rfl rfl rfl Tryd.func66 (by kernel_rfl) (by kernel_rfl) (by kernel_rfl) (by kernel_rfl)), (vI hw), (vI hy), (by omega), rfl, (by rw [hsz2]; omega), (.inl rfl), ((cat_set_l (by rw [cn_size, adL_len]; omega)).trans (congrArg (· ++ _) ((cn_set _ _ _ _).trans (congrArg _ (adL_step _ _ _ _ (by omega)))))), fun ac40 wd40 FF40 MM40 => ?_⟩)
          refine inb_n (then_n ?_)
          refine rg_seq FF40 MM40 [o_, o_, o_] [5, 8, 23, 22, 21, 4, 0, 1] (fun Kt => i + 1 < 9223372036854775808 ∧ Kt [(8, iN (i + 1)), (5, iW (qcarB M N (i + 1))), (23, iN (qsz N)), (22, iN (qsz N)), (21, nv N y), (4, .slice none 0 0), (0, .slice (some ⟨g, 0, none⟩) (qsz M) c), (1, nv N y)] ((g, .cells ((cn .u64 (adL (qsz M) M N (i + 1))) ++ rs) 61) :: L)) (by kernel_rfl) (fun _ => by kernel_rfl) (⟨(by omega), fun ac41 wd41 FF41 MM41 => ?_⟩)
          have hd := cnt_of (FF41.get 0 rfl)
          refine then_n ⟨⟨i + 1, qcarB M N (i + 1), by omega, by omega, rfl, FF41.pick [0, 2, 3, 4, 1, 5, 6, 7], MM41⟩, ?_⟩
          rw [hc, hd]; omega
        · skip
          refine rg_seq FF38 MM38 [o_, w_ 2, o_, o_, o_, o_, w_ 3, o_] [8, 23, 22, 21, 5, 4, 0, 1, 51] (fun Kt => cc > 0 ∧ ¬ (i < (qsz M)) ∧ Kt [(51, .bool false), (8, iN i), (23, iN (qsz N)), (22, iN (qsz N)), (21, nv N y), (5, iW cc), (4, .slice none 0 0), (0, .slice (some ⟨g, 0, none⟩) (qsz M) c), (1, nv N y)] ((g, .cells ((cn .u64 (adL (qsz M) M N i)) ++ rs) 61) :: L)) (by kernel_rfl) (fun _ => by kernel_rfl) (⟨h1, h2, fun ac42 wd42 FF42 MM42 => ?_⟩)
          refine then_n (.inr ⟨FF42.ev 0 rfl, ?_⟩)
          obtain rfl : i = qsz M := by omega
          have hsz1 := add_size1 hnM hnN (hcc ▸ h1)
          have hrow : qleB (qsz M) (M + N) ++ [cc] = qminB (M + N) := by rw [hcc]; exact add_row1 hsz1
          have hfin := add_fin1 (qsz M) M N
          have MMt := MemS.thawW (X := qleB (qsz M) (M + N)) (m := qsz M) (cap := c) (by rw [← hfin]; exact MM42) hg (qleB_len _ _) hcap hmx (by rw [← hfin]; exact hsz2 _)
          refine then_n ?_
          refine wp_seq ?_
          refine wp_seq (rg_seq FF42 MMt [o_, w_ 2] [8, 23, 22, 21, 5, 4, 0, 1, 67] (fun Kt => cc > 0 ∧ Kt [(67, .bool true), (8, iN (qsz M)), (23, iN (qsz N)), (22, iN (qsz N)), (21, nv N y), (5, iW cc), (4, .slice none 0 0), (0, .slice (some ⟨g, 0, none⟩) (qsz M) c), (1, nv N y)] L) (by kernel_rfl) (fun _ => by kernel_rfl) (⟨h1, fun ac43 wd43 FF43 MM43 => then_n ?_⟩))
          refine wp_cond_true (FF43.ev 0 rfl) ?_
          refine wp_region_list ?_
          refine rg_part 3 FF43 MM43 [o_, o_, o_] [8, 23, 22, 21, 5, 4, 0, 1, 68, 70] (fun Kt => ∀ bq, Kt [(70, .slice (some ⟨bq, 0, none⟩) 1 1), (68, .slice (some ⟨g, 0, none⟩) (qsz M) c), (8, iN (qsz M)), (23, iN (qsz N)), (22, iN (qsz N)), (21, nv N y), (5, iW cc), (4, .slice none 0 0), (0, .slice (some ⟨g, 0, none⟩) (qsz M) c), (1, nv N y)] ((bq, .cells (cn .u64 [cc]) 61) :: L)) (by kernel_rfl) (fun _ => by kernel_rfl) (fun bq => fun ac44 wd44 FF44 MM44 => ?_)
          refine st_app [8, 23, 22, 21, 5, 4, 0, 1, 71] FF44 MM44 (d := 71) (s := 68) (x := 70) (Y := (wc [cc])) (z := iW 0) (bb := 8) rfl rfl rfl rfl (lies_cn64 (MM44.get 0 rfl)) (wc_one _) (by decide) Tryd.underlying35 (by kernel_rfl) rfl (by decide) (by simp only [maxLen]; omega) (by omega) rfl rfl (by decide) fun ac46 wd46 rv45 (FF46 : Fr 73 ac46 [(71, rv45), (8, iN (qsz M)), (23, iN (qsz N)), (22, iN (qsz N)), (21, nv N y), (5, iW cc), (4, .slice none 0 0), (0, .slice (some ⟨g, 0, none⟩) (qsz M) c), (1, nv N y)]) (MM46 : MemS S w0 wd46 ((bq, .cells (cn .u64 [cc]) 61) :: L) ((rv45, 61, 1, ((qsz M) + 1), ((wc (qleB (qsz M) (M + N))) ++ (wc [cc]))) :: R)) => ?_
          have MMa : MemS S w0 wd46 ((bq, .cells (cn .u64 [cc]) 61) :: L) ((rv45, 61, 1, (qsz (M + N)), (wc (qminB (M + N)))) :: R) := by have h9 := MM46; rw [wc_app, hrow, hsz1.1] at h9; exact h9
          refine rg_part 1 FF46 MMa [o_] [8, 23, 22, 21, 5, 4, 0, 1] (fun Kt => Kt [(0, rv45), (8, iN (qsz M)), (23, iN (qsz N)), (22, iN (qsz N)), (21, nv N y), (5, iW cc), (4, .slice none 0 0), (1, nv N y)] ((bq, .cells (cn .u64 [cc]) 61) :: L)) (by kernel_rfl) (fun _ => by kernel_rfl) (fun ac47 wd47 FF47 MM47 => ?_)
          refine wpl_nil ?_
          refine then_n ?_
          refine wp_seq (rg_seq FF47 MM47 [o_, o_] [0, 8, 23, 22, 21, 5, 4, 1] (fun Kt => Kt [(4, rv45), (0, rv45), (8, iN (qsz M)), (23, iN (qsz N)), (22, iN (qsz N)), (21, nv N y), (5, iW cc), (1, nv N y)] ((bq, .cells (cn .u64 [cc]) 61) :: L)) (by kernel_rfl) (fun _ => by kernel_rfl) (fun ac48 wd48 FF48 MM48 => then_n ?_))
          refine wp_ret ?_
          repeat first | refine then_ret ?_ | refine inb_ret ?_
          exact (ret_fr FF48 0 Tryd.results49 rfl (by obtain ⟨p9, c9, rfl, _⟩ := MM48.rowLen; exact ⟨p9, c9, rfl, (MM48.dropAt 0)⟩))
      · skip
        refine rg_seq FF38 MM38 [o_, w_ 3, o_, o_, o_, o_, o_, o_] [8, 23, 22, 21, 5, 4, 0, 1, 51] (fun Kt => ¬ (cc > 0) ∧ Kt [(51, .bool false), (8, iN i), (23, iN (qsz N)), (22, iN (qsz N)), (21, nv N y), (5, iW cc), (4, .slice none 0 0), (0, .slice (some ⟨g, 0, none⟩) (qsz M) c), (1, nv N y)] ((g, .cells ((cn .u64 (adL (qsz M) M N i)) ++ rs) 61) :: L)) (by kernel_rfl) (fun _ => by kernel_rfl) (⟨h1, fun ac49 wd49 FF49 MM49 => ?_⟩)
        refine then_n (.inr ⟨FF49.ev 0 rfl, ?_⟩)
        obtain ⟨hfin, hlt2⟩ := add_fin0 hi2 hi hnM (by omega)
        have hsz1 := add_size0 hn0 hlt2
        have MMt := MemS.thawW (X := qleB (qsz M) (M + N)) (m := qsz M) (cap := c) (by rw [← hfin]; exact MM49) hg (qleB_len _ _) hcap hmx (by rw [← hfin]; exact hsz2 _)
        refine then_n ?_
        refine wp_seq ?_
        refine wp_seq (rg_seq FF49 MMt [o_, w_ 3] [8, 23, 22, 21, 5, 4, 0, 1, 67] (fun Kt => ¬ (cc > 0) ∧ Kt [(67, .bool false), (8, iN i), (23, iN (qsz N)), (22, iN (qsz N)), (21, nv N y), (5, iW cc), (4, .slice none 0 0), (0, .slice (some ⟨g, 0, none⟩) (qsz M) c), (1, nv N y)] L) (by kernel_rfl) (fun _ => by kernel_rfl) (⟨h1, fun ac50 wd50 FF50 MM50 => then_n ?_⟩))
        refine wp_cond_false (FF50.ev 0 rfl) ?_
        refine wp_skip ?_
        refine then_n ?_
        refine wp_seq (rg_seq FF50 MM50 [o_, o_] [8, 23, 22, 21, 5, 4, 0, 1] (fun Kt => Kt [(4, .slice (some ⟨g, 0, none⟩) (qsz M) c), (8, iN i), (23, iN (qsz N)), (22, iN (qsz N)), (21, nv N y), (5, iW cc), (0, .slice (some ⟨g, 0, none⟩) (qsz M) c), (1, nv N y)] L) (by kernel_rfl) (fun _ => by kernel_rfl) (fun ac51 wd51 FF51 MM51 => then_n ?_))
        refine wp_ret ?_
        repeat first | refine then_ret ?_ | refine inb_ret ?_
        exact (ret_fr FF51 0 Tryd.results49 rfl (by have h9 := MM51; rw [hsz1, show qleB (qsz (M + N)) (M + N) = qminB (M + N) from rfl] at h9; exact ⟨_, _, congrArg Ending.returned (by rw [hsz1]), h9⟩))
end Go.Proofs.YtlljedijldkcbaaDoor
namespace Go.Proofs.YtlljedijldkcbaaDoor
open Go.RowKit
set_option maxRecDepth 100000 in
theorem plus_nil {S : Nat → Prop} {w0 : World} {L : Blks} {R : List Row} (y : Value) (w : World) (MM : MemS S w0 w L ((Value.slice none 0 0, 61, 1, 0, []) :: R)) :
    Calls Tryd.prog 49 #[.slice none 0 0, nv 0 y] w fun e w' => e = .returned (.slice none 0 0) ∧ MemS S w0 w' L ((Value.slice none 0 0, 61, 1, 0, []) :: R) := by
  refine enter_fr Tryd.func49 rfl Tryd.ntmps49 (by simp) fun ac (FF : Fr 73 ac [(0, .slice none 0 0), (1, nv 0 y)]) => ?_
  refine wp_seq (rg_seq FF MM [o_] [0, 1, 4] (fun Kt => Kt [(4, .slice none 0 0), (0, .slice none 0 0), (1, nv 0 y)] L) (by kernel_rfl) (fun _ => by kernel_rfl) (fun ac1 wd1 FF1 MM1 => then_n ?_))
  refine wp_seq ?_
  refine wp_seq (rg_seq FF1 MM1 [o_, o_, o_, o_, w_ 3] [4, 0, 1, 13] (fun Kt => ¬ ((qsz 0) > 0) ∧ Kt [(13, .bool false), (4, .slice none 0 0), (0, .slice none 0 0), (1, nv 0 y)] L) (by kernel_rfl) (fun _ => by kernel_rfl) (⟨(by decide), fun ac2 wd2 FF2 MM2 => then_n ?_⟩))
  refine wp_cond_false (FF2.ev 0 rfl) ?_
  refine wp_skip ?_
  refine then_n ?_
  refine wp_seq (rg_seq FF2 MM2 [o_] [4, 0, 1, 5] (fun Kt => Kt [(5, iW 0), (4, .slice none 0 0), (0, .slice none 0 0), (1, nv 0 y)] L) (by kernel_rfl) (fun _ => by kernel_rfl) (fun ac3 wd3 FF3 MM3 => then_n ?_))
  refine wp_seq ?_
  refine wp_seq (rg_seq FF3 MM3 [o_, o_, o_] [5, 4, 0, 1, 21, 22, 23] (fun Kt => Kt [(23, iN 0), (22, iN (qsz 0)), (21, nv 0 y), (5, iW 0), (4, .slice none 0 0), (0, .slice none 0 0), (1, nv 0 y)] L) (by kernel_rfl) (fun _ => by kernel_rfl) (fun ac4 wd4 FF4 MM4 => then_n ?_))
  refine wp_for (fun a' w' => ∃ i : Nat, i ≤ 0 ∧ Fr 73 a' [(23, iN i), (22, iN (qsz 0)), (21, nv 0 y), (5, iW 0), (4, .slice none 0 0), (0, .slice none 0 0), (1, nv 0 y)] ∧ MemS S w0 w' L ((.slice none 0 0, 61, 1, 0, []) :: R)) (fun a' _ => (0 - cnt 23 a').toNat) ⟨0, Nat.le_refl _, FF4.pick [0, 1, 2, 3, 4, 5, 6], MM4⟩ ?_
  rintro ac5 wd5 ⟨i, hi, FF5, MM5⟩
  refine rg_seq FF5 MM5 [w_ 3] [23, 22, 21, 5, 4, 0, 1, 24] (fun Kt => ¬ (i < (qsz 0)) ∧ Kt [(24, .bool false), (23, iN i), (22, iN (qsz 0)), (21, nv 0 y), (5, iW 0), (4, .slice none 0 0), (0, .slice none 0 0), (1, nv 0 y)] L) (by kernel_rfl) (fun _ => by kernel_rfl) (⟨(by rw [qsz_zero]; omega), fun ac6 wd6 FF6 MM6 => ?_⟩)
  refine then_n (.inr ⟨FF6.ev 0 rfl, ?_⟩)
  refine then_n ?_
  refine wp_seq ?_
  refine wp_seq (rg_seq FF6 MM6 [o_, o_, o_] [23, 22, 21, 5, 4, 0, 1, 8] (fun Kt => Kt [(8, iN (qsz 0)), (23, iN i), (22, iN (qsz 0)), (21, nv 0 y), (5, iW 0), (4, .slice none 0 0), (0, .slice none 0 0), (1, nv 0 y)] L) (by kernel_rfl) (fun _ => by kernel_rfl) (fun ac7 wd7 FF7 MM7 => then_n ?_))
  refine wp_for2 (fun a' w' => ∃ k : Nat, Fr 73 a' [(8, iN k), (23, iN i), (22, iN (qsz 0)), (21, nv 0 y), (5, iW 0), (4, .slice none 0 0), (0, .slice none 0 0), (1, nv 0 y)] ∧ MemS S w0 w' L ((.slice none 0 0, 61, 1, 0, []) :: R)) (fun a' _ => (0 - cnt 8 a').toNat) ⟨qsz 0, FF7.pick [0, 1, 2, 3, 4, 5, 6, 7], MM7⟩ ?_
  rintro ac8 wd8 ⟨k, FF8, MM8⟩
  refine rg_seq FF8 MM8 [o_, w_ 3, o_, o_, o_, o_, o_, o_] [8, 23, 22, 21, 5, 4, 0, 1, 51] (fun Kt => ¬ (0 > 0) ∧ Kt [(51, .bool false), (8, iN k), (23, iN i), (22, iN (qsz 0)), (21, nv 0 y), (5, iW 0), (4, .slice none 0 0), (0, .slice none 0 0), (1, nv 0 y)] L) (by kernel_rfl) (fun _ => by kernel_rfl) (⟨(by decide), fun ac9 wd9 FF9 MM9 => ?_⟩)
  refine then_n (.inr ⟨FF9.ev 0 rfl, ?_⟩)
  refine then_n ?_
  refine wp_seq ?_
  refine wp_seq (rg_seq FF9 MM9 [o_, w_ 3] [8, 23, 22, 21, 5, 4, 0, 1, 67] (fun Kt => ¬ (0 > 0) ∧ Kt [(67, .bool false), (8, iN k), (23, iN i), (22, iN (qsz 0)), (21, nv 0 y), (5, iW 0), (4, .slice none 0 0), (0, .slice none 0 0), (1, nv 0 y)] L) (by kernel_rfl) (fun _ => by kernel_rfl) (⟨(by decide), fun ac10 wd10 FF10 MM10 => then_n ?_⟩))
  refine wp_cond_false (FF10.ev 0 rfl) ?_
  refine wp_skip ?_
  refine then_n ?_
  refine wp_seq (rg_seq FF10 MM10 [o_, o_] [8, 23, 22, 21, 5, 4, 0, 1] (fun Kt => Kt [(4, .slice none 0 0), (8, iN k), (23, iN i), (22, iN (qsz 0)), (21, nv 0 y), (5, iW 0), (0, .slice none 0 0), (1, nv 0 y)] L) (by kernel_rfl) (fun _ => by kernel_rfl) (fun ac11 wd11 FF11 MM11 => then_n ?_))
  refine wp_ret ?_
  repeat first | refine then_ret ?_ | refine inb_ret ?_
  exact (ret_fr FF11 0 Tryd.results49 rfl ⟨rfl, MM11⟩)
theorem plus_any {S : Nat → Prop} {w0 : World} {L : Blks} {R : List Row} (M N : Nat) (x y : Value) (hN : NatO L (nv N y) N) (hz : M = 0 → pOf x = none ∧ cOf x = 0) (hs : qsz M < 1000000) (hs2 : qsz N < 1000000) (w : World) (MM : MemS S w0 w L ((nv M x, 61, 1, qsz M, wc (qminB M)) :: R)) :
    Calls Tryd.prog 49 #[nv M x, nv N y] w fun e w' => ∃ v, e = .returned (nv (M + N) v) ∧ (M + N = 0 → pOf v = none ∧ cOf v = 0) ∧ MemS S w0 w' L ((nv (M + N) v, 61, 1, qsz (M + N), wc (qminB (M + N))) :: R) := by
  by_cases h0 : M = 0 ∧ N = 0
  · obtain ⟨rfl, rfl⟩ := h0
    obtain ⟨h1, h2⟩ := hz rfl
    have e : nv 0 x = .slice none 0 0 := by rw [nv, h1, h2]; rfl
    rw [e] at MM ⊢
    refine (plus_nil y w MM).mono ?_
    rintro e w' ⟨rfl, h⟩
    exact ⟨.slice none 0 0, rfl, fun _ => ⟨rfl, rfl⟩, h⟩
  · have hp : 0 < qsz M ∨ 0 < qsz N := by
      by_cases hM : M = 0
      · exact .inr (qsz_pos fun e => h0 ⟨hM, e⟩)
      · exact .inl (qsz_pos hM)
    refine (plus_main M N y hN hp hs hs2 w MM).mono ?_
    rintro e w' ⟨q', c', rfl, h⟩
    exact ⟨.slice q' 0 c', rfl, fun e => (by omega), h⟩
/-- Numbers in a row. -/
def nvs (ns : List Nat) (xs : List Value) (j : Nat) : Value := nv (ns.getD j 0) (xs.getD j undef)
def NatsO (O : Blks) (p : Option Addr) (ns : List Nat) (xs : List Value) : Prop := CellsO O p ns.length (nvs ns xs) ∧ ∀ j, j < ns.length → NatO O (nvs ns xs j) (ns.getD j 0)
def NatsIn (w : World) (p : Option Addr) (ns : List Nat) (xs : List Value) : Prop := CellsIn w p ns.length (nvs ns xs) ∧ ∀ j, j < ns.length → NatIn w (nvs ns xs j) (ns.getD j 0)
theorem NatsIn.keep {w w' : World} {p : Option Addr} {ns : List Nat} {xs : List Value} (h : NatsIn w p ns xs) (hb : Below w.heap.size w w') : NatsIn w' p ns xs := ⟨h.1.keep hb, fun j hj => (h.2 j hj).keep hb⟩
theorem NatsO.at {w : World} {O : Blks} {p : Option Addr} {ns : List Nat} {xs : List Value} (h : NatsO O p ns xs) (H : Has w O) : NatsIn w p ns xs := ⟨h.1.at H, fun j hj => (h.2 j hj).at H⟩
theorem NatsO.mono {O O' : Blks} {p : Option Addr} {ns : List Nat} {xs : List Value} (h : NatsO O p ns xs) (hs : ∀ x ∈ O, x ∈ O') : NatsO O' p ns xs := ⟨h.1.mono hs, fun j hj => (h.2 j hj).mono hs⟩
theorem natsIn_O {w : World} {p : Option Addr} {ns : List Nat} {xs : List Value} (h : NatsIn w p ns xs) : ∃ O : Blks, Has w O ∧ Distinct O ∧ NatsO O p ns xs := by
  have hc : ∃ O : Blks, Has w O ∧ O.Pairwise (fun x y => x.1 ≠ y.1) ∧ CellsO O p ns.length (nvs ns xs) := by
    rcases h.1 with h | ⟨b, cs, T, fr, h1, h2, h3⟩
    · exact ⟨[], fun i x hx => by simp at hx, .nil, .inl h⟩
    · refine ⟨[(b, .cells cs T fr)], fun i x hx => ?_, by simp, .inr ⟨b, cs, T, fr, h1, by simp, h3⟩⟩
      cases i with
      | zero => simp at hx; subst hx; exact h2
      | succ i => simp at hx
  obtain ⟨O1, g1, g2, g3⟩ := hc
  obtain ⟨O, f1, f2, f3, f4⟩ := nats_O ((List.range ns.length).map fun j => (nvs ns xs j, ns.getD j 0)) (fun x hx => by
    obtain ⟨j, hj, rfl⟩ := List.mem_map.1 hx
    exact h.2 j (List.mem_range.1 hj)) O1 g1 g2
  exact ⟨O, f1, distinct_of f2, g3.mono f4, fun j hj => f3.get j (by simp [hj])⟩
theorem nats2 {w : World} {b : Nat} {T : TypeId} {fr : Nat × Nat} {N1 N2 : Nat} {x1 x2 : Value} (h : w.heap[b]? = some (.cells #[nv N1 x1, nv N2 x2] T fr)) (h1 : NatIn w (nv N1 x1) N1) (h2 : NatIn w (nv N2 x2) N2) : NatsIn w (some ⟨b, 0, none⟩) [N1, N2] [x1, x2] :=
  ⟨.inr ⟨b, _, T, fr, rfl, h, fun j hj => by
    have : j = 0 ∨ j = 1 := by simp at hj; omega
    rcases this with rfl | rfl <;> rfl⟩, fun j hj => by
    have : j = 0 ∨ j = 1 := by simp at hj; omega
    rcases this with rfl | rfl
    · exact h1
    · exact h2⟩
theorem sum_take (ns : List Nat) (i : Nat) (h : i < ns.length) : (ns.take (i + 1)).sum = (ns.take i).sum + ns.getD i 0 := by
  rw [List.take_add_one, List.sum_append, List.getElem?_eq_getElem h]
  simp [List.getD_eq_getElem?_getD, List.getElem?_eq_getElem h]
theorem sum_part (ns : List Nat) (i : Nat) : (ns.take i).sum ≤ ns.sum := by
  conv => rhs; rw [← List.take_append_drop i ns]
  rw [List.sum_append]; omega
theorem sum_one (ns : List Nat) (i : Nat) (h : i < ns.length) : ns.getD i 0 ≤ ns.sum := by
  have h1 := sum_part ns (i + 1)
  rw [sum_take ns i h] at h1
  omega
theorem natNew_row {S : Nat → Prop} {w0 w : World} {L : Blks} {R : List Row} {e : TypeId} {N : Nat} {x : Value} (hz : N = 0 → pOf x = none ∧ cOf x = 0) (M : MemS S w0 w L ((nv N x, e, 1, qsz N, wc (qminB N)) :: R)) : NatNew w0.heap.size w (nv N x) N := by
  have hown := M.rows _ (List.mem_cons_self ..)
  rcases hown.2 with ⟨h1, h2⟩ | ⟨g, cap, cur, h1, h2, h3, h4, h5, h6, h7⟩
  · simp only at h1 h2
    have hN := qz0 h2
    subst hN
    rw [h1]
    exact ⟨⟨none, 0, rfl, fun _ => ⟨rfl, rfl⟩, fun h => (h rfl).elim, Nat.le_refl _, .inl rfl⟩, fun g hg => by cases hg⟩
  · simp only [nv, Value.slice.injEq, true_and] at h1
    refine ⟨⟨pOf x, cOf x, rfl, fun e => hz e, fun _ => by rw [h1.1]; simp, by rw [h1.2]; exact h4, .inr ⟨g, cur, e, (0, 0), h1.1, h3, fun j hj => ?_⟩⟩, fun g' hg' => ?_⟩
    · simp only [Nat.mul_one] at h7
      have e1 := congrArg (fun l => l[j]?) h7
      simp only [List.getElem?_take, if_pos hj] at e1
      rw [show cur[j]? = cur.toList[j]? by simp, e1]
      have : j < (qminB N).length := by rw [qminB_len]; exact hj
      simp only [wc, List.getElem?_map, List.getElem?_eq_getElem this, Option.map_some]
      have h9 := qminB_get N j
      rw [List.getD_eq_getElem?_getD, List.getElem?_eq_getElem this] at h9
      simp only [Option.getD_some] at h9
      rw [h9]; rfl
    · rw [nv, h1.1] at hg'
      obtain rfl : g = g' := by simpa [Value.ownBlock] using hg'
      exact h2
set_option maxRecDepth 100000 in
theorem nadd_O (O : Blks) (hD : Distinct O) (p : Option Addr) (cp : Nat) (ns : List Nat) (xs : List Value) (hA : NatsO O p ns xs) (hs : qsz ns.sum < 1000000) (hl : ns.length < 1000) (w0 : World) (H : Has w0 O) :
    Calls Tryd.prog 31 #[.slice p ns.length cp] w0 fun e w' => ∃ v, e = .returned (.agg #[nv ns.sum v]) ∧ Below w0.heap.size w0 w' ∧ NatNew w0.heap.size w' (nv ns.sum v) ns.sum := by
  refine enter_fr Tryd.func31 rfl Tryd.ntmps31 (by simp) fun ac (FF : Fr 19 ac [(0, .slice p ns.length cp)]) => ?_
  have MM : MemS (fun k => k < w0.heap.size ∧ ∀ x ∈ O, x.1 ≠ k) w0 w0 O [] := MemS.startN H hD
  refine wp_seq (rg_seq FF MM [o_] [0, 2] (fun Kt => ∀ br, Kt [(2, pT br), (0, .slice p ns.length cp)] ((br, oC #[.slice none 0 0] 37) :: O)) (by kernel_rfl) (fun _ => by kernel_rfl) (fun br => fun ac1 wd1 FF1 MM1 => then_n ?_))
  refine wp_seq (rg_seq FF1 MM1 [o_] [2, 0, 3] (fun Kt => Kt [(3, .slice none 0 0), (2, pT br), (0, .slice p ns.length cp)] ((br, oC #[.slice none 0 0] 37) :: O)) (by kernel_rfl) (fun _ => by kernel_rfl) (fun ac2 wd2 FF2 MM2 => then_n ?_))
  have MMn : MemS (fun k => k < w0.heap.size ∧ ∀ x ∈ O, x.1 ≠ k) w0 wd2 ((br, oC #[.slice none 0 0] 37) :: O) [(nv ((ns.take 0).sum) (.slice none 0 0), 61, 1, (qsz ((ns.take 0).sum)), (wc (qminB ((ns.take 0).sum))))] := MM2.rowNil 61 1
  refine wp_seq ?_
  refine wp_seq (rg_seq FF2 MMn [o_, o_, o_] [3, 2, 6, 7, 8] (fun Kt => Kt [(8, iN 0), (7, iN ns.length), (6, .slice p ns.length cp), (3, nv ((ns.take 0).sum) (.slice none 0 0)), (2, pT br)] ((br, oC #[.slice none 0 0] 37) :: O)) (by kernel_rfl) (fun _ => by kernel_rfl) (fun ac3 wd3 FF3 MM3 => then_n ?_))
  refine wp_for (fun a' w' => ∃ i : Nat, ∃ v : Value, i ≤ ns.length ∧ ((ns.take i).sum = 0 → pOf v = none ∧ cOf v = 0) ∧ Fr 19 a' [(8, iN i), (7, iN ns.length), (6, .slice p ns.length cp), (3, nv ((ns.take i).sum) v), (2, pT br)] ∧ MemS (fun k => k < w0.heap.size ∧ ∀ x ∈ O, x.1 ≠ k) w0 w' ((br, oC #[.slice none 0 0] 37) :: O) [(nv ((ns.take i).sum) v, 61, 1, (qsz ((ns.take i).sum)), (wc (qminB ((ns.take i).sum))))]) (fun a' _ => (ns.length - cnt 8 a').toNat) ⟨0, (.slice none 0 0), by omega, fun _ => ⟨rfl, rfl⟩, FF3.pick [0, 1, 2, 3, 4], MM3⟩ ?_
  rintro ac4 wd4 ⟨i, v, hi, hz, FF4, MM4⟩
  have hc := cnt_of (FF4.get 0 rfl)
  refine rg_seq FF4 MM4 [o_] [8, 7, 6, 3, 2, 9] (fun Kt => Kt [(9, .bool (decide (i < ns.length))), (8, iN i), (7, iN ns.length), (6, .slice p ns.length cp), (3, nv ((ns.take i).sum) v), (2, pT br)] ((br, oC #[.slice none 0 0] 37) :: O)) (by kernel_rfl) (fun _ => by kernel_rfl) (fun ac5 wd5 FF5 MM5 => ?_)
  by_cases hlt : i < ns.length
  · skip
    refine then_n (.inl ⟨(FF5.ev 0 rfl).trans (dec_t hlt), ?_⟩)
    refine wp_seq (rg_seq FF5 MM5 [f_ (.pointer (some ⟨gOf p, i, none⟩)), f_ (aG #[nv (ns.getD i 0) (xs.getD i undef)]), o_, b_ 0] [8, 7, 6, 3, 2, 5] (fun Kt => RunV Tryd.prog [(9, .bool (decide (i < ns.length))), (8, iN i), (7, iN ns.length), (6, .slice p ns.length cp), (3, nv ((ns.take i).sum) v), (2, pT br)] ((br, oC #[.slice none 0 0] 37) :: O) (opAt Tryd.f31 4 0) (.pointer (some ⟨gOf p, i, none⟩)) ∧ RunV Tryd.prog [(10, .pointer (some ⟨gOf p, i, none⟩)), (9, .bool (decide (i < ns.length))), (8, iN i), (7, iN ns.length), (6, .slice p ns.length cp), (3, nv ((ns.take i).sum) v), (2, pT br)] ((br, oC #[.slice none 0 0] 37) :: O) (opAt Tryd.f31 4 1) (aG #[nv (ns.getD i 0) (xs.getD i undef)]) ∧ ∀ b1, b1 = b1 ∧ (#[.slice none 0 0] : Array Value).size = 1 ∧ (#[nv (ns.getD i 0) (xs.getD i undef)] : Array Value).size = 1 ∧ (#[nv (ns.getD i 0) (xs.getD i undef)] : Array Value).all (·.oneCell') = true ∧ (0, 0).2 = 0 ∧ Kt [(5, pT b1), (8, iN i), (7, iN ns.length), (6, .slice p ns.length cp), (3, nv ((ns.take i).sum) v), (2, pT br)] ((b1, oC #[nv (ns.getD i 0) (xs.getD i undef)] 37) :: (br, oC #[.slice none 0 0] 37) :: O)) (by kernel_rfl) (fun _ => by kernel_rfl) (⟨(rowAddr_ok (x := (.tmp 6)) (y := (.tmp 8)) (by kernel_rfl) rfl rfl Tryd.underlying86 (by kernel_rfl) hA.1 (by omega)), (rowLoadA_ok (x := (.tmp 10)) (i := i) (by kernel_rfl) rfl Tryd.underlying37 rfl (by kernel_rfl) hA.1 (fun _ hx => List.mem_cons_of_mem _ (hx)) (by omega)), fun b1 => ⟨rfl, rfl, rfl, (by kernel_rfl), rfl, fun ac6 wd6 FF6 MM6 => then_n ?_⟩⟩))
    refine wp_region_list ?_
    refine rg_part 3 FF6 MM6 [o_, o_, l_ 0 (nv (ns.getD i 0) (xs.getD i undef))] [5, 8, 7, 6, 3, 2, 12, 14] (fun Kt => b1 = b1 ∧ (#[nv (ns.getD i 0) (xs.getD i undef)] : Array Value)[0]? = some (nv (ns.getD i 0) (xs.getD i undef)) ∧ Kt [(14, nv (ns.getD i 0) (xs.getD i undef)), (12, nv ((ns.take i).sum) v), (5, pT b1), (8, iN i), (7, iN ns.length), (6, .slice p ns.length cp), (3, nv ((ns.take i).sum) v), (2, pT br)] ((b1, oC #[nv (ns.getD i 0) (xs.getD i undef)] 37) :: (br, oC #[.slice none 0 0] 37) :: O)) (by kernel_rfl) (fun _ => by kernel_rfl) (⟨rfl, rfl, fun ac7 wd7 FF7 MM7 => ?_⟩)
    refine st_callE [5, 8, 7, 6, 3, 2, 15] FF7 (d := 15) (mk := fun v => nv ((ns.take i).sum + ns.getD i 0) v) en_plus rfl rfl (plus_any ((ns.take i).sum) (ns.getD i 0) v (xs.getD i undef) ((hA.2 i (by omega)).mono (fun _ hx => List.mem_cons_of_mem _ (List.mem_cons_of_mem _ (hx)))) hz (Nat.lt_of_le_of_lt (qsz_mono (sum_part ns i)) hs) (Nat.lt_of_le_of_lt (qsz_mono (sum_one ns i (by omega))) hs) _ MM7) rfl (by kernel_rfl) (by decide) fun ac9 wd9 lv8 (FF9 : Fr 19 ac9 [(15, nv ((ns.take i).sum + ns.getD i 0) lv8), (5, pT b1), (8, iN i), (7, iN ns.length), (6, .slice p ns.length cp), (3, nv ((ns.take i).sum) v), (2, pT br)]) hr10 => ?_
    rw [← sum_take ns i (by omega)] at FF9 hr10
    obtain ⟨hz2, MMlv8⟩ := hr10
    refine rg_part 1 FF9 MMlv8 [o_] [5, 8, 7, 6, 3, 2] (fun Kt => Kt [(3, nv ((ns.take (i + 1)).sum) lv8), (5, pT b1), (8, iN i), (7, iN ns.length), (6, .slice p ns.length cp), (2, pT br)] ((b1, oC #[nv (ns.getD i 0) (xs.getD i undef)] 37) :: (br, oC #[.slice none 0 0] 37) :: O)) (by kernel_rfl) (fun _ => by kernel_rfl) (fun ac11 wd11 FF11 MM11 => ?_)
    refine wpl_nil ?_
    refine inb_n (then_n ?_)
    refine rg_seq FF11 MM11 [o_, o_] [3, 5, 8, 7, 6, 2] (fun Kt => i + 1 < 9223372036854775808 ∧ Kt [(8, iN (i + 1)), (3, nv ((ns.take (i + 1)).sum) lv8), (5, pT b1), (7, iN ns.length), (6, .slice p ns.length cp), (2, pT br)] ((b1, oC #[nv (ns.getD i 0) (xs.getD i undef)] 37) :: (br, oC #[.slice none 0 0] 37) :: O)) (by kernel_rfl) (fun _ => by kernel_rfl) (⟨(by omega), fun ac12 wd12 FF12 MM12 => ?_⟩)
    have hd := cnt_of (FF12.get 0 rfl)
    refine then_n ⟨⟨i + 1, lv8, by omega, hz2, FF12.pick [0, 3, 4, 1, 5], (MM12.dropAt 0)⟩, ?_⟩
    rw [hc, hd]; omega
  · skip
    refine then_n (.inr ⟨(FF5.ev 0 rfl).trans (dec_f hlt), ?_⟩)
    obtain rfl : i = ns.length := by omega
    refine then_n ?_
    refine wp_seq (rg_seq FF5 MM5 [o_, o_, b_ 0] [8, 7, 6, 3, 2] (fun Kt => br = br ∧ (#[.slice none 0 0] : Array Value).size = 1 ∧ (#[nv ((ns.take ns.length).sum) v] : Array Value).size = 1 ∧ (#[nv ((ns.take ns.length).sum) v] : Array Value).all (·.oneCell') = true ∧ (0, 0).2 = 0 ∧ Kt [(8, iN ns.length), (7, iN ns.length), (6, .slice p ns.length cp), (3, nv ((ns.take ns.length).sum) v), (2, pT br)] ((br, oC #[nv ((ns.take ns.length).sum) v] 37) :: O)) (by kernel_rfl) (fun _ => by kernel_rfl) (⟨rfl, rfl, rfl, (by kernel_rfl), rfl, fun ac13 wd13 FF13 MM13 => then_n ?_⟩))
    refine wp_ret ?_
    repeat first | refine then_ret ?_ | refine inb_ret ?_
    exact (retc FF13 MM13 (k := 1) (i := 0) (j := 4) Tryd.results31 rfl rfl Tryd.underlying37 rfl (by kernel_rfl) rfl (by have h9 := natNew_row hz MM13; rw [List.take_length] at h9 ⊢; exact ⟨v, rfl, MM13.belowN H (fun _ hx => List.mem_cons_of_mem _ (hx)), h9⟩))
theorem nadd_any (p : Option Addr) (cp : Nat) (ns : List Nat) (xs : List Value) (hs : qsz ns.sum < 1000000) (hl : ns.length < 1000) (w0 : World) (hA : NatsIn w0 p ns xs) : Calls Tryd.prog 31 #[.slice p ns.length cp] w0 fun e w' => ∃ v, e = .returned (.agg #[nv ns.sum v]) ∧ Below w0.heap.size w0 w' ∧ NatNew w0.heap.size w' (nv ns.sum v) ns.sum := by
  obtain ⟨O, h1, h2, h3⟩ := natsIn_O hA
  exact nadd_O O h2 p cp ns xs h3 hs hl w0 h1
end Go.Proofs.YtlljedijldkcbaaDoor
namespace Go.Proofs.YtlljedijldkcbaaDoor
open Go.RowKit
/-- What is carried behind k words of V + N * x. -/
def mc (V N x k : Nat) : Nat := (V % 18446744073709551616 ^ k + N % 18446744073709551616 ^ k * x) / 18446744073709551616 ^ k
theorem mc_zero (V N x : Nat) : mc V N x 0 = 0 := by simp [mc, Nat.mod_one]
theorem mod_next (X k : Nat) : X % 18446744073709551616 ^ (k + 1) = X % 18446744073709551616 ^ k + 18446744073709551616 ^ k * qd X k := by rw [Nat.pow_succ, Nat.mod_mul]; rfl
theorem mc_num (V N x k : Nat) : (V % 18446744073709551616 ^ (k + 1) + N % 18446744073709551616 ^ (k + 1) * x) / 18446744073709551616 ^ k = mc V N x k + (qd V k + qd N k * x) := by
  rw [mod_next V k, mod_next N k]
  have : V % 18446744073709551616 ^ k + 18446744073709551616 ^ k * qd V k + (N % 18446744073709551616 ^ k + 18446744073709551616 ^ k * qd N k) * x = (V % 18446744073709551616 ^ k + N % 18446744073709551616 ^ k * x) + 18446744073709551616 ^ k * (qd V k + qd N k * x) := by
    rw [Nat.add_mul, Nat.mul_add, Nat.mul_assoc]; omega
  rw [this, Nat.add_mul_div_left _ _ (qpw_pos k)]; rfl
theorem mc_step (V N x k : Nat) : (x * qd N k + mc V N x k + qd V k) / 18446744073709551616 = mc V N x (k + 1) := by
  have h := mc_num V N x k
  have e : mc V N x (k + 1) = (V % 18446744073709551616 ^ (k + 1) + N % 18446744073709551616 ^ (k + 1) * x) / 18446744073709551616 ^ k / 18446744073709551616 := by rw [mc, Nat.div_div_eq_div_mul, ← Nat.pow_succ]
  rw [e, h, Nat.mul_comm x]
  congr 1; omega
theorem mc_word (V N x k : Nat) : (x * qd N k + mc V N x k + qd V k) % 18446744073709551616 = qd (V + N * x) k := by
  have e : V + N * x = (V % 18446744073709551616 ^ k + N % 18446744073709551616 ^ k * x) + 18446744073709551616 ^ k * (V / 18446744073709551616 ^ k + N / 18446744073709551616 ^ k * x) := by
    have h1 := Nat.div_add_mod V (18446744073709551616 ^ k)
    have h2 := Nat.div_add_mod N (18446744073709551616 ^ k)
    conv => lhs; rw [← h1, ← h2]
    rw [Nat.add_mul, Nat.mul_add, Nat.mul_assoc]; omega
  unfold qd
  rw [e, Nat.add_mul_div_left _ _ (qpw_pos k)]
  have : N / 18446744073709551616 ^ k * x % 18446744073709551616 = (N / 18446744073709551616 ^ k % 18446744073709551616) * x % 18446744073709551616 := by rw [Nat.mod_mul_mod]
  have hm : (V % 18446744073709551616 ^ k + N % 18446744073709551616 ^ k * x) / 18446744073709551616 ^ k = mc V N x k := rfl
  rw [hm, Nat.mul_comm x]
  omega
theorem mc_lt {x : Nat} (hx : x < 18446744073709551616) (V N k : Nat) : mc V N x k < 18446744073709551616 := by
  refine Nat.div_lt_of_lt_mul ?_
  have h1 := Nat.mod_lt V (qpw_pos k)
  have h2 := Nat.mod_lt N (qpw_pos k)
  have h3 : N % 18446744073709551616 ^ k * x ≤ (18446744073709551616 ^ k - 1) * (18446744073709551616 - 1) := Nat.mul_le_mul (by omega) (by omega)
  have h4 : (18446744073709551616 ^ k - 1) * (18446744073709551616 - 1) + (18446744073709551616 ^ k - 1) = (18446744073709551616 ^ k - 1) * 18446744073709551616 := by rw [← Nat.mul_succ]
  have h5 : (18446744073709551616 ^ k - 1) * 18446744073709551616 + 18446744073709551616 = 18446744073709551616 ^ k * 18446744073709551616 := by rw [← Nat.succ_mul]; congr 1; omega
  omega
theorem mc_end {V N n : Nat} (x : Nat) (hV : V < 18446744073709551616 ^ n) (hN : N < 18446744073709551616 ^ n) : mc V N x n = (V + N * x) / 18446744073709551616 ^ n := by rw [mc, Nat.mod_eq_of_lt hV, Nat.mod_eq_of_lt hN]
/-- One step of a product: a word times a word, a word and a word more. -/
theorem mac {p c v : Nat} (hp : p ≤ 340282366920938463426481119284349108225) (hc : c < 18446744073709551616) (hv : v < 18446744073709551616) : (v + (p % 18446744073709551616 + c + 0) % 18446744073709551616 + 0) % 18446744073709551616 = (p + c + v) % 18446744073709551616 ∧ p / 18446744073709551616 + (p % 18446744073709551616 + c + 0) / 18446744073709551616 < 18446744073709551616 ∧ p / 18446744073709551616 + (p % 18446744073709551616 + c + 0) / 18446744073709551616 + (v + (p % 18446744073709551616 + c + 0) % 18446744073709551616 + 0) / 18446744073709551616 < 18446744073709551616 ∧ p / 18446744073709551616 + (p % 18446744073709551616 + c + 0) / 18446744073709551616 + (v + (p % 18446744073709551616 + c + 0) % 18446744073709551616 + 0) / 18446744073709551616 = (p + c + v) / 18446744073709551616 := by omega
theorem word_mul {x y : Nat} (hx : x < 18446744073709551616) (hy : y < 18446744073709551616) : x * y ≤ 340282366920938463426481119284349108225 := Nat.mul_le_mul (Nat.le_of_lt_succ hx) (Nat.le_of_lt_succ hy)
/-- The words of V + N * x, up to k; then those of V. -/
def mtL (n V N x k : Nat) : List Nat := (List.range n).map fun j => if j < k then qd (V + N * x) j else qd V j
theorem mtL_len (n V N x k : Nat) : (mtL n V N x k).length = n := by simp [mtL]
theorem mtL_get (n V N x k : Nat) {j : Nat} (h : j < n) : (mtL n V N x k).getD j 0 = if j < k then qd (V + N * x) j else qd V j := by simp [mtL, h]
theorem mtL_zero (n V N x : Nat) : mtL n V N x 0 = qleB n V := by
  refine ext_getD (by rw [mtL_len, qleB_len]) fun j hj => ?_
  rw [mtL_len] at hj
  rw [mtL_get _ _ _ _ _ hj, qleB_get hj, if_neg (by omega)]; rfl
theorem mtL_all (n V N x : Nat) : mtL n V N x n = qleB n (V + N * x) := by
  refine ext_getD (by rw [mtL_len, qleB_len]) fun j hj => ?_
  rw [mtL_len] at hj
  rw [mtL_get _ _ _ _ _ hj, qleB_get hj, if_pos hj]; rfl
theorem mtL_step (n V N x k : Nat) (h : k < n) : (mtL n V N x k).set k (qd (V + N * x) k) = mtL n V N x (k + 1) := by
  refine ext_getD (by simp [mtL]) fun j hj => ?_
  simp only [List.length_set, mtL_len] at hj
  rw [getD_set, mtL_get _ _ _ _ _ hj, mtL_get _ _ _ _ _ hj, mtL_len]
  by_cases e : k = j
  · subst e; rw [if_pos ⟨rfl, h⟩, if_pos (by omega)]
  · rw [if_neg (fun h => e h.1)]
    by_cases h1 : j < k
    · rw [if_pos h1, if_pos (by omega)]
    · rw [if_neg h1, if_neg (by omega)]
/-- Within a longer row. -/
def midL (A B C : List Nat) : List Nat := A ++ B ++ C
theorem midL_len (A B C : List Nat) : (midL A B C).length = A.length + B.length + C.length := by simp [midL]; omega
theorem midL_get {A B C : List Nat} {f k : Nat} (hA : A.length = f) (h : k < B.length) : (midL A B C).getD (f + k) 0 = B.getD k 0 := by
  rw [midL, getD_app_l _ _ _ (by simp; omega), getD_app_r _ _ _ (by omega), hA]; congr 1; omega
theorem midL_set {A B C : List Nat} {f k x : Nat} (hA : A.length = f) (h : k < B.length) : (midL A B C).set (f + k) x = midL A (B.set k x) C := by
  rw [midL, midL, List.set_append, if_pos (by simp; omega), List.set_append, if_neg (by omega), show f + k - A.length = k by omega]
theorem split3 {P n i k : Nat} (h : i + k ≤ n) (hP : P < 18446744073709551616 ^ (i + k)) : qleB n P = midL (qleB i P) (qleB k (P / 18446744073709551616 ^ i)) (List.replicate (n - i - k) 0) := by
  refine ext_getD (by rw [midL_len, qleB_len, qleB_len, qleB_len, List.length_replicate]; omega) fun j hj => ?_
  rw [qleB_len] at hj
  rw [qleB_get hj]
  rcases Nat.lt_or_ge j i with h1 | h1
  · rw [midL, getD_app_l _ _ _ (by simp [qleB_len]; omega), getD_app_l _ _ _ (by rw [qleB_len]; exact h1), qleB_get h1]
  · rcases Nat.lt_or_ge j (i + k) with h2 | h2
    · obtain ⟨t, rfl⟩ := Nat.exists_eq_add_of_le h1
      rw [midL_get (qleB_len _ _) (by rw [qleB_len]; omega), qleB_get (by omega), Nat.div_div_eq_div_mul, ← Nat.pow_add]
    · rw [midL, getD_app_r _ _ _ (by simp [qleB_len]; omega), rep_get, Nat.div_eq_of_lt (Nat.lt_of_lt_of_le hP (qpw_le h2))]
/-- The product of a number's first words. -/
def pr (M N i : Nat) : Nat := M % 18446744073709551616 ^ i * N
theorem pr_zero (M N : Nat) : pr M N 0 = 0 := by simp [pr, Nat.mod_one]
theorem pr_all (M N : Nat) : pr M N (qsz M) = M * N := by rw [pr, Nat.mod_eq_of_lt (qsz_ok M).1]
theorem pr_step (M N i : Nat) : pr M N (i + 1) = pr M N i + 18446744073709551616 ^ i * (N * qd M i) := by
  unfold pr
  rw [mod_next, Nat.add_mul, Nat.mul_assoc, Nat.mul_comm (qd M i) N]
theorem pr_lt (M N i : Nat) : pr M N i < 18446744073709551616 ^ (i + qsz N) := by
  rw [pr, Nat.pow_add]
  have h1 := Nat.mod_lt M (qpw_pos i)
  have h2 := (qsz_ok N).1
  rcases Nat.eq_zero_or_pos N with h | h
  · subst h; rw [Nat.mul_zero]; exact Nat.mul_pos (qpw_pos _) (qpw_pos _)
  · exact Nat.lt_of_lt_of_le (Nat.mul_lt_mul_of_pos_right h1 h) (Nat.mul_le_mul_left _ (Nat.le_of_lt h2))
theorem pr_div (M N i : Nat) : pr M N (i + 1) / 18446744073709551616 ^ i = pr M N i / 18446744073709551616 ^ i + N * qd M i := by rw [pr_step, Nat.add_mul_div_left _ _ (qpw_pos i)]
theorem pr_low (M N i : Nat) : qleB i (pr M N (i + 1)) = qleB i (pr M N i) := by
  refine ext_getD (by rw [qleB_len, qleB_len]) fun j hj => ?_
  rw [qleB_len] at hj
  rw [qleB_get hj, qleB_get hj, pr_step]
  have : 18446744073709551616 ^ i * (N * qd M i) = 18446744073709551616 ^ j * (18446744073709551616 * (18446744073709551616 ^ (i - j - 1) * (N * qd M i))) := by
    rw [show 18446744073709551616 ^ i = 18446744073709551616 ^ j * (18446744073709551616 * 18446744073709551616 ^ (i - j - 1)) by rw [← Nat.pow_succ', ← Nat.pow_add]; congr 1; omega]
    simp only [Nat.mul_assoc]
  rw [this, Nat.add_mul_div_left _ _ (qpw_pos j), Nat.add_mul_mod_self_left]
theorem pr_seg (M N i : Nat) : pr M N i / 18446744073709551616 ^ i < 18446744073709551616 ^ qsz N := Nat.div_lt_of_lt_mul (by rw [← Nat.pow_add]; exact pr_lt M N i)
theorem pr_top (M N i : Nat) : (pr M N i / 18446744073709551616 ^ i + N * qd M i) / 18446744073709551616 ^ qsz N = qd (pr M N (i + 1)) (i + qsz N) := by
  rw [← pr_div, Nat.div_div_eq_div_mul, ← Nat.pow_add, qd, Nat.mod_eq_of_lt]
  refine Nat.div_lt_of_lt_mul ?_
  rw [← Nat.pow_succ, show (i + qsz N).succ = i + 1 + qsz N by omega]
  exact pr_lt M N (i + 1)
theorem times_step {M N i n : Nat} (h : i + qsz N < n) : (midL (qleB i (pr M N i)) (qleB (qsz N) (pr M N i / 18446744073709551616 ^ i + N * qd M i)) (List.replicate (n - i - qsz N) 0)).set (i + qsz N) ((pr M N i / 18446744073709551616 ^ i + N * qd M i) / 18446744073709551616 ^ qsz N) = qleB n (pr M N (i + 1)) := by
  rw [split3 (P := pr M N (i + 1)) (n := n) (i := i + qsz N) (k := 1) (by omega) (by rw [show i + qsz N + 1 = i + 1 + qsz N by omega]; exact pr_lt M N (i + 1)), pr_top]
  have e : qleB (i + qsz N) (pr M N (i + 1)) = qleB i (pr M N i) ++ qleB (qsz N) (pr M N i / 18446744073709551616 ^ i + N * qd M i) := by
    refine ext_getD (by simp [qleB_len]) fun j hj => ?_
    rw [qleB_len] at hj
    rw [qleB_get hj]
    rcases Nat.lt_or_ge j i with h1 | h1
    · rw [getD_app_l _ _ _ (by rw [qleB_len]; exact h1), ← pr_low, qleB_get h1]
    · obtain ⟨t, rfl⟩ := Nat.exists_eq_add_of_le h1
      rw [getD_app_r _ _ _ (by rw [qleB_len]; exact h1), qleB_len, Nat.add_sub_cancel_left, qleB_get (by omega), ← pr_div, Nat.div_div_eq_div_mul, ← Nat.pow_add]
  rw [e]
  unfold midL
  rw [List.set_append, if_neg (by simp [qleB_len]), show i + qsz N - (qleB i (pr M N i) ++ qleB (qsz N) (pr M N i / 18446744073709551616 ^ i + N * qd M i)).length = 0 by simp [qleB_len]]
  obtain ⟨z, hz⟩ : ∃ z, n - i - qsz N = z + 1 := ⟨n - i - qsz N - 1, by omega⟩
  rw [hz, List.replicate_succ, List.set_cons_zero, show n - (i + qsz N) - 1 = z by omega]
  have e2 : qleB 1 (pr M N (i + 1) / 18446744073709551616 ^ (i + qsz N)) = [qd (pr M N (i + 1)) (i + qsz N)] := by simp [qleB, List.range_succ, qd]
  rw [e2]
  simp
end Go.Proofs.YtlljedijldkcbaaDoor
