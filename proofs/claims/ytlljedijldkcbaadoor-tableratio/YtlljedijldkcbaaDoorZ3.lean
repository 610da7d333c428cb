/- Several texts in one: The library: bits of a word, which is less, products of words. The library: two words, divided by a group. The library: decimal digits of a word. The library: a row of noughts as a text. Package nat: rows trimmed, numbers of a word, of bytes. -/
import Derived.Test.YtlljedijldkcbaaDoorZ2
import Derived.Test.YtlljedijldkcbaaDoorProg
import Derived.Lib.Mul64
import Derived.Shelf.Strconv.Itoa2
namespace Go.Proofs.YtlljedijldkcbaaDoor
open Go.RowKit
theorem en_len64 : Enters Tryd.prog 55 := fun args w => by simp [go_sem]
theorem en_blen : Enters Tryd.prog 76 := fun args w => by simp [go_sem]
theorem en_lz64 : Enters Tryd.prog 87 := fun args w => by simp [go_sem]
theorem en_cmpi : Enters Tryd.prog 52 := fun args w => by simp [go_sem]
theorem en_cmpu : Enters Tryd.prog 53 := fun args w => by simp [go_sem]
theorem en_nani : Enters Tryd.prog 68 := fun args w => by simp [go_sem]
theorem en_nanu : Enters Tryd.prog 69 := fun args w => by simp [go_sem]
theorem en_mul64 : Enters Tryd.prog 78 := fun args w => by simp [go_sem]
theorem en_bmul : Enters Tryd.prog 82 := fun args w => by simp [go_sem]
theorem en_div64 : Enters Tryd.prog 79 := fun args w => by simp [go_sem]
theorem en_l10 : Enters Tryd.prog 96 := fun args w => by simp [go_sem]
theorem en_bool2 : Enters Tryd.prog 97 := fun args w => by simp [go_sem]
theorem en_small : Enters Tryd.prog 89 := fun args w => by simp [go_sem]
theorem en_ndig : Enters Tryd.prog 90 := fun args w => by simp [go_sem]
theorem en_fmt10 : Enters Tryd.prog 91 := fun args w => by simp [go_sem]
theorem en_ifmt : Enters Tryd.prog 81 := fun args w => by simp [go_sem]
theorem en_fmtu : Enters Tryd.prog 73 := fun args w => by simp [go_sem]
theorem en_hasp : Enters Tryd.prog 83 := fun args w => by simp [go_sem]
theorem en_lhasp : Enters Tryd.prog 94 := fun args w => by simp [go_sem]
theorem en_repeat : Enters Tryd.prog 74 := fun args w => by simp [go_sem]
set_option maxRecDepth 100000 in
theorem len64_any (x : Nat) (hx : x < 18446744073709551616) (w0 : World) :
    Calls Tryd.prog 55 #[iW x] w0 fun e w' => e = .returned (iN (bsz x)) ∧ Below w0.heap.size w0 w' := by
  refine enter_fr Tryd.func55 rfl Tryd.ntmps55 (by simp) fun ac (FF : Fr 25 ac [(0, iW x)]) => ?_
  have MM := MemS.start w0
  refine wp_seq (rg_seq FF MM [o_] [0, 2] (fun Kt => Kt [(2, iN 0), (0, iW x)] []) (by kernel_rfl) (fun _ => by kernel_rfl) (fun ac1 wd1 FF1 MM1 => then_n ?_))
  refine wp_seq ?_
  refine wp_seq (rg_seq FF1 MM1 [o_, o_] [2, 0, 4] (fun Kt => Kt [(4, .bool (decide (x ≥ 4294967296))), (2, iN 0), (0, iW x)] []) (by kernel_rfl) (fun _ => by kernel_rfl) (fun ac2 wd2 FF2 MM2 => then_n ?_))
  by_cases hs4 : x ≥ 4294967296
  · refine wp_cond_true ((FF2.ev 0 rfl).trans (dec_t hs4)) ?_
    have q4 := bsz32 (x := x) hs4
    refine wp_seq (rg_seq FF2 MM2 [o_, o_, o_] [2, 0] (fun Kt => 32 ≤ 64 ∧ Kt [(0, iW (x / 4294967296)), (2, iN 0)] []) (by kernel_rfl) (fun _ => by kernel_rfl) (⟨(by decide), fun ac3 wd3 FF3 MM3 => then_n ?_⟩))
    refine rg_seq FF3 MM3 [o_] [0, 2] (fun Kt => Kt [(2, iN 32), (0, iW (x / 4294967296))] []) (by kernel_rfl) (fun _ => by kernel_rfl) (fun ac4 wd4 FF4 MM4 => ?_)
    refine then_n ?_
    refine wp_seq ?_
    refine wp_seq (rg_seq FF4 MM4 [o_, o_] [2, 0, 8] (fun Kt => Kt [(8, .bool (decide ((x / 4294967296) ≥ 65536))), (2, iN 32), (0, iW (x / 4294967296))] []) (by kernel_rfl) (fun _ => by kernel_rfl) (fun ac5 wd5 FF5 MM5 => then_n ?_))
    by_cases hs8 : (x / 4294967296) ≥ 65536
    · refine wp_cond_true ((FF5.ev 0 rfl).trans (dec_t hs8)) ?_
      have q8 := bsz16 (x := x / 4294967296) hs8
      refine wp_seq (rg_seq FF5 MM5 [o_, o_, o_] [2, 0] (fun Kt => 16 ≤ 64 ∧ Kt [(0, iW ((x / 4294967296) / 65536)), (2, iN 32)] []) (by kernel_rfl) (fun _ => by kernel_rfl) (⟨(by decide), fun ac6 wd6 FF6 MM6 => then_n ?_⟩))
      refine rg_seq FF6 MM6 [o_, o_, o_] [0, 2] (fun Kt => 32 + 16 < 9223372036854775808 ∧ Kt [(2, iN 48), (0, iW ((x / 4294967296) / 65536))] []) (by kernel_rfl) (fun _ => by kernel_rfl) (⟨(by decide), fun ac7 wd7 FF7 MM7 => ?_⟩)
      refine then_n ?_
      refine wp_seq ?_
      refine wp_seq (rg_seq FF7 MM7 [o_, o_] [2, 0, 14] (fun Kt => Kt [(14, .bool (decide (((x / 4294967296) / 65536) ≥ 256))), (2, iN 48), (0, iW ((x / 4294967296) / 65536))] []) (by kernel_rfl) (fun _ => by kernel_rfl) (fun ac8 wd8 FF8 MM8 => then_n ?_))
      by_cases hs14 : ((x / 4294967296) / 65536) ≥ 256
      · refine wp_cond_true ((FF8.ev 0 rfl).trans (dec_t hs14)) ?_
        have q14 := bsz_8 (x := (x / 4294967296) / 65536) hs14
        refine wp_seq (rg_seq FF8 MM8 [o_, o_, o_] [2, 0] (fun Kt => 8 ≤ 64 ∧ Kt [(0, iW (((x / 4294967296) / 65536) / 256)), (2, iN 48)] []) (by kernel_rfl) (fun _ => by kernel_rfl) (⟨(by decide), fun ac9 wd9 FF9 MM9 => then_n ?_⟩))
        refine rg_seq FF9 MM9 [o_, o_, o_] [0, 2] (fun Kt => 48 + 8 < 9223372036854775808 ∧ Kt [(2, iN 56), (0, iW (((x / 4294967296) / 65536) / 256))] []) (by kernel_rfl) (fun _ => by kernel_rfl) (⟨(by decide), fun ac10 wd10 FF10 MM10 => ?_⟩)
        refine then_n ?_
        have hb8 : ((x / 4294967296) / 65536) / 256 < 256 := by omega
        have hb9 := bsz8 hb8
        refine wp_seq (rg_seq FF10 MM10 [o_, o_, t_ (iB (((x / 4294967296) / 65536) / 256)), f_ (iB (bsz (((x / 4294967296) / 65536) / 256))), w_ 1, t_ (iN (bsz x)), o_] [2, 0] (fun Kt => iB ((((x / 4294967296) / 65536) / 256) % 256) = iB (((x / 4294967296) / 65536) / 256) ∧ RunV Tryd.prog [(21, iB (((x / 4294967296) / 65536) / 256)), (20, iW (((x / 4294967296) / 65536) / 256)), (19, iN 56), (2, iN 56), (0, iW (((x / 4294967296) / 65536) / 256))] [] (opAt Tryd.f55 10 3) (iB (bsz (((x / 4294967296) / 65536) / 256))) ∧ (bsz (((x / 4294967296) / 65536) / 256)) < 9223372036854775808 ∧ 56 + (bsz (((x / 4294967296) / 65536) / 256)) < 9223372036854775808 ∧ iN (56 + (bsz (((x / 4294967296) / 65536) / 256))) = iN (bsz x) ∧ Kt [(2, iN (bsz x)), (0, iW (((x / 4294967296) / 65536) / 256))] []) (by kernel_rfl) (fun _ => by kernel_rfl) (⟨(vI (by omega)), (idxK_ok (x := .const (sB len8)) (y := .tmp 21) (i := ((x / 4294967296) / 65536) / 256) (by kernel_rfl) rfl rfl Tryd.underlying9 (lit_lt (by kernel_rfl)) hb8 (len8_at hb8)), (by have := hb9; omega), (by have := hb9; omega), (vI (by omega)), fun ac11 wd11 FF11 MM11 => then_n ?_⟩))
        refine wp_ret ?_
        repeat first | refine then_ret ?_ | refine inb_ret ?_
        exact (ret_fr FF11 0 Tryd.results55 rfl ⟨rfl, MM11.below⟩)
      · refine wp_cond_false ((FF8.ev 0 rfl).trans (dec_f hs14)) ?_
        refine wp_skip ?_
        refine then_n ?_
        have hb8 : (x / 4294967296) / 65536 < 256 := by omega
        have hb9 := bsz8 hb8
        refine wp_seq (rg_seq FF8 MM8 [o_, o_, t_ (iB ((x / 4294967296) / 65536)), f_ (iB (bsz ((x / 4294967296) / 65536))), w_ 1, t_ (iN (bsz x)), o_] [2, 0] (fun Kt => iB (((x / 4294967296) / 65536) % 256) = iB ((x / 4294967296) / 65536) ∧ RunV Tryd.prog [(21, iB ((x / 4294967296) / 65536)), (20, iW ((x / 4294967296) / 65536)), (19, iN 48), (14, .bool (decide (((x / 4294967296) / 65536) ≥ 256))), (2, iN 48), (0, iW ((x / 4294967296) / 65536))] [] (opAt Tryd.f55 10 3) (iB (bsz ((x / 4294967296) / 65536))) ∧ (bsz ((x / 4294967296) / 65536)) < 9223372036854775808 ∧ 48 + (bsz ((x / 4294967296) / 65536)) < 9223372036854775808 ∧ iN (48 + (bsz ((x / 4294967296) / 65536))) = iN (bsz x) ∧ Kt [(2, iN (bsz x)), (0, iW ((x / 4294967296) / 65536))] []) (by kernel_rfl) (fun _ => by kernel_rfl) (⟨(vI (by omega)), (idxK_ok (x := .const (sB len8)) (y := .tmp 21) (i := (x / 4294967296) / 65536) (by kernel_rfl) rfl rfl Tryd.underlying9 (lit_lt (by kernel_rfl)) hb8 (len8_at hb8)), (by have := hb9; omega), (by have := hb9; omega), (vI (by omega)), fun ac12 wd12 FF12 MM12 => then_n ?_⟩))
        refine wp_ret ?_
        repeat first | refine then_ret ?_ | refine inb_ret ?_
        exact (ret_fr FF12 0 Tryd.results55 rfl ⟨rfl, MM12.below⟩)
    · refine wp_cond_false ((FF5.ev 0 rfl).trans (dec_f hs8)) ?_
      refine wp_skip ?_
      refine then_n ?_
      refine wp_seq ?_
      refine wp_seq (rg_seq FF5 MM5 [o_, o_] [2, 0, 14] (fun Kt => Kt [(14, .bool (decide ((x / 4294967296) ≥ 256))), (2, iN 32), (0, iW (x / 4294967296))] []) (by kernel_rfl) (fun _ => by kernel_rfl) (fun ac13 wd13 FF13 MM13 => then_n ?_))
      by_cases hs14 : (x / 4294967296) ≥ 256
      · refine wp_cond_true ((FF13.ev 0 rfl).trans (dec_t hs14)) ?_
        have q14 := bsz_8 (x := x / 4294967296) hs14
        refine wp_seq (rg_seq FF13 MM13 [o_, o_, o_] [2, 0] (fun Kt => 8 ≤ 64 ∧ Kt [(0, iW ((x / 4294967296) / 256)), (2, iN 32)] []) (by kernel_rfl) (fun _ => by kernel_rfl) (⟨(by decide), fun ac14 wd14 FF14 MM14 => then_n ?_⟩))
        refine rg_seq FF14 MM14 [o_, o_, o_] [0, 2] (fun Kt => 32 + 8 < 9223372036854775808 ∧ Kt [(2, iN 40), (0, iW ((x / 4294967296) / 256))] []) (by kernel_rfl) (fun _ => by kernel_rfl) (⟨(by decide), fun ac15 wd15 FF15 MM15 => ?_⟩)
        refine then_n ?_
        have hb8 : (x / 4294967296) / 256 < 256 := by omega
        have hb9 := bsz8 hb8
        refine wp_seq (rg_seq FF15 MM15 [o_, o_, t_ (iB ((x / 4294967296) / 256)), f_ (iB (bsz ((x / 4294967296) / 256))), w_ 1, t_ (iN (bsz x)), o_] [2, 0] (fun Kt => iB (((x / 4294967296) / 256) % 256) = iB ((x / 4294967296) / 256) ∧ RunV Tryd.prog [(21, iB ((x / 4294967296) / 256)), (20, iW ((x / 4294967296) / 256)), (19, iN 40), (2, iN 40), (0, iW ((x / 4294967296) / 256))] [] (opAt Tryd.f55 10 3) (iB (bsz ((x / 4294967296) / 256))) ∧ (bsz ((x / 4294967296) / 256)) < 9223372036854775808 ∧ 40 + (bsz ((x / 4294967296) / 256)) < 9223372036854775808 ∧ iN (40 + (bsz ((x / 4294967296) / 256))) = iN (bsz x) ∧ Kt [(2, iN (bsz x)), (0, iW ((x / 4294967296) / 256))] []) (by kernel_rfl) (fun _ => by kernel_rfl) (⟨(vI (by omega)), (idxK_ok (x := .const (sB len8)) (y := .tmp 21) (i := (x / 4294967296) / 256) (by kernel_rfl) rfl rfl Tryd.underlying9 (lit_lt (by kernel_rfl)) hb8 (len8_at hb8)), (by have := hb9; omega), (by have := hb9; omega), (vI (by omega)), fun ac16 wd16 FF16 MM16 => then_n ?_⟩))
        refine wp_ret ?_
        repeat first | refine then_ret ?_ | refine inb_ret ?_
        exact (ret_fr FF16 0 Tryd.results55 rfl ⟨rfl, MM16.below⟩)
      · refine wp_cond_false ((FF13.ev 0 rfl).trans (dec_f hs14)) ?_
        refine wp_skip ?_
        refine then_n ?_
        have hb8 : x / 4294967296 < 256 := by omega
        have hb9 := bsz8 hb8
        refine wp_seq (rg_seq FF13 MM13 [o_, o_, t_ (iB (x / 4294967296)), f_ (iB (bsz (x / 4294967296))), w_ 1, t_ (iN (bsz x)), o_] [2, 0] (fun Kt => iB ((x / 4294967296) % 256) = iB (x / 4294967296) ∧ RunV Tryd.prog [(21, iB (x / 4294967296)), (20, iW (x / 4294967296)), (19, iN 32), (14, .bool (decide ((x / 4294967296) ≥ 256))), (2, iN 32), (0, iW (x / 4294967296))] [] (opAt Tryd.f55 10 3) (iB (bsz (x / 4294967296))) ∧ (bsz (x / 4294967296)) < 9223372036854775808 ∧ 32 + (bsz (x / 4294967296)) < 9223372036854775808 ∧ iN (32 + (bsz (x / 4294967296))) = iN (bsz x) ∧ Kt [(2, iN (bsz x)), (0, iW (x / 4294967296))] []) (by kernel_rfl) (fun _ => by kernel_rfl) (⟨(vI (by omega)), (idxK_ok (x := .const (sB len8)) (y := .tmp 21) (i := x / 4294967296) (by kernel_rfl) rfl rfl Tryd.underlying9 (lit_lt (by kernel_rfl)) hb8 (len8_at hb8)), (by have := hb9; omega), (by have := hb9; omega), (vI (by omega)), fun ac17 wd17 FF17 MM17 => then_n ?_⟩))
        refine wp_ret ?_
        repeat first | refine then_ret ?_ | refine inb_ret ?_
        exact (ret_fr FF17 0 Tryd.results55 rfl ⟨rfl, MM17.below⟩)
  · refine wp_cond_false ((FF2.ev 0 rfl).trans (dec_f hs4)) ?_
    refine wp_skip ?_
    refine then_n ?_
    refine wp_seq ?_
    refine wp_seq (rg_seq FF2 MM2 [o_, o_] [2, 0, 8] (fun Kt => Kt [(8, .bool (decide (x ≥ 65536))), (2, iN 0), (0, iW x)] []) (by kernel_rfl) (fun _ => by kernel_rfl) (fun ac18 wd18 FF18 MM18 => then_n ?_))
    by_cases hs8 : x ≥ 65536
    · refine wp_cond_true ((FF18.ev 0 rfl).trans (dec_t hs8)) ?_
      have q8 := bsz16 (x := x) hs8
      refine wp_seq (rg_seq FF18 MM18 [o_, o_, o_] [2, 0] (fun Kt => 16 ≤ 64 ∧ Kt [(0, iW (x / 65536)), (2, iN 0)] []) (by kernel_rfl) (fun _ => by kernel_rfl) (⟨(by decide), fun ac19 wd19 FF19 MM19 => then_n ?_⟩))
      refine rg_seq FF19 MM19 [o_, o_, o_] [0, 2] (fun Kt => 0 + 16 < 9223372036854775808 ∧ Kt [(2, iN 16), (0, iW (x / 65536))] []) (by kernel_rfl) (fun _ => by kernel_rfl) (⟨(by decide), fun ac20 wd20 FF20 MM20 => ?_⟩)
      refine then_n ?_
      refine wp_seq ?_
      refine wp_seq (rg_seq FF20 MM20 [o_, o_] [2, 0, 14] (fun Kt => Kt [(14, .bool (decide ((x / 65536) ≥ 256))), (2, iN 16), (0, iW (x / 65536))] []) (by kernel_rfl) (fun _ => by kernel_rfl) (fun ac21 wd21 FF21 MM21 => then_n ?_))
      by_cases hs14 : (x / 65536) ≥ 256
      · refine wp_cond_true ((FF21.ev 0 rfl).trans (dec_t hs14)) ?_
        have q14 := bsz_8 (x := x / 65536) hs14
        refine wp_seq (rg_seq FF21 MM21 [o_, o_, o_] [2, 0] (fun Kt => 8 ≤ 64 ∧ Kt [(0, iW ((x / 65536) / 256)), (2, iN 16)] []) (by kernel_rfl) (fun _ => by kernel_rfl) (⟨(by decide), fun ac22 wd22 FF22 MM22 => then_n ?_⟩))
        refine rg_seq FF22 MM22 [o_, o_, o_] [0, 2] (fun Kt => 16 + 8 < 9223372036854775808 ∧ Kt [(2, iN 24), (0, iW ((x / 65536) / 256))] []) (by kernel_rfl) (fun _ => by kernel_rfl) (⟨(by decide), fun ac23 wd23 FF23 MM23 => ?_⟩)
        refine then_n ?_
        have hb8 : (x / 65536) / 256 < 256 := by omega
        have hb9 := bsz8 hb8
        refine wp_seq (rg_seq FF23 MM23 [o_, o_, t_ (iB ((x / 65536) / 256)), f_ (iB (bsz ((x / 65536) / 256))), w_ 1, t_ (iN (bsz x)), o_] [2, 0] (fun Kt => iB (((x / 65536) / 256) % 256) = iB ((x / 65536) / 256) ∧ RunV Tryd.prog [(21, iB ((x / 65536) / 256)), (20, iW ((x / 65536) / 256)), (19, iN 24), (2, iN 24), (0, iW ((x / 65536) / 256))] [] (opAt Tryd.f55 10 3) (iB (bsz ((x / 65536) / 256))) ∧ (bsz ((x / 65536) / 256)) < 9223372036854775808 ∧ 24 + (bsz ((x / 65536) / 256)) < 9223372036854775808 ∧ iN (24 + (bsz ((x / 65536) / 256))) = iN (bsz x) ∧ Kt [(2, iN (bsz x)), (0, iW ((x / 65536) / 256))] []) (by kernel_rfl) (fun _ => by kernel_rfl) (⟨(vI (by omega)), (idxK_ok (x := .const (sB len8)) (y := .tmp 21) (i := (x / 65536) / 256) (by kernel_rfl) rfl rfl Tryd.underlying9 (lit_lt (by kernel_rfl)) hb8 (len8_at hb8)), (by have := hb9; omega), (by have := hb9; omega), (vI (by omega)), fun ac24 wd24 FF24 MM24 => then_n ?_⟩))
        refine wp_ret ?_
        repeat first | refine then_ret ?_ | refine inb_ret ?_
        exact (ret_fr FF24 0 Tryd.results55 rfl ⟨rfl, MM24.below⟩)
      · refine wp_cond_false ((FF21.ev 0 rfl).trans (dec_f hs14)) ?_
        refine wp_skip ?_
        refine then_n ?_
        have hb8 : x / 65536 < 256 := by omega
        have hb9 := bsz8 hb8
        refine wp_seq (rg_seq FF21 MM21 [o_, o_, t_ (iB (x / 65536)), f_ (iB (bsz (x / 65536))), w_ 1, t_ (iN (bsz x)), o_] [2, 0] (fun Kt => iB ((x / 65536) % 256) = iB (x / 65536) ∧ RunV Tryd.prog [(21, iB (x / 65536)), (20, iW (x / 65536)), (19, iN 16), (14, .bool (decide ((x / 65536) ≥ 256))), (2, iN 16), (0, iW (x / 65536))] [] (opAt Tryd.f55 10 3) (iB (bsz (x / 65536))) ∧ (bsz (x / 65536)) < 9223372036854775808 ∧ 16 + (bsz (x / 65536)) < 9223372036854775808 ∧ iN (16 + (bsz (x / 65536))) = iN (bsz x) ∧ Kt [(2, iN (bsz x)), (0, iW (x / 65536))] []) (by kernel_rfl) (fun _ => by kernel_rfl) (⟨(vI (by omega)), (idxK_ok (x := .const (sB len8)) (y := .tmp 21) (i := x / 65536) (by kernel_rfl) rfl rfl Tryd.underlying9 (lit_lt (by kernel_rfl)) hb8 (len8_at hb8)), (by have := hb9; omega), (by have := hb9; omega), (vI (by omega)), fun ac25 wd25 FF25 MM25 => then_n ?_⟩))
        refine wp_ret ?_
        repeat first | refine then_ret ?_ | refine inb_ret ?_
        exact (ret_fr FF25 0 Tryd.results55 rfl ⟨rfl, MM25.below⟩)
    · refine wp_cond_false ((FF18.ev 0 rfl).trans (dec_f hs8)) ?_
      refine wp_skip ?_
      refine then_n ?_
      refine wp_seq ?_
      refine wp_seq (rg_seq FF18 MM18 [o_, o_] [2, 0, 14] (fun Kt => Kt [(14, .bool (decide (x ≥ 256))), (2, iN 0), (0, iW x)] []) (by kernel_rfl) (fun _ => by kernel_rfl) (fun ac26 wd26 FF26 MM26 => then_n ?_))
      by_cases hs14 : x ≥ 256
      · refine wp_cond_true ((FF26.ev 0 rfl).trans (dec_t hs14)) ?_
        have q14 := bsz_8 (x := x) hs14
        refine wp_seq (rg_seq FF26 MM26 [o_, o_, o_] [2, 0] (fun Kt => 8 ≤ 64 ∧ Kt [(0, iW (x / 256)), (2, iN 0)] []) (by kernel_rfl) (fun _ => by kernel_rfl) (⟨(by decide), fun ac27 wd27 FF27 MM27 => then_n ?_⟩))
        refine rg_seq FF27 MM27 [o_, o_, o_] [0, 2] (fun Kt => 0 + 8 < 9223372036854775808 ∧ Kt [(2, iN 8), (0, iW (x / 256))] []) (by kernel_rfl) (fun _ => by kernel_rfl) (⟨(by decide), fun ac28 wd28 FF28 MM28 => ?_⟩)
        refine then_n ?_
        have hb8 : x / 256 < 256 := by omega
        have hb9 := bsz8 hb8
        refine wp_seq (rg_seq FF28 MM28 [o_, o_, t_ (iB (x / 256)), f_ (iB (bsz (x / 256))), w_ 1, t_ (iN (bsz x)), o_] [2, 0] (fun Kt => iB ((x / 256) % 256) = iB (x / 256) ∧ RunV Tryd.prog [(21, iB (x / 256)), (20, iW (x / 256)), (19, iN 8), (2, iN 8), (0, iW (x / 256))] [] (opAt Tryd.f55 10 3) (iB (bsz (x / 256))) ∧ (bsz (x / 256)) < 9223372036854775808 ∧ 8 + (bsz (x / 256)) < 9223372036854775808 ∧ iN (8 + (bsz (x / 256))) = iN (bsz x) ∧ Kt [(2, iN (bsz x)), (0, iW (x / 256))] []) (by kernel_rfl) (fun _ => by kernel_rfl) (⟨(vI (by omega)), (idxK_ok (x := .const (sB len8)) (y := .tmp 21) (i := x / 256) (by kernel_rfl) rfl rfl Tryd.underlying9 (lit_lt (by kernel_rfl)) hb8 (len8_at hb8)), (by have := hb9; omega), (by have := hb9; omega), (vI (by omega)), fun ac29 wd29 FF29 MM29 => then_n ?_⟩))
        refine wp_ret ?_
        repeat first | refine then_ret ?_ | refine inb_ret ?_
        exact (ret_fr FF29 0 Tryd.results55 rfl ⟨rfl, MM29.below⟩)
      · refine wp_cond_false ((FF26.ev 0 rfl).trans (dec_f hs14)) ?_
        refine wp_skip ?_
        refine then_n ?_
        have hb8 : x < 256 := by omega
        have hb9 := bsz8 hb8
        refine wp_seq (rg_seq FF26 MM26 [o_, o_, t_ (iB x), f_ (iB (bsz (x))), w_ 1, t_ (iN (bsz x)), o_] [2, 0] (fun Kt => iB (x % 256) = iB x ∧ RunV Tryd.prog [(21, iB x), (20, iW x), (19, iN 0), (14, .bool (decide (x ≥ 256))), (2, iN 0), (0, iW x)] [] (opAt Tryd.f55 10 3) (iB (bsz (x))) ∧ (bsz (x)) < 9223372036854775808 ∧ 0 + (bsz (x)) < 9223372036854775808 ∧ iN (0 + (bsz (x))) = iN (bsz x) ∧ Kt [(2, iN (bsz x)), (0, iW x)] []) (by kernel_rfl) (fun _ => by kernel_rfl) (⟨(vI (by omega)), (idxK_ok (x := .const (sB len8)) (y := .tmp 21) (i := x) (by kernel_rfl) rfl rfl Tryd.underlying9 (lit_lt (by kernel_rfl)) hb8 (len8_at hb8)), (by have := hb9; omega), (by have := hb9; omega), (vI (by omega)), fun ac30 wd30 FF30 MM30 => then_n ?_⟩))
        refine wp_ret ?_
        repeat first | refine then_ret ?_ | refine inb_ret ?_
        exact (ret_fr FF30 0 Tryd.results55 rfl ⟨rfl, MM30.below⟩)
set_option maxRecDepth 100000 in
theorem blen_any (x : Nat) (hx : x < 18446744073709551616) (w0 : World) :
    Calls Tryd.prog 76 #[iW x] w0 fun e w' => e = .returned (iN (bsz x)) ∧ Below w0.heap.size w0 w' := by
  refine enter_fr Tryd.func76 rfl Tryd.ntmps76 (by simp) fun ac (FF : Fr 8 ac [(0, iW x)]) => ?_
  have MM := MemS.start w0
  refine wp_seq (rg_seq FF MM [o_] [0, 2] (fun Kt => Kt [(2, iN 0), (0, iW x)] []) (by kernel_rfl) (fun _ => by kernel_rfl) (fun ac1 wd1 FF1 MM1 => then_n ?_))
  refine wp_seq ?_
  refine wp_cond_false rfl ?_
  refine wp_skip ?_
  refine then_n ?_
  refine wp_seq (rg_seq FF1 MM1 [o_, t_ (iN (bsz x)), o_] [2, 0] (fun Kt => CallP Tryd.prog 55 [iW x] [] (iN (bsz x)) ∧ Kt [(2, iN (bsz x)), (0, iW x)] []) (by kernel_rfl) (fun _ => by kernel_rfl) (⟨(callP_of en_len64 (len64_any x hx) _), fun ac2 wd2 FF2 MM2 => then_n ?_⟩))
  refine wp_ret ?_
  repeat first | refine then_ret ?_ | refine inb_ret ?_
  exact (ret_fr FF2 0 Tryd.results76 rfl ⟨rfl, MM2.below⟩)
set_option maxRecDepth 100000 in
theorem lz64_any (x : Nat) (hx : x < 18446744073709551616) (w0 : World) :
    Calls Tryd.prog 87 #[iW x] w0 fun e w' => e = .returned (iN (64 - bsz x)) ∧ Below w0.heap.size w0 w' := by
  refine enter_fr Tryd.func87 rfl Tryd.ntmps87 (by simp) fun ac (FF : Fr 6 ac [(0, iW x)]) => ?_
  have MM := MemS.start w0
  refine wp_seq (rg_seq FF MM [o_] [0, 2] (fun Kt => Kt [(2, iN 0), (0, iW x)] []) (by kernel_rfl) (fun _ => by kernel_rfl) (fun ac1 wd1 FF1 MM1 => then_n ?_))
  refine wp_seq (rg_seq FF1 MM1 [o_, t_ (iN (bsz x)), o_, o_] [2] (fun Kt => CallP Tryd.prog 55 [iW x] [] (iN (bsz x)) ∧ (bsz x) ≤ 64 ∧ 64 - (bsz x) < 9223372036854775808 ∧ Kt [(2, iN (64 - (bsz x)))] []) (by kernel_rfl) (fun _ => by kernel_rfl) (⟨(callP_of en_len64 (len64_any x hx) _), (by have := bsz64 (show x < 18446744073709551616 from hx); omega), (by have := bsz64 (show x < 18446744073709551616 from hx); omega), fun ac2 wd2 FF2 MM2 => then_n ?_⟩))
  refine wp_ret ?_
  repeat first | refine then_ret ?_ | refine inb_ret ?_
  exact (ret_fr FF2 0 Tryd.results87 rfl ⟨rfl, MM2.below⟩)
set_option maxRecDepth 100000 in
theorem nani_any (x : Nat) (w0 : World) :
    Calls Tryd.prog 68 #[iN x] w0 fun e w' => e = .returned (.bool false) ∧ Below w0.heap.size w0 w' := by
  refine enter_fr Tryd.func68 rfl Tryd.ntmps68 (by simp) fun ac (FF : Fr 6 ac [(0, iN x)]) => ?_
  have MM := MemS.start w0
  refine wp_seq (rg_seq FF MM [o_] [0, 2] (fun Kt => Kt [(2, .bool false), (0, iN x)] []) (by kernel_rfl) (fun _ => by kernel_rfl) (fun ac1 wd1 FF1 MM1 => then_n ?_))
  refine wp_seq (rg_seq FF1 MM1 [o_, o_, w_ 3, o_] [2] (fun Kt => ¬ (x ≠ x) ∧ Kt [(2, .bool false)] []) (by kernel_rfl) (fun _ => by kernel_rfl) (⟨(fun h => h rfl), fun ac2 wd2 FF2 MM2 => then_n ?_⟩))
  refine wp_ret ?_
  repeat first | refine then_ret ?_ | refine inb_ret ?_
  exact (ret_fr FF2 0 Tryd.results68 rfl ⟨rfl, MM2.below⟩)
set_option maxRecDepth 100000 in
theorem nanu_any (x : Nat) (w0 : World) :
    Calls Tryd.prog 69 #[iW x] w0 fun e w' => e = .returned (.bool false) ∧ Below w0.heap.size w0 w' := by
  refine enter_fr Tryd.func69 rfl Tryd.ntmps69 (by simp) fun ac (FF : Fr 6 ac [(0, iW x)]) => ?_
  have MM := MemS.start w0
  refine wp_seq (rg_seq FF MM [o_] [0, 2] (fun Kt => Kt [(2, .bool false), (0, iW x)] []) (by kernel_rfl) (fun _ => by kernel_rfl) (fun ac1 wd1 FF1 MM1 => then_n ?_))
  refine wp_seq (rg_seq FF1 MM1 [o_, o_, w_ 3, o_] [2] (fun Kt => ¬ (x ≠ x) ∧ Kt [(2, .bool false)] []) (by kernel_rfl) (fun _ => by kernel_rfl) (⟨(fun h => h rfl), fun ac2 wd2 FF2 MM2 => then_n ?_⟩))
  refine wp_ret ?_
  repeat first | refine then_ret ?_ | refine inb_ret ?_
  exact (ret_fr FF2 0 Tryd.results69 rfl ⟨rfl, MM2.below⟩)
theorem lt_of_eq_lt {a b c : Nat} (h : a = b) (h2 : b < c) : a < c := h ▸ h2
theorem cmpm {M N : Nat} (h : M < N) : (-1 : Int) = cmpN M N := by simp [cmpN, h]
theorem cmp0 {M N : Nat} (h : M = N) : ((0 : Nat) : Int) = cmpN M N := by simp [cmpN, h]
theorem cmp1 {M N : Nat} (h : N < M) : ((1 : Nat) : Int) = cmpN M N := by
  rw [cmpN, if_neg (by omega), if_neg (by omega)]; rfl
set_option maxRecDepth 100000 in
theorem cmpi_any (x y : Nat) (w0 : World) :
    Calls Tryd.prog 52 #[iN x, iN y] w0 fun e w' => e = .returned (.int .i64 (cmpN x y)) ∧ Below w0.heap.size w0 w' := by
  refine enter_fr Tryd.func52 rfl Tryd.ntmps52 (by simp) fun ac (FF : Fr 20 ac [(0, iN x), (1, iN y)]) => ?_
  have MM := MemS.start w0
  refine wp_seq (rg_seq FF MM [o_] [0, 1, 4] (fun Kt => Kt [(4, iN 0), (0, iN x), (1, iN y)] []) (by kernel_rfl) (fun _ => by kernel_rfl) (fun ac1 wd1 FF1 MM1 => then_n ?_))
  refine wp_seq (rg_seq FF1 MM1 [o_, t_ (.bool false), o_] [4, 0, 1, 5] (fun Kt => CallP Tryd.prog 68 [iN x] [] (.bool false) ∧ Kt [(5, .bool false), (4, iN 0), (0, iN x), (1, iN y)] []) (by kernel_rfl) (fun _ => by kernel_rfl) (⟨(callP_of en_nani (nani_any x) _), fun ac2 wd2 FF2 MM2 => then_n ?_⟩))
  refine wp_seq (rg_seq FF2 MM2 [o_, t_ (.bool false), o_] [5, 4, 0, 1, 6] (fun Kt => CallP Tryd.prog 68 [iN y] [] (.bool false) ∧ Kt [(6, .bool false), (5, .bool false), (4, iN 0), (0, iN x), (1, iN y)] []) (by kernel_rfl) (fun _ => by kernel_rfl) (⟨(callP_of en_nani (nani_any y) _), fun ac3 wd3 FF3 MM3 => then_n ?_⟩))
  refine wp_seq ?_
  refine wp_seq (rg_seq FF3 MM3 [o_] [6, 4, 0, 1, 11] (fun Kt => Kt [(11, .bool false), (6, .bool false), (4, iN 0), (0, iN x), (1, iN y)] []) (by kernel_rfl) (fun _ => by kernel_rfl) (fun ac4 wd4 FF4 MM4 => then_n ?_))
  refine wp_cond_false (FF4.ev 0 rfl) ?_
  refine wp_skip ?_
  refine then_n ?_
  refine wp_seq ?_
  refine wp_seq (rg_seq FF4 MM4 [o_] [6, 4, 0, 1, 13] (fun Kt => Kt [(13, .bool false), (6, .bool false), (4, iN 0), (0, iN x), (1, iN y)] []) (by kernel_rfl) (fun _ => by kernel_rfl) (fun ac5 wd5 FF5 MM5 => then_n ?_))
  refine wp_cond_false (FF5.ev 0 rfl) ?_
  refine wp_skip ?_
  refine then_n ?_
  refine wp_seq ?_
  refine wp_seq (rg_seq FF5 MM5 [o_, o_, o_] [6, 4, 0, 1, 16] (fun Kt => Kt [(16, .bool (decide (x < y))), (6, .bool false), (4, iN 0), (0, iN x), (1, iN y)] []) (by kernel_rfl) (fun _ => by kernel_rfl) (fun ac6 wd6 FF6 MM6 => then_n ?_))
  by_cases hs16 : x < y
  · refine wp_cond_true ((FF6.ev 0 rfl).trans (dec_t hs16)) ?_
    refine wp_seq (rg_seq FF6 MM6 [o_] [6, 4, 0, 1] (fun Kt => Kt [(4, .int .i64 (-1 : Int)), (6, .bool false), (0, iN x), (1, iN y)] []) (by kernel_rfl) (fun _ => by kernel_rfl) (fun ac7 wd7 FF7 MM7 => then_n ?_))
    refine wp_ret ?_
    repeat first | refine then_ret ?_ | refine inb_ret ?_
    exact (ret_fr FF7 0 Tryd.results52 rfl ⟨congrArg (fun z => Ending.returned (Value.int .i64 z)) (cmpm (by omega)), MM7.below⟩)
  · refine wp_cond_false ((FF6.ev 0 rfl).trans (dec_f hs16)) ?_
    refine wp_skip ?_
    refine then_n ?_
    refine wp_seq ?_
    refine wp_seq (rg_seq FF6 MM6 [o_, o_, o_] [6, 4, 0, 1, 19] (fun Kt => Kt [(19, .bool (decide (x > y))), (6, .bool false), (4, iN 0), (0, iN x), (1, iN y)] []) (by kernel_rfl) (fun _ => by kernel_rfl) (fun ac8 wd8 FF8 MM8 => then_n ?_))
    by_cases hs19 : x > y
    · refine wp_cond_true ((FF8.ev 0 rfl).trans (dec_t hs19)) ?_
      refine wp_seq (rg_seq FF8 MM8 [o_] [6, 4, 0, 1] (fun Kt => Kt [(4, iN 1), (6, .bool false), (0, iN x), (1, iN y)] []) (by kernel_rfl) (fun _ => by kernel_rfl) (fun ac9 wd9 FF9 MM9 => then_n ?_))
      refine wp_ret ?_
      repeat first | refine then_ret ?_ | refine inb_ret ?_
      exact (ret_fr FF9 0 Tryd.results52 rfl ⟨congrArg (fun z => Ending.returned (Value.int .i64 z)) (cmp1 (by omega)), MM9.below⟩)
    · refine wp_cond_false ((FF8.ev 0 rfl).trans (dec_f hs19)) ?_
      refine wp_skip ?_
      refine then_n ?_
      refine wp_seq (rg_seq FF8 MM8 [o_] [6, 4, 0, 1] (fun Kt => Kt [(4, iN 0), (6, .bool false), (0, iN x), (1, iN y)] []) (by kernel_rfl) (fun _ => by kernel_rfl) (fun ac10 wd10 FF10 MM10 => then_n ?_))
      refine wp_ret ?_
      repeat first | refine then_ret ?_ | refine inb_ret ?_
      exact (ret_fr FF10 0 Tryd.results52 rfl ⟨congrArg (fun z => Ending.returned (Value.int .i64 z)) (cmp0 (by omega)), MM10.below⟩)
set_option maxRecDepth 100000 in
theorem cmpu_any (x y : Nat) (w0 : World) :
    Calls Tryd.prog 53 #[iW x, iW y] w0 fun e w' => e = .returned (.int .i64 (cmpN x y)) ∧ Below w0.heap.size w0 w' := by
  refine enter_fr Tryd.func53 rfl Tryd.ntmps53 (by simp) fun ac (FF : Fr 20 ac [(0, iW x), (1, iW y)]) => ?_
  have MM := MemS.start w0
  refine wp_seq (rg_seq FF MM [o_] [0, 1, 4] (fun Kt => Kt [(4, iN 0), (0, iW x), (1, iW y)] []) (by kernel_rfl) (fun _ => by kernel_rfl) (fun ac1 wd1 FF1 MM1 => then_n ?_))
  refine wp_seq (rg_seq FF1 MM1 [o_, t_ (.bool false), o_] [4, 0, 1, 5] (fun Kt => CallP Tryd.prog 69 [iW x] [] (.bool false) ∧ Kt [(5, .bool false), (4, iN 0), (0, iW x), (1, iW y)] []) (by kernel_rfl) (fun _ => by kernel_rfl) (⟨(callP_of en_nanu (nanu_any x) _), fun ac2 wd2 FF2 MM2 => then_n ?_⟩))
  refine wp_seq (rg_seq FF2 MM2 [o_, t_ (.bool false), o_] [5, 4, 0, 1, 6] (fun Kt => CallP Tryd.prog 69 [iW y] [] (.bool false) ∧ Kt [(6, .bool false), (5, .bool false), (4, iN 0), (0, iW x), (1, iW y)] []) (by kernel_rfl) (fun _ => by kernel_rfl) (⟨(callP_of en_nanu (nanu_any y) _), fun ac3 wd3 FF3 MM3 => then_n ?_⟩))
  refine wp_seq ?_
  refine wp_seq (rg_seq FF3 MM3 [o_] [6, 4, 0, 1, 11] (fun Kt => Kt [(11, .bool false), (6, .bool false), (4, iN 0), (0, iW x), (1, iW y)] []) (by kernel_rfl) (fun _ => by kernel_rfl) (fun ac4 wd4 FF4 MM4 => then_n ?_))
  refine wp_cond_false (FF4.ev 0 rfl) ?_
  refine wp_skip ?_
  refine then_n ?_
  refine wp_seq ?_
  refine wp_seq (rg_seq FF4 MM4 [o_] [6, 4, 0, 1, 13] (fun Kt => Kt [(13, .bool false), (6, .bool false), (4, iN 0), (0, iW x), (1, iW y)] []) (by kernel_rfl) (fun _ => by kernel_rfl) (fun ac5 wd5 FF5 MM5 => then_n ?_))
  refine wp_cond_false (FF5.ev 0 rfl) ?_
  refine wp_skip ?_
  refine then_n ?_
  refine wp_seq ?_
  refine wp_seq (rg_seq FF5 MM5 [o_, o_, o_] [6, 4, 0, 1, 16] (fun Kt => Kt [(16, .bool (decide (x < y))), (6, .bool false), (4, iN 0), (0, iW x), (1, iW y)] []) (by kernel_rfl) (fun _ => by kernel_rfl) (fun ac6 wd6 FF6 MM6 => then_n ?_))
  by_cases hs16 : x < y
  · refine wp_cond_true ((FF6.ev 0 rfl).trans (dec_t hs16)) ?_
    refine wp_seq (rg_seq FF6 MM6 [o_] [6, 4, 0, 1] (fun Kt => Kt [(4, .int .i64 (-1 : Int)), (6, .bool false), (0, iW x), (1, iW y)] []) (by kernel_rfl) (fun _ => by kernel_rfl) (fun ac7 wd7 FF7 MM7 => then_n ?_))
    refine wp_ret ?_
    repeat first | refine then_ret ?_ | refine inb_ret ?_
    exact (ret_fr FF7 0 Tryd.results53 rfl ⟨congrArg (fun z => Ending.returned (Value.int .i64 z)) (cmpm (by omega)), MM7.below⟩)
  · refine wp_cond_false ((FF6.ev 0 rfl).trans (dec_f hs16)) ?_
    refine wp_skip ?_
    refine then_n ?_
    refine wp_seq ?_
    refine wp_seq (rg_seq FF6 MM6 [o_, o_, o_] [6, 4, 0, 1, 19] (fun Kt => Kt [(19, .bool (decide (x > y))), (6, .bool false), (4, iN 0), (0, iW x), (1, iW y)] []) (by kernel_rfl) (fun _ => by kernel_rfl) (fun ac8 wd8 FF8 MM8 => then_n ?_))
    by_cases hs19 : x > y
    · refine wp_cond_true ((FF8.ev 0 rfl).trans (dec_t hs19)) ?_
      refine wp_seq (rg_seq FF8 MM8 [o_] [6, 4, 0, 1] (fun Kt => Kt [(4, iN 1), (6, .bool false), (0, iW x), (1, iW y)] []) (by kernel_rfl) (fun _ => by kernel_rfl) (fun ac9 wd9 FF9 MM9 => then_n ?_))
      refine wp_ret ?_
      repeat first | refine then_ret ?_ | refine inb_ret ?_
      exact (ret_fr FF9 0 Tryd.results53 rfl ⟨congrArg (fun z => Ending.returned (Value.int .i64 z)) (cmp1 (by omega)), MM9.below⟩)
    · refine wp_cond_false ((FF8.ev 0 rfl).trans (dec_f hs19)) ?_
      refine wp_skip ?_
      refine then_n ?_
      refine wp_seq (rg_seq FF8 MM8 [o_] [6, 4, 0, 1] (fun Kt => Kt [(4, iN 0), (6, .bool false), (0, iW x), (1, iW y)] []) (by kernel_rfl) (fun _ => by kernel_rfl) (fun ac10 wd10 FF10 MM10 => then_n ?_))
      refine wp_ret ?_
      repeat first | refine then_ret ?_ | refine inb_ret ?_
      exact (ret_fr FF10 0 Tryd.results53 rfl ⟨congrArg (fun z => Ending.returned (Value.int .i64 z)) (cmp0 (by omega)), MM10.below⟩)
set_option maxRecDepth 100000 in
theorem mul64_any (x y : Nat) (hx : x < 18446744073709551616) (hy : y < 18446744073709551616) (w0 : World) :
    Calls Tryd.prog 78 #[iW x, iW y] w0 fun e w' => e = .returned (.tuple #[iW (x * y / 18446744073709551616), iW (x * y % 18446744073709551616)]) ∧ Below w0.heap.size w0 w' := by
  refine enter_fr Tryd.func78 rfl Tryd.ntmps78 (by simp) fun ac (FF : Fr 51 ac [(0, iW x), (1, iW y)]) => ?_
  have MM := MemS.start w0
  obtain ⟨g1, g2, g3, g4⟩ := Lib.mul64_hi x y hx hy
  refine wp_seq (rg_seq FF MM [o_, o_] [0, 1, 4, 5] (fun Kt => Kt [(5, iW 0), (4, iW 0), (0, iW x), (1, iW y)] []) (by kernel_rfl) (fun _ => by kernel_rfl) (fun ac1 wd1 FF1 MM1 => then_n ?_))
  refine wp_seq (rg_seq FF1 MM1 [o_, t_ (iW (x % 4294967296)), o_] [5, 4, 0, 1, 6] (fun Kt => x < 18446744073709551616 ∧ 4294967295 < 18446744073709551616 ∧ iW (x &&& 4294967295) = iW (x % 4294967296) ∧ Kt [(6, iW (x % 4294967296)), (5, iW 0), (4, iW 0), (0, iW x), (1, iW y)] []) (by kernel_rfl) (fun _ => by kernel_rfl) (⟨(by have := hx; omega), (by decide), (vI (and_low 32 _)), fun ac2 wd2 FF2 MM2 => then_n ?_⟩))
  refine wp_seq (rg_seq FF2 MM2 [o_, o_, o_] [6, 5, 4, 0, 1, 7] (fun Kt => 32 ≤ 64 ∧ Kt [(7, iW (x / 4294967296)), (6, iW (x % 4294967296)), (5, iW 0), (4, iW 0), (0, iW x), (1, iW y)] []) (by kernel_rfl) (fun _ => by kernel_rfl) (⟨(by decide), fun ac3 wd3 FF3 MM3 => then_n ?_⟩))
  refine wp_seq (rg_seq FF3 MM3 [o_, t_ (iW (y % 4294967296)), o_] [7, 6, 5, 4, 0, 1, 8] (fun Kt => y < 18446744073709551616 ∧ 4294967295 < 18446744073709551616 ∧ iW (y &&& 4294967295) = iW (y % 4294967296) ∧ Kt [(8, iW (y % 4294967296)), (7, iW (x / 4294967296)), (6, iW (x % 4294967296)), (5, iW 0), (4, iW 0), (0, iW x), (1, iW y)] []) (by kernel_rfl) (fun _ => by kernel_rfl) (⟨(by have := hy; omega), (by decide), (vI (and_low 32 _)), fun ac4 wd4 FF4 MM4 => then_n ?_⟩))
  refine wp_seq (rg_seq FF4 MM4 [o_, o_, o_] [8, 7, 6, 5, 4, 0, 1, 9] (fun Kt => 32 ≤ 64 ∧ Kt [(9, iW (y / 4294967296)), (8, iW (y % 4294967296)), (7, iW (x / 4294967296)), (6, iW (x % 4294967296)), (5, iW 0), (4, iW 0), (0, iW x), (1, iW y)] []) (by kernel_rfl) (fun _ => by kernel_rfl) (⟨(by decide), fun ac5 wd5 FF5 MM5 => then_n ?_⟩))
  refine wp_seq (rg_seq FF5 MM5 [o_, o_, w_ 1, o_] [9, 8, 7, 6, 5, 4, 0, 1, 10] (fun Kt => (x % 4294967296) * (y % 4294967296) < 18446744073709551616 ∧ Kt [(10, iW ((x % 4294967296) * (y % 4294967296))), (9, iW (y / 4294967296)), (8, iW (y % 4294967296)), (7, iW (x / 4294967296)), (6, iW (x % 4294967296)), (5, iW 0), (4, iW 0), (0, iW x), (1, iW y)] []) (by kernel_rfl) (fun _ => by kernel_rfl) (⟨g1, fun ac6 wd6 FF6 MM6 => then_n ?_⟩))
  refine wp_seq (rg_seq FF6 MM6 [o_, o_, w_ 1, o_, o_, w_ 1, o_] [9, 8, 7, 6, 5, 4, 0, 1, 11] (fun Kt => (x / 4294967296) * (y % 4294967296) < 18446744073709551616 ∧ 32 ≤ 64 ∧ ((x / 4294967296) * (y % 4294967296)) + (((x % 4294967296) * (y % 4294967296)) / 4294967296) < 18446744073709551616 ∧ Kt [(11, iW (((x / 4294967296) * (y % 4294967296)) + (((x % 4294967296) * (y % 4294967296)) / 4294967296))), (9, iW (y / 4294967296)), (8, iW (y % 4294967296)), (7, iW (x / 4294967296)), (6, iW (x % 4294967296)), (5, iW 0), (4, iW 0), (0, iW x), (1, iW y)] []) (by kernel_rfl) (fun _ => by kernel_rfl) (⟨(Nat.lt_of_le_of_lt (Nat.le_add_right _ _) g2), (by decide), g2, fun ac7 wd7 FF7 MM7 => then_n ?_⟩))
  refine wp_seq (rg_seq FF7 MM7 [o_, t_ (iW ((((x / 4294967296) * (y % 4294967296)) + (((x % 4294967296) * (y % 4294967296)) / 4294967296)) % 4294967296)), o_] [11, 9, 8, 7, 6, 5, 4, 0, 1, 12] (fun Kt => (((x / 4294967296) * (y % 4294967296)) + (((x % 4294967296) * (y % 4294967296)) / 4294967296)) < 18446744073709551616 ∧ 4294967295 < 18446744073709551616 ∧ iW ((((x / 4294967296) * (y % 4294967296)) + (((x % 4294967296) * (y % 4294967296)) / 4294967296)) &&& 4294967295) = iW ((((x / 4294967296) * (y % 4294967296)) + (((x % 4294967296) * (y % 4294967296)) / 4294967296)) % 4294967296) ∧ Kt [(12, iW ((((x / 4294967296) * (y % 4294967296)) + (((x % 4294967296) * (y % 4294967296)) / 4294967296)) % 4294967296)), (11, iW (((x / 4294967296) * (y % 4294967296)) + (((x % 4294967296) * (y % 4294967296)) / 4294967296))), (9, iW (y / 4294967296)), (8, iW (y % 4294967296)), (7, iW (x / 4294967296)), (6, iW (x % 4294967296)), (5, iW 0), (4, iW 0), (0, iW x), (1, iW y)] []) (by kernel_rfl) (fun _ => by kernel_rfl) (⟨g2, (by decide), (vI (and_low 32 _)), fun ac8 wd8 FF8 MM8 => then_n ?_⟩))
  refine wp_seq (rg_seq FF8 MM8 [o_, o_, o_] [12, 11, 9, 8, 7, 6, 5, 4, 0, 1, 13] (fun Kt => 32 ≤ 64 ∧ Kt [(13, iW ((((x / 4294967296) * (y % 4294967296)) + (((x % 4294967296) * (y % 4294967296)) / 4294967296)) / 4294967296)), (12, iW ((((x / 4294967296) * (y % 4294967296)) + (((x % 4294967296) * (y % 4294967296)) / 4294967296)) % 4294967296)), (11, iW (((x / 4294967296) * (y % 4294967296)) + (((x % 4294967296) * (y % 4294967296)) / 4294967296))), (9, iW (y / 4294967296)), (8, iW (y % 4294967296)), (7, iW (x / 4294967296)), (6, iW (x % 4294967296)), (5, iW 0), (4, iW 0), (0, iW x), (1, iW y)] []) (by kernel_rfl) (fun _ => by kernel_rfl) (⟨(by decide), fun ac9 wd9 FF9 MM9 => then_n ?_⟩))
  refine wp_seq (rg_seq FF9 MM9 [o_, o_, o_, w_ 1, w_ 1, o_] [13, 12, 11, 9, 8, 7, 6, 5, 4, 0, 1] (fun Kt => (x % 4294967296) * (y / 4294967296) < 18446744073709551616 ∧ ((((x / 4294967296) * (y % 4294967296)) + (((x % 4294967296) * (y % 4294967296)) / 4294967296)) % 4294967296) + ((x % 4294967296) * (y / 4294967296)) < 18446744073709551616 ∧ Kt [(12, iW (((((x / 4294967296) * (y % 4294967296)) + (((x % 4294967296) * (y % 4294967296)) / 4294967296)) % 4294967296) + ((x % 4294967296) * (y / 4294967296)))), (13, iW ((((x / 4294967296) * (y % 4294967296)) + (((x % 4294967296) * (y % 4294967296)) / 4294967296)) / 4294967296)), (11, iW (((x / 4294967296) * (y % 4294967296)) + (((x % 4294967296) * (y % 4294967296)) / 4294967296))), (9, iW (y / 4294967296)), (8, iW (y % 4294967296)), (7, iW (x / 4294967296)), (6, iW (x % 4294967296)), (5, iW 0), (4, iW 0), (0, iW x), (1, iW y)] []) (by kernel_rfl) (fun _ => by kernel_rfl) (⟨(Nat.lt_of_le_of_lt (Nat.le_add_left _ _) g3), g3, fun ac10 wd10 FF10 MM10 => then_n ?_⟩))
  have g5 : x * y / 18446744073709551616 < 18446744073709551616 := Nat.div_lt_of_lt_mul (Nat.mul_lt_mul_of_lt_of_lt hx hy)
  refine wp_seq (rg_seq FF10 MM10 [o_, o_, w_ 1, o_, w_ 1, o_, o_, u_ 1 (iW (x * y / 18446744073709551616)), o_] [12, 11, 9, 8, 7, 6, 5, 4, 0, 1] (fun Kt => (x / 4294967296) * (y / 4294967296) < 18446744073709551616 ∧ ((x / 4294967296) * (y / 4294967296)) + ((((x / 4294967296) * (y % 4294967296)) + (((x % 4294967296) * (y % 4294967296)) / 4294967296)) / 4294967296) < 18446744073709551616 ∧ 32 ≤ 64 ∧ (((x / 4294967296) * (y / 4294967296)) + ((((x / 4294967296) * (y % 4294967296)) + (((x % 4294967296) * (y % 4294967296)) / 4294967296)) / 4294967296)) + ((((((x / 4294967296) * (y % 4294967296)) + (((x % 4294967296) * (y % 4294967296)) / 4294967296)) % 4294967296) + ((x % 4294967296) * (y / 4294967296))) / 4294967296) < 18446744073709551616 ∧ iW ((((x / 4294967296) * (y / 4294967296)) + ((((x / 4294967296) * (y % 4294967296)) + (((x % 4294967296) * (y % 4294967296)) / 4294967296)) / 4294967296)) + ((((((x / 4294967296) * (y % 4294967296)) + (((x % 4294967296) * (y % 4294967296)) / 4294967296)) % 4294967296) + ((x % 4294967296) * (y / 4294967296))) / 4294967296)) = iW (x * y / 18446744073709551616) ∧ Kt [(4, iW (x * y / 18446744073709551616)), (12, iW (((((x / 4294967296) * (y % 4294967296)) + (((x % 4294967296) * (y % 4294967296)) / 4294967296)) % 4294967296) + ((x % 4294967296) * (y / 4294967296)))), (11, iW (((x / 4294967296) * (y % 4294967296)) + (((x % 4294967296) * (y % 4294967296)) / 4294967296))), (9, iW (y / 4294967296)), (8, iW (y % 4294967296)), (7, iW (x / 4294967296)), (6, iW (x % 4294967296)), (5, iW 0), (0, iW x), (1, iW y)] []) (by kernel_rfl) (fun _ => by kernel_rfl) (⟨(Nat.lt_of_le_of_lt (Nat.le_trans (Nat.le_add_right _ _) (Nat.le_trans (Nat.le_add_right _ _) (Nat.le_of_eq g4))) g5), (Nat.lt_of_le_of_lt (Nat.le_trans (Nat.le_add_right _ _) (Nat.le_of_eq g4)) g5), (by decide), (lt_of_eq_lt g4 g5), (vI g4), fun ac11 wd11 FF11 MM11 => then_n ?_⟩))
  refine wp_seq (rg_seq FF11 MM11 [o_, o_, o_, o_] [4, 12, 11, 9, 8, 7, 6, 5, 0, 1] (fun Kt => Kt [(5, iW ((x * y) % 18446744073709551616)), (4, iW (x * y / 18446744073709551616)), (12, iW (((((x / 4294967296) * (y % 4294967296)) + (((x % 4294967296) * (y % 4294967296)) / 4294967296)) % 4294967296) + ((x % 4294967296) * (y / 4294967296)))), (11, iW (((x / 4294967296) * (y % 4294967296)) + (((x % 4294967296) * (y % 4294967296)) / 4294967296))), (9, iW (y / 4294967296)), (8, iW (y % 4294967296)), (7, iW (x / 4294967296)), (6, iW (x % 4294967296)), (0, iW x), (1, iW y)] []) (by kernel_rfl) (fun _ => by kernel_rfl) (fun ac12 wd12 FF12 MM12 => then_n ?_))
  refine wp_ret ?_
  repeat first | refine then_ret ?_ | refine inb_ret ?_
  exact (ret_tup2 FF12 1 0 Tryd.results78 rfl rfl ⟨rfl, MM12.below⟩)
set_option maxRecDepth 100000 in
theorem bmul_any (x y : Nat) (hx : x < 18446744073709551616) (hy : y < 18446744073709551616) (w0 : World) :
    Calls Tryd.prog 82 #[iW x, iW y] w0 fun e w' => e = .returned (.tuple #[iW (x * y / 18446744073709551616), iW (x * y % 18446744073709551616)]) ∧ Below w0.heap.size w0 w' := by
  refine enter_fr Tryd.func82 rfl Tryd.ntmps82 (by simp) fun ac (FF : Fr 30 ac [(0, iW x), (1, iW y)]) => ?_
  have MM := MemS.start w0
  refine wp_seq (rg_seq FF MM [o_, o_] [0, 1, 4, 5] (fun Kt => Kt [(5, iW 0), (4, iW 0), (0, iW x), (1, iW y)] []) (by kernel_rfl) (fun _ => by kernel_rfl) (fun ac1 wd1 FF1 MM1 => then_n ?_))
  refine wp_seq ?_
  refine wp_cond_false rfl ?_
  refine wp_skip ?_
  refine then_n ?_
  refine wp_seq (rg_seq FF1 MM1 [o_, o_, t_ (.tuple #[iW (x * y / 18446744073709551616), iW (x * y % 18446744073709551616)]), o_, o_, o_, o_, o_] [5, 4, 0, 1, 8, 9] (fun Kt => CallP Tryd.prog 78 [iW x, iW y] [] (.tuple #[iW (x * y / 18446744073709551616), iW (x * y % 18446744073709551616)]) ∧ Kt [(9, iW (x * y % 18446744073709551616)), (8, iW (x * y / 18446744073709551616)), (5, iW 0), (4, iW 0), (0, iW x), (1, iW y)] []) (by kernel_rfl) (fun _ => by kernel_rfl) (⟨(callP_of en_mul64 (mul64_any x y hx hy) _), fun ac2 wd2 FF2 MM2 => then_n ?_⟩))
  refine wp_seq (rg_seq FF2 MM2 [o_, o_, o_, o_] [5, 4, 0, 1] (fun Kt => Kt [(5, iW (x * y % 18446744073709551616)), (4, iW (x * y / 18446744073709551616)), (0, iW x), (1, iW y)] []) (by kernel_rfl) (fun _ => by kernel_rfl) (fun ac3 wd3 FF3 MM3 => then_n ?_))
  refine wp_ret ?_
  repeat first | refine then_ret ?_ | refine inb_ret ?_
  exact (ret_tup2 FF3 1 0 Tryd.results82 rfl rfl ⟨rfl, MM3.below⟩)
end Go.Proofs.YtlljedijldkcbaaDoor
namespace Go.Proofs.YtlljedijldkcbaaDoor
open Go.RowKit
theorem lz_grp : CallP Tryd.prog 87 [iW 10000000000000000000] [] (iN 0) := callP_of en_lz64 (fun w => by
  have h := lz64_any 10000000000000000000 (by decide) w
  rw [show 64 - bsz 10000000000000000000 = 0 by have : bsz 10000000000000000000 = 64 := (bsz_of (n := 64) (by decide) (.inr (by decide))).symm; omega] at h
  exact h) _
set_option maxRecDepth 100000 in
theorem div64_core (h m1 m0 A u B r0 : Nat) (hlt : h < 10000000000000000000) (hm1 : m1 < 4294967296) (hm0 : m0 < 4294967296) (hA : h * 4294967296 + m1 = A * 10000000000000000000 + u) (hu : u < 10000000000000000000) (hB : u * 4294967296 + m0 = B * 10000000000000000000 + r0) (hr0 : r0 < 10000000000000000000) (w0 : World) :
    Calls Tryd.prog 79 #[iW h, iW (m1 * 4294967296 + m0), iW 10000000000000000000] w0 fun e w' => e = .returned (.tuple #[iW (A * 4294967296 + B), iW r0]) ∧ Below w0.heap.size w0 w' := by
  refine enter_fr Tryd.func79 rfl Tryd.ntmps79 (by simp) fun ac (FF : Fr 135 ac [(0, iW h), (1, iW (m1 * 4294967296 + m0)), (2, iW 10000000000000000000)]) => ?_
  have MM := MemS.start w0
  obtain ⟨a1, a2, a3⟩ := half_up hA hm1 hlt
  obtain ⟨b1, b2, b3⟩ := half_up hB hm0 hu
  refine wp_seq (rg_seq FF MM [o_, o_] [0, 1, 2, 6, 7] (fun Kt => Kt [(7, iW 0), (6, iW 0), (0, iW h), (1, iW (m1 * 4294967296 + m0)), (2, iW 10000000000000000000)] []) (by kernel_rfl) (fun _ => by kernel_rfl) (fun ac1 wd1 FF1 MM1 => then_n ?_))
  refine wp_seq ?_
  refine wp_seq (rg_seq FF1 MM1 [o_, w_ 3] [7, 6, 0, 1, 2, 20] (fun Kt => ¬ (10000000000000000000 = 0) ∧ Kt [(20, .bool false), (7, iW 0), (6, iW 0), (0, iW h), (1, iW (m1 * 4294967296 + m0)), (2, iW 10000000000000000000)] []) (by kernel_rfl) (fun _ => by kernel_rfl) (⟨(by decide), fun ac2 wd2 FF2 MM2 => then_n ?_⟩))
  refine wp_cond_false (FF2.ev 0 rfl) ?_
  refine wp_skip ?_
  refine then_n ?_
  refine wp_seq ?_
  refine wp_seq (rg_seq FF2 MM2 [o_, o_, w_ 3] [7, 6, 0, 1, 2, 24] (fun Kt => ¬ (10000000000000000000 ≤ h) ∧ Kt [(24, .bool false), (7, iW 0), (6, iW 0), (0, iW h), (1, iW (m1 * 4294967296 + m0)), (2, iW 10000000000000000000)] []) (by kernel_rfl) (fun _ => by kernel_rfl) (⟨(by omega), fun ac3 wd3 FF3 MM3 => then_n ?_⟩))
  refine wp_cond_false (FF3.ev 0 rfl) ?_
  refine wp_skip ?_
  refine then_n ?_
  refine wp_seq ?_
  refine wp_seq (rg_seq FF3 MM3 [o_, o_] [7, 6, 0, 1, 2, 27] (fun Kt => Kt [(27, .bool (decide (h = 0))), (7, iW 0), (6, iW 0), (0, iW h), (1, iW (m1 * 4294967296 + m0)), (2, iW 10000000000000000000)] []) (by kernel_rfl) (fun _ => by kernel_rfl) (fun ac4 wd4 FF4 MM4 => then_n ?_))
  by_cases hs27 : h = 0
  · refine wp_cond_true ((FF4.ev 0 rfl).trans (dec_t hs27)) ?_
    refine wp_seq (rg_draw FF4 MM4 [.inl (iW (m1 * 4294967296 + m0)), .inl (iW 10000000000000000000), .inl (iW ((m1 * 4294967296 + m0) / 10000000000000000000)), .inl (iW (m1 * 4294967296 + m0)), .inl (iW 10000000000000000000), .inl (iW ((m1 * 4294967296 + m0) % 10000000000000000000)), .inl (iW (A * 4294967296 + B)), .inl (iW r0)] [] [o_, o_, o_, o_, o_, o_, t_ (iW (A * 4294967296 + B)), t_ (iW r0)] [] [7, 6, 0, 1, 2] (fun nb => [10000000000000000000 ≠ 0, (m1 * 4294967296 + m0) / 10000000000000000000 < 18446744073709551616, 10000000000000000000 ≠ 0, iW ((m1 * 4294967296 + m0) / 10000000000000000000) = iW (A * 4294967296 + B), iW ((m1 * 4294967296 + m0) % 10000000000000000000) = iW r0]) (fun nb Kt => Kt [(7, iW r0), (6, iW (A * 4294967296 + B)), (0, iW h), (1, iW (m1 * 4294967296 + m0)), (2, iW 10000000000000000000)] []) (by kernel_rfl) (by kernel_rfl) (by kernel_rfl) (fun _ => by kernel_rfl) (fun _ _ => by kernel_rfl) trivial (fun nb => ⟨(by decide), (by omega), (by decide), (vI (by clear a1 a2 b1 b2; omega)), (vI (by clear a1 a2 b1 b2; omega)), trivial⟩) (fun nb => fun ac5 wd5 FF5 MM5 => then_n ?_))
    refine wp_ret ?_
    repeat first | refine then_ret ?_ | refine inb_ret ?_
    exact (ret_tup2 FF5 1 0 Tryd.results79 rfl rfl ⟨rfl, MM5.below⟩)
  · refine wp_cond_false ((FF4.ev 0 rfl).trans (dec_f hs27)) ?_
    refine wp_skip ?_
    refine then_n ?_
    refine wp_seq (rg_seq FF4 MM4 [o_, t_ (iN 0), o_, o_] [7, 6, 0, 1, 2, 8] (fun Kt => CallP Tryd.prog 87 [iW 10000000000000000000] [] (iN 0) ∧ Kt [(8, iW 0), (7, iW 0), (6, iW 0), (0, iW h), (1, iW (m1 * 4294967296 + m0)), (2, iW 10000000000000000000)] []) (by kernel_rfl) (fun _ => by kernel_rfl) (⟨lz_grp, fun ac6 wd6 FF6 MM6 => then_n ?_⟩))
    refine wp_seq (rg_seq FF6 MM6 [o_, o_, t_ (iW 10000000000000000000), o_] [8, 7, 6, 0, 1, 2] (fun Kt => iW (10000000000000000000 * 1 % 18446744073709551616) = iW 10000000000000000000 ∧ Kt [(2, iW 10000000000000000000), (8, iW 0), (7, iW 0), (6, iW 0), (0, iW h), (1, iW (m1 * 4294967296 + m0))] []) (by kernel_rfl) (fun _ => by kernel_rfl) (⟨(vI (by decide)), fun ac7 wd7 FF7 MM7 => then_n ?_⟩))
    refine wp_seq (rg_seq FF7 MM7 [o_, t_ (iW 2328306436), o_] [2, 8, 7, 6, 0, 1, 9] (fun Kt => 32 ≤ 64 ∧ iW (10000000000000000000 / 4294967296) = iW 2328306436 ∧ Kt [(9, iW 2328306436), (2, iW 10000000000000000000), (8, iW 0), (7, iW 0), (6, iW 0), (0, iW h), (1, iW (m1 * 4294967296 + m0))] []) (by kernel_rfl) (fun _ => by kernel_rfl) (⟨(by decide), (vI (by decide)), fun ac8 wd8 FF8 MM8 => then_n ?_⟩))
    refine wp_seq (rg_seq FF8 MM8 [o_, t_ (iW 2313682944), o_] [9, 2, 8, 7, 6, 0, 1, 10] (fun Kt => 10000000000000000000 < 18446744073709551616 ∧ 4294967295 < 18446744073709551616 ∧ iW (10000000000000000000 &&& 4294967295) = iW 2313682944 ∧ Kt [(10, iW 2313682944), (9, iW 2328306436), (2, iW 10000000000000000000), (8, iW 0), (7, iW 0), (6, iW 0), (0, iW h), (1, iW (m1 * 4294967296 + m0))] []) (by kernel_rfl) (fun _ => by kernel_rfl) (⟨(by decide), (by decide), (vI (by decide)), fun ac9 wd9 FF9 MM9 => then_n ?_⟩))
    refine wp_seq (rg_seq FF9 MM9 [o_, o_, t_ (iW h), o_, o_, w_ 1, t_ (iW 0), t_ (iW h), o_] [10, 9, 2, 8, 7, 6, 0, 1, 11] (fun Kt => iW (h * 1 % 18446744073709551616) = iW h ∧ 0 ≤ 64 ∧ 64 - 0 < 18446744073709551616 ∧ 64 ≤ 64 ∧ iW ((m1 * 4294967296 + m0) / 18446744073709551616) = iW 0 ∧ h < 18446744073709551616 ∧ 0 < 18446744073709551616 ∧ iW (h ||| 0) = iW h ∧ Kt [(11, iW h), (10, iW 2313682944), (9, iW 2328306436), (2, iW 10000000000000000000), (8, iW 0), (7, iW 0), (6, iW 0), (0, iW h), (1, iW (m1 * 4294967296 + m0))] []) (by kernel_rfl) (fun _ => by kernel_rfl) (⟨(vI (by omega)), (by decide), (by decide), (by decide), (vI (by omega)), (by have := hlt; omega), (by decide), (vI (Nat.or_zero _)), fun ac10 wd10 FF10 MM10 => then_n ?_⟩))
    refine wp_seq (rg_seq FF10 MM10 [o_, o_, t_ (iW (m1 * 4294967296 + m0)), o_] [11, 10, 9, 2, 8, 7, 6, 0, 1, 12] (fun Kt => iW ((m1 * 4294967296 + m0) * 1 % 18446744073709551616) = iW (m1 * 4294967296 + m0) ∧ Kt [(12, iW (m1 * 4294967296 + m0)), (11, iW h), (10, iW 2313682944), (9, iW 2328306436), (2, iW 10000000000000000000), (8, iW 0), (7, iW 0), (6, iW 0), (0, iW h), (1, iW (m1 * 4294967296 + m0))] []) (by kernel_rfl) (fun _ => by kernel_rfl) (⟨(vI (by omega)), fun ac11 wd11 FF11 MM11 => then_n ?_⟩))
    refine wp_seq (rg_seq FF11 MM11 [o_, t_ (iW m1), o_] [12, 11, 10, 9, 2, 8, 7, 6, 0, 1, 13] (fun Kt => 32 ≤ 64 ∧ iW ((m1 * 4294967296 + m0) / 4294967296) = iW m1 ∧ Kt [(13, iW m1), (12, iW (m1 * 4294967296 + m0)), (11, iW h), (10, iW 2313682944), (9, iW 2328306436), (2, iW 10000000000000000000), (8, iW 0), (7, iW 0), (6, iW 0), (0, iW h), (1, iW (m1 * 4294967296 + m0))] []) (by kernel_rfl) (fun _ => by kernel_rfl) (⟨(by decide), (vI (by omega)), fun ac12 wd12 FF12 MM12 => then_n ?_⟩))
    refine wp_seq (rg_seq FF12 MM12 [o_, t_ (iW m0), o_] [13, 12, 11, 10, 9, 2, 8, 7, 6, 0, 1, 14] (fun Kt => (m1 * 4294967296 + m0) < 18446744073709551616 ∧ 4294967295 < 18446744073709551616 ∧ iW ((m1 * 4294967296 + m0) &&& 4294967295) = iW m0 ∧ Kt [(14, iW m0), (13, iW m1), (12, iW (m1 * 4294967296 + m0)), (11, iW h), (10, iW 2313682944), (9, iW 2328306436), (2, iW 10000000000000000000), (8, iW 0), (7, iW 0), (6, iW 0), (0, iW h), (1, iW (m1 * 4294967296 + m0))] []) (by kernel_rfl) (fun _ => by kernel_rfl) (⟨(by omega), (by decide), (vI ((and_low 32 _).trans (by omega))), fun ac13 wd13 FF13 MM13 => then_n ?_⟩))
    refine wp_seq (rg_seq FF13 MM13 [o_, o_, o_, o_] [14, 13, 12, 11, 10, 9, 2, 8, 7, 6, 0, 1, 15] (fun Kt => 2328306436 ≠ 0 ∧ h / 2328306436 < 18446744073709551616 ∧ Kt [(15, iW (h / 2328306436)), (14, iW m0), (13, iW m1), (12, iW (m1 * 4294967296 + m0)), (11, iW h), (10, iW 2313682944), (9, iW 2328306436), (2, iW 10000000000000000000), (8, iW 0), (7, iW 0), (6, iW 0), (0, iW h), (1, iW (m1 * 4294967296 + m0))] []) (by kernel_rfl) (fun _ => by kernel_rfl) (⟨(by decide), (by have := hlt; omega), fun ac14 wd14 FF14 MM14 => then_n ?_⟩))
    refine wp_seq (rg_seq FF14 MM14 [o_, o_, o_, w_ 1, u_ 1 (iW (h % 2328306436)), o_] [15, 14, 13, 12, 11, 10, 9, 2, 8, 7, 6, 0, 1, 16] (fun Kt => (h / 2328306436) * 2328306436 < 18446744073709551616 ∧ ((h / 2328306436) * 2328306436) ≤ h ∧ h - ((h / 2328306436) * 2328306436) < 18446744073709551616 ∧ iW (h - ((h / 2328306436) * 2328306436)) = iW (h % 2328306436) ∧ Kt [(16, iW (h % 2328306436)), (15, iW (h / 2328306436)), (14, iW m0), (13, iW m1), (12, iW (m1 * 4294967296 + m0)), (11, iW h), (10, iW 2313682944), (9, iW 2328306436), (2, iW 10000000000000000000), (8, iW 0), (7, iW 0), (6, iW 0), (0, iW h), (1, iW (m1 * 4294967296 + m0))] []) (by kernel_rfl) (fun _ => by kernel_rfl) (⟨(by have := hlt; omega), (by have := hlt; omega), (by have := hlt; omega), (vI (by omega)), fun ac15 wd15 FF15 MM15 => then_n ?_⟩))
    refine wp_mid (fun a' w' => Fr 135 a' [(15, iW A), (14, iW m0), (13, iW m1), (12, iW (m1 * 4294967296 + m0)), (11, iW h), (10, iW 2313682944), (9, iW 2328306436), (2, iW 10000000000000000000), (8, iW 0), (7, iW 0), (6, iW 0), (0, iW h), (1, iW (m1 * 4294967296 + m0))] ∧ MemS (fun k => k < w0.heap.size) w0 w' [] []) ?_ ?_
    · skip
      refine wp_for2w (fun a' w' => ∃ q : Nat, ∃ r : Nat, h = q * 2328306436 + r ∧ A ≤ q ∧ r < 4294967296 ∧ q ≤ 4294967296 ∧ Fr 135 a' [(16, iW r), (15, iW q), (14, iW m0), (13, iW m1), (12, iW (m1 * 4294967296 + m0)), (11, iW h), (10, iW 2313682944), (9, iW 2328306436), (2, iW 10000000000000000000), (8, iW 0), (7, iW 0), (6, iW 0), (0, iW h), (1, iW (m1 * 4294967296 + m0))] ∧ MemS (fun k => k < w0.heap.size) w0 w' [] []) (fun a' _ => (cnt 15 a').toNat) ⟨h / 2328306436, h % 2328306436, by omega, a1, by omega, a2, FF15.pick [0, 1, 2, 3, 4, 5, 6, 7, 8, 9, 10, 11, 12, 13], MM15⟩ ?_
      rintro ac16 wd16 ⟨q, r, hE, hQ, hr, hq, FF16, MM16⟩
      have hc := cnt_of (FF16.get 1 rfl)
      by_cases h1 : q ≥ 4294967296
      · skip
        refine rg_seq FF16 MM16 [o_, w_ 2, o_, o_, o_, o_, o_, o_, o_, o_, o_, o_] [16, 15, 14, 13, 12, 11, 10, 9, 2, 8, 7, 6, 0, 1, 78] (fun Kt => q ≥ 4294967296 ∧ Kt [(78, .bool true), (16, iW r), (15, iW q), (14, iW m0), (13, iW m1), (12, iW (m1 * 4294967296 + m0)), (11, iW h), (10, iW 2313682944), (9, iW 2328306436), (2, iW 10000000000000000000), (8, iW 0), (7, iW 0), (6, iW 0), (0, iW h), (1, iW (m1 * 4294967296 + m0))] []) (by kernel_rfl) (fun _ => by kernel_rfl) (⟨h1, fun ac17 wd17 FF17 MM17 => ?_⟩)
        refine then_n (.inl ⟨FF17.ev 0 rfl, ?_⟩)
        obtain ⟨k1, k2⟩ := half_ge hE hA (by first | exact .inl h1 | exact .inr h2) hlt hm1
        refine wp_seq (rg_seq FF17 MM17 [o_, w_ 1, o_] [16, 15, 14, 13, 12, 11, 10, 9, 2, 8, 7, 6, 0, 1] (fun Kt => 1 ≤ q ∧ q - 1 < 18446744073709551616 ∧ Kt [(15, iW (q - 1)), (16, iW r), (14, iW m0), (13, iW m1), (12, iW (m1 * 4294967296 + m0)), (11, iW h), (10, iW 2313682944), (9, iW 2328306436), (2, iW 10000000000000000000), (8, iW 0), (7, iW 0), (6, iW 0), (0, iW h), (1, iW (m1 * 4294967296 + m0))] []) (by kernel_rfl) (fun _ => by kernel_rfl) (⟨k2, (by omega), fun ac18 wd18 FF18 MM18 => then_n ?_⟩))
        refine wp_seq (rg_seq FF18 MM18 [o_, o_, w_ 1, o_] [15, 16, 14, 13, 12, 11, 10, 9, 2, 8, 7, 6, 0, 1] (fun Kt => r + 2328306436 < 18446744073709551616 ∧ Kt [(16, iW (r + 2328306436)), (15, iW (q - 1)), (14, iW m0), (13, iW m1), (12, iW (m1 * 4294967296 + m0)), (11, iW h), (10, iW 2313682944), (9, iW 2328306436), (2, iW 10000000000000000000), (8, iW 0), (7, iW 0), (6, iW 0), (0, iW h), (1, iW (m1 * 4294967296 + m0))] []) (by kernel_rfl) (fun _ => by kernel_rfl) (⟨(by clear hE; omega), fun ac19 wd19 FF19 MM19 => then_n ?_⟩))
        refine wp_seq (rg_seq FF19 MM19 [o_, o_] [16, 15, 14, 13, 12, 11, 10, 9, 2, 8, 7, 6, 0, 1, 85] (fun Kt => Kt [(85, .bool (decide ((r + 2328306436) ≥ 4294967296))), (16, iW (r + 2328306436)), (15, iW (q - 1)), (14, iW m0), (13, iW m1), (12, iW (m1 * 4294967296 + m0)), (11, iW h), (10, iW 2313682944), (9, iW 2328306436), (2, iW 10000000000000000000), (8, iW 0), (7, iW 0), (6, iW 0), (0, iW h), (1, iW (m1 * 4294967296 + m0))] []) (by kernel_rfl) (fun _ => by kernel_rfl) (fun ac20 wd20 FF20 MM20 => then_n ?_))
        by_cases hs85 : (r + 2328306436) ≥ 4294967296
        · refine wp_cond_true ((FF20.ev 0 rfl).trans (dec_t hs85)) ?_
          refine wp_exit ?_
          repeat first | refine then_exit ?_ | refine (inb_other (by decide) _ _ _).2 ?_ | refine (inb_exit _ _ _ _).2 ?_
          have hz : q - 1 = A := Nat.le_antisymm (half_le (half_st hE k2) hA hu (half_bk hq (by assumption))) k1
          refine then_n ?_
          rw [hz] at FF20
          exact ⟨FF20.pick [2, 3, 4, 5, 6, 7, 8, 9, 10, 11, 12, 13, 14], MM20⟩
        · refine wp_cond_false ((FF20.ev 0 rfl).trans (dec_f hs85)) ?_
          refine wp_skip ?_
          refine inb_n ?_
          have hd := cnt_of (FF20.get 2 rfl)
          refine then_n ⟨⟨q - 1, r + 2328306436, half_st hE k2, k1, (by clear hE k1; omega), (Nat.le_trans (Nat.sub_le _ _) hq), FF20.pick [1, 2, 3, 4, 5, 6, 7, 8, 9, 10, 11, 12, 13, 14], MM20⟩, ?_⟩
          rw [hc, hd]; clear hE hQ k1 hA hB a1 a2 a3 b1 b2 b3; omega
      · by_cases h2 : q * 2313682944 > 4294967296 * r + m1
        · skip
          refine rg_seq FF16 MM16 [o_, w_ 3, o_, o_, o_, w_ 1, o_, w_ 1, o_, w_ 1, w_ 2, o_] [16, 15, 14, 13, 12, 11, 10, 9, 2, 8, 7, 6, 0, 1, 78] (fun Kt => ¬ (q ≥ 4294967296) ∧ q * 2313682944 < 18446744073709551616 ∧ 4294967296 * r < 18446744073709551616 ∧ (4294967296 * r) + m1 < 18446744073709551616 ∧ (q * 2313682944) > ((4294967296 * r) + m1) ∧ Kt [(78, .bool true), (16, iW r), (15, iW q), (14, iW m0), (13, iW m1), (12, iW (m1 * 4294967296 + m0)), (11, iW h), (10, iW 2313682944), (9, iW 2328306436), (2, iW 10000000000000000000), (8, iW 0), (7, iW 0), (6, iW 0), (0, iW h), (1, iW (m1 * 4294967296 + m0))] []) (by kernel_rfl) (fun _ => by kernel_rfl) (⟨h1, (by clear hE; omega), (by clear hE; omega), (by clear hE; omega), h2, fun ac21 wd21 FF21 MM21 => ?_⟩)
          refine then_n (.inl ⟨FF21.ev 0 rfl, ?_⟩)
          obtain ⟨k1, k2⟩ := half_ge hE hA (by first | exact .inl h1 | exact .inr h2) hlt hm1
          refine wp_seq (rg_seq FF21 MM21 [o_, w_ 1, o_] [16, 15, 14, 13, 12, 11, 10, 9, 2, 8, 7, 6, 0, 1] (fun Kt => 1 ≤ q ∧ q - 1 < 18446744073709551616 ∧ Kt [(15, iW (q - 1)), (16, iW r), (14, iW m0), (13, iW m1), (12, iW (m1 * 4294967296 + m0)), (11, iW h), (10, iW 2313682944), (9, iW 2328306436), (2, iW 10000000000000000000), (8, iW 0), (7, iW 0), (6, iW 0), (0, iW h), (1, iW (m1 * 4294967296 + m0))] []) (by kernel_rfl) (fun _ => by kernel_rfl) (⟨k2, (by omega), fun ac22 wd22 FF22 MM22 => then_n ?_⟩))
          refine wp_seq (rg_seq FF22 MM22 [o_, o_, w_ 1, o_] [15, 16, 14, 13, 12, 11, 10, 9, 2, 8, 7, 6, 0, 1] (fun Kt => r + 2328306436 < 18446744073709551616 ∧ Kt [(16, iW (r + 2328306436)), (15, iW (q - 1)), (14, iW m0), (13, iW m1), (12, iW (m1 * 4294967296 + m0)), (11, iW h), (10, iW 2313682944), (9, iW 2328306436), (2, iW 10000000000000000000), (8, iW 0), (7, iW 0), (6, iW 0), (0, iW h), (1, iW (m1 * 4294967296 + m0))] []) (by kernel_rfl) (fun _ => by kernel_rfl) (⟨(by clear hE; omega), fun ac23 wd23 FF23 MM23 => then_n ?_⟩))
          refine wp_seq (rg_seq FF23 MM23 [o_, o_] [16, 15, 14, 13, 12, 11, 10, 9, 2, 8, 7, 6, 0, 1, 85] (fun Kt => Kt [(85, .bool (decide ((r + 2328306436) ≥ 4294967296))), (16, iW (r + 2328306436)), (15, iW (q - 1)), (14, iW m0), (13, iW m1), (12, iW (m1 * 4294967296 + m0)), (11, iW h), (10, iW 2313682944), (9, iW 2328306436), (2, iW 10000000000000000000), (8, iW 0), (7, iW 0), (6, iW 0), (0, iW h), (1, iW (m1 * 4294967296 + m0))] []) (by kernel_rfl) (fun _ => by kernel_rfl) (fun ac24 wd24 FF24 MM24 => then_n ?_))
          by_cases hs85 : (r + 2328306436) ≥ 4294967296
          · refine wp_cond_true ((FF24.ev 0 rfl).trans (dec_t hs85)) ?_
            refine wp_exit ?_
            repeat first | refine then_exit ?_ | refine (inb_other (by decide) _ _ _).2 ?_ | refine (inb_exit _ _ _ _).2 ?_
            have hz : q - 1 = A := Nat.le_antisymm (half_le (half_st hE k2) hA hu (half_bk hq (by assumption))) k1
            refine then_n ?_
            rw [hz] at FF24
            exact ⟨FF24.pick [2, 3, 4, 5, 6, 7, 8, 9, 10, 11, 12, 13, 14], MM24⟩
          · refine wp_cond_false ((FF24.ev 0 rfl).trans (dec_f hs85)) ?_
            refine wp_skip ?_
            refine inb_n ?_
            have hd := cnt_of (FF24.get 2 rfl)
            refine then_n ⟨⟨q - 1, r + 2328306436, half_st hE k2, k1, (by clear hE k1; omega), (Nat.le_trans (Nat.sub_le _ _) hq), FF24.pick [1, 2, 3, 4, 5, 6, 7, 8, 9, 10, 11, 12, 13, 14], MM24⟩, ?_⟩
            rw [hc, hd]; clear hE hQ k1 hA hB a1 a2 a3 b1 b2 b3; omega
        · skip
          refine rg_seq FF16 MM16 [o_, w_ 3, o_, o_, o_, w_ 1, o_, w_ 1, o_, w_ 1, w_ 3, o_] [16, 15, 14, 13, 12, 11, 10, 9, 2, 8, 7, 6, 0, 1, 78] (fun Kt => ¬ (q ≥ 4294967296) ∧ q * 2313682944 < 18446744073709551616 ∧ 4294967296 * r < 18446744073709551616 ∧ (4294967296 * r) + m1 < 18446744073709551616 ∧ ¬ ((q * 2313682944) > ((4294967296 * r) + m1)) ∧ Kt [(78, .bool false), (16, iW r), (15, iW q), (14, iW m0), (13, iW m1), (12, iW (m1 * 4294967296 + m0)), (11, iW h), (10, iW 2313682944), (9, iW 2328306436), (2, iW 10000000000000000000), (8, iW 0), (7, iW 0), (6, iW 0), (0, iW h), (1, iW (m1 * 4294967296 + m0))] []) (by kernel_rfl) (fun _ => by kernel_rfl) (⟨h1, (by clear hE; omega), (by clear hE; omega), (by clear hE; omega), h2, fun ac25 wd25 FF25 MM25 => ?_⟩)
          refine then_n (.inr ⟨FF25.ev 0 rfl, ?_⟩)
          have hz : q = A := Nat.le_antisymm (half_le hE hA hu (Nat.le_of_not_lt h2)) hQ
          refine then_n ?_
          rw [hz] at FF25
          exact ⟨FF25.pick [2, 3, 4, 5, 6, 7, 8, 9, 10, 11, 12, 13, 14], MM25⟩
    · rintro ac26 wd26 ⟨FF26, MM26⟩
      refine wp_seq (rg_seq FF26 MM26 [o_, o_, o_, o_, o_, o_, o_, t_ (iW u), o_] [15, 14, 13, 12, 11, 10, 9, 2, 8, 7, 6, 0, 1, 17] (fun Kt => ((A * 10000000000000000000) % 18446744073709551616) ≤ 18446744073709551616 ∧ iW ((((((h * 4294967296) % 18446744073709551616) + m1) % 18446744073709551616) + (18446744073709551616 - ((A * 10000000000000000000) % 18446744073709551616))) % 18446744073709551616) = iW u ∧ Kt [(17, iW u), (15, iW A), (14, iW m0), (13, iW m1), (12, iW (m1 * 4294967296 + m0)), (11, iW h), (10, iW 2313682944), (9, iW 2328306436), (2, iW 10000000000000000000), (8, iW 0), (7, iW 0), (6, iW 0), (0, iW h), (1, iW (m1 * 4294967296 + m0))] []) (by kernel_rfl) (fun _ => by kernel_rfl) (⟨(by have := hlt; have := hm1; omega), (vI (wrap_sub hA hu)), fun ac27 wd27 FF27 MM27 => then_n ?_⟩))
      refine wp_seq (rg_seq FF27 MM27 [o_, o_, o_, o_] [17, 15, 14, 13, 12, 11, 10, 9, 2, 8, 7, 6, 0, 1, 18] (fun Kt => 2328306436 ≠ 0 ∧ u / 2328306436 < 18446744073709551616 ∧ Kt [(18, iW (u / 2328306436)), (17, iW u), (15, iW A), (14, iW m0), (13, iW m1), (12, iW (m1 * 4294967296 + m0)), (11, iW h), (10, iW 2313682944), (9, iW 2328306436), (2, iW 10000000000000000000), (8, iW 0), (7, iW 0), (6, iW 0), (0, iW h), (1, iW (m1 * 4294967296 + m0))] []) (by kernel_rfl) (fun _ => by kernel_rfl) (⟨(by decide), (by have := hu; omega), fun ac28 wd28 FF28 MM28 => then_n ?_⟩))
      refine wp_seq (rg_seq FF28 MM28 [o_, o_, o_, w_ 1, u_ 1 (iW (u % 2328306436)), o_] [18, 17, 15, 14, 13, 12, 11, 10, 9, 2, 8, 7, 6, 0, 1, 16] (fun Kt => (u / 2328306436) * 2328306436 < 18446744073709551616 ∧ ((u / 2328306436) * 2328306436) ≤ u ∧ u - ((u / 2328306436) * 2328306436) < 18446744073709551616 ∧ iW (u - ((u / 2328306436) * 2328306436)) = iW (u % 2328306436) ∧ Kt [(16, iW (u % 2328306436)), (18, iW (u / 2328306436)), (17, iW u), (15, iW A), (14, iW m0), (13, iW m1), (12, iW (m1 * 4294967296 + m0)), (11, iW h), (10, iW 2313682944), (9, iW 2328306436), (2, iW 10000000000000000000), (8, iW 0), (7, iW 0), (6, iW 0), (0, iW h), (1, iW (m1 * 4294967296 + m0))] []) (by kernel_rfl) (fun _ => by kernel_rfl) (⟨(by have := hu; omega), (by have := hu; omega), (by have := hu; omega), (vI (by omega)), fun ac29 wd29 FF29 MM29 => then_n ?_⟩))
      refine wp_mid (fun a' w' => Fr 135 a' [(18, iW B), (17, iW u), (15, iW A), (14, iW m0), (13, iW m1), (12, iW (m1 * 4294967296 + m0)), (11, iW h), (10, iW 2313682944), (9, iW 2328306436), (2, iW 10000000000000000000), (8, iW 0), (7, iW 0), (6, iW 0), (0, iW h), (1, iW (m1 * 4294967296 + m0))] ∧ MemS (fun k => k < w0.heap.size) w0 w' [] []) ?_ ?_
      · skip
        refine wp_for2w (fun a' w' => ∃ q : Nat, ∃ r : Nat, u = q * 2328306436 + r ∧ B ≤ q ∧ r < 4294967296 ∧ q ≤ 4294967296 ∧ Fr 135 a' [(16, iW r), (18, iW q), (17, iW u), (15, iW A), (14, iW m0), (13, iW m1), (12, iW (m1 * 4294967296 + m0)), (11, iW h), (10, iW 2313682944), (9, iW 2328306436), (2, iW 10000000000000000000), (8, iW 0), (7, iW 0), (6, iW 0), (0, iW h), (1, iW (m1 * 4294967296 + m0))] ∧ MemS (fun k => k < w0.heap.size) w0 w' [] []) (fun a' _ => (cnt 18 a').toNat) ⟨u / 2328306436, u % 2328306436, by omega, b1, by omega, b2, FF29.pick [0, 1, 2, 3, 4, 5, 6, 7, 8, 9, 10, 11, 12, 13, 14, 15], MM29⟩ ?_
        rintro ac30 wd30 ⟨q, r, hE, hQ, hr, hq, FF30, MM30⟩
        have hc := cnt_of (FF30.get 1 rfl)
        by_cases h1 : q ≥ 4294967296
        · skip
          refine rg_seq FF30 MM30 [o_, w_ 2, o_, o_, o_, o_, o_, o_, o_, o_, o_, o_] [16, 18, 17, 15, 14, 13, 12, 11, 10, 9, 2, 8, 7, 6, 0, 1, 113] (fun Kt => q ≥ 4294967296 ∧ Kt [(113, .bool true), (16, iW r), (18, iW q), (17, iW u), (15, iW A), (14, iW m0), (13, iW m1), (12, iW (m1 * 4294967296 + m0)), (11, iW h), (10, iW 2313682944), (9, iW 2328306436), (2, iW 10000000000000000000), (8, iW 0), (7, iW 0), (6, iW 0), (0, iW h), (1, iW (m1 * 4294967296 + m0))] []) (by kernel_rfl) (fun _ => by kernel_rfl) (⟨h1, fun ac31 wd31 FF31 MM31 => ?_⟩)
          refine then_n (.inl ⟨FF31.ev 0 rfl, ?_⟩)
          obtain ⟨k1, k2⟩ := half_ge hE hB (by first | exact .inl h1 | exact .inr h2) hu hm0
          refine wp_seq (rg_seq FF31 MM31 [o_, w_ 1, o_] [16, 18, 17, 15, 14, 13, 12, 11, 10, 9, 2, 8, 7, 6, 0, 1] (fun Kt => 1 ≤ q ∧ q - 1 < 18446744073709551616 ∧ Kt [(18, iW (q - 1)), (16, iW r), (17, iW u), (15, iW A), (14, iW m0), (13, iW m1), (12, iW (m1 * 4294967296 + m0)), (11, iW h), (10, iW 2313682944), (9, iW 2328306436), (2, iW 10000000000000000000), (8, iW 0), (7, iW 0), (6, iW 0), (0, iW h), (1, iW (m1 * 4294967296 + m0))] []) (by kernel_rfl) (fun _ => by kernel_rfl) (⟨k2, (by omega), fun ac32 wd32 FF32 MM32 => then_n ?_⟩))
          refine wp_seq (rg_seq FF32 MM32 [o_, o_, w_ 1, o_] [18, 16, 17, 15, 14, 13, 12, 11, 10, 9, 2, 8, 7, 6, 0, 1] (fun Kt => r + 2328306436 < 18446744073709551616 ∧ Kt [(16, iW (r + 2328306436)), (18, iW (q - 1)), (17, iW u), (15, iW A), (14, iW m0), (13, iW m1), (12, iW (m1 * 4294967296 + m0)), (11, iW h), (10, iW 2313682944), (9, iW 2328306436), (2, iW 10000000000000000000), (8, iW 0), (7, iW 0), (6, iW 0), (0, iW h), (1, iW (m1 * 4294967296 + m0))] []) (by kernel_rfl) (fun _ => by kernel_rfl) (⟨(by clear hE; omega), fun ac33 wd33 FF33 MM33 => then_n ?_⟩))
          refine wp_seq (rg_seq FF33 MM33 [o_, o_] [16, 18, 17, 15, 14, 13, 12, 11, 10, 9, 2, 8, 7, 6, 0, 1, 120] (fun Kt => Kt [(120, .bool (decide ((r + 2328306436) ≥ 4294967296))), (16, iW (r + 2328306436)), (18, iW (q - 1)), (17, iW u), (15, iW A), (14, iW m0), (13, iW m1), (12, iW (m1 * 4294967296 + m0)), (11, iW h), (10, iW 2313682944), (9, iW 2328306436), (2, iW 10000000000000000000), (8, iW 0), (7, iW 0), (6, iW 0), (0, iW h), (1, iW (m1 * 4294967296 + m0))] []) (by kernel_rfl) (fun _ => by kernel_rfl) (fun ac34 wd34 FF34 MM34 => then_n ?_))
          by_cases hs120 : (r + 2328306436) ≥ 4294967296
          · refine wp_cond_true ((FF34.ev 0 rfl).trans (dec_t hs120)) ?_
            refine wp_exit ?_
            repeat first | refine then_exit ?_ | refine (inb_other (by decide) _ _ _).2 ?_ | refine (inb_exit _ _ _ _).2 ?_
            have hz : q - 1 = B := Nat.le_antisymm (half_le (half_st hE k2) hB hr0 (half_bk hq (by assumption))) k1
            refine then_n ?_
            rw [hz] at FF34
            exact ⟨FF34.pick [2, 3, 4, 5, 6, 7, 8, 9, 10, 11, 12, 13, 14, 15, 16], MM34⟩
          · refine wp_cond_false ((FF34.ev 0 rfl).trans (dec_f hs120)) ?_
            refine wp_skip ?_
            refine inb_n ?_
            have hd := cnt_of (FF34.get 2 rfl)
            refine then_n ⟨⟨q - 1, r + 2328306436, half_st hE k2, k1, (by clear hE k1; omega), (Nat.le_trans (Nat.sub_le _ _) hq), FF34.pick [1, 2, 3, 4, 5, 6, 7, 8, 9, 10, 11, 12, 13, 14, 15, 16], MM34⟩, ?_⟩
            rw [hc, hd]; clear hE hQ k1 hA hB a1 a2 a3 b1 b2 b3; omega
        · by_cases h2 : q * 2313682944 > 4294967296 * r + m0
          · skip
            refine rg_seq FF30 MM30 [o_, w_ 3, o_, o_, o_, w_ 1, o_, w_ 1, o_, w_ 1, w_ 2, o_] [16, 18, 17, 15, 14, 13, 12, 11, 10, 9, 2, 8, 7, 6, 0, 1, 113] (fun Kt => ¬ (q ≥ 4294967296) ∧ q * 2313682944 < 18446744073709551616 ∧ 4294967296 * r < 18446744073709551616 ∧ (4294967296 * r) + m0 < 18446744073709551616 ∧ (q * 2313682944) > ((4294967296 * r) + m0) ∧ Kt [(113, .bool true), (16, iW r), (18, iW q), (17, iW u), (15, iW A), (14, iW m0), (13, iW m1), (12, iW (m1 * 4294967296 + m0)), (11, iW h), (10, iW 2313682944), (9, iW 2328306436), (2, iW 10000000000000000000), (8, iW 0), (7, iW 0), (6, iW 0), (0, iW h), (1, iW (m1 * 4294967296 + m0))] []) (by kernel_rfl) (fun _ => by kernel_rfl) (⟨h1, (by clear hE; omega), (by clear hE; omega), (by clear hE; omega), h2, fun ac35 wd35 FF35 MM35 => ?_⟩)
            refine then_n (.inl ⟨FF35.ev 0 rfl, ?_⟩)
            obtain ⟨k1, k2⟩ := half_ge hE hB (by first | exact .inl h1 | exact .inr h2) hu hm0
            refine wp_seq (rg_seq FF35 MM35 [o_, w_ 1, o_] [16, 18, 17, 15, 14, 13, 12, 11, 10, 9, 2, 8, 7, 6, 0, 1] (fun Kt => 1 ≤ q ∧ q - 1 < 18446744073709551616 ∧ Kt [(18, iW (q - 1)), (16, iW r), (17, iW u), (15, iW A), (14, iW m0), (13, iW m1), (12, iW (m1 * 4294967296 + m0)), (11, iW h), (10, iW 2313682944), (9, iW 2328306436), (2, iW 10000000000000000000), (8, iW 0), (7, iW 0), (6, iW 0), (0, iW h), (1, iW (m1 * 4294967296 + m0))] []) (by kernel_rfl) (fun _ => by kernel_rfl) (⟨k2, (by omega), fun ac36 wd36 FF36 MM36 => then_n ?_⟩))
            refine wp_seq (rg_seq FF36 MM36 [o_, o_, w_ 1, o_] [18, 16, 17, 15, 14, 13, 12, 11, 10, 9, 2, 8, 7, 6, 0, 1] (fun Kt => r + 2328306436 < 18446744073709551616 ∧ Kt [(16, iW (r + 2328306436)), (18, iW (q - 1)), (17, iW u), (15, iW A), (14, iW m0), (13, iW m1), (12, iW (m1 * 4294967296 + m0)), (11, iW h), (10, iW 2313682944), (9, iW 2328306436), (2, iW 10000000000000000000), (8, iW 0), (7, iW 0), (6, iW 0), (0, iW h), (1, iW (m1 * 4294967296 + m0))] []) (by kernel_rfl) (fun _ => by kernel_rfl) (⟨(by clear hE; omega), fun ac37 wd37 FF37 MM37 => then_n ?_⟩))
            refine wp_seq (rg_seq FF37 MM37 [o_, o_] [16, 18, 17, 15, 14, 13, 12, 11, 10, 9, 2, 8, 7, 6, 0, 1, 120] (fun Kt => Kt [(120, .bool (decide ((r + 2328306436) ≥ 4294967296))), (16, iW (r + 2328306436)), (18, iW (q - 1)), (17, iW u), (15, iW A), (14, iW m0), (13, iW m1), (12, iW (m1 * 4294967296 + m0)), (11, iW h), (10, iW 2313682944), (9, iW 2328306436), (2, iW 10000000000000000000), (8, iW 0), (7, iW 0), (6, iW 0), (0, iW h), (1, iW (m1 * 4294967296 + m0))] []) (by kernel_rfl) (fun _ => by kernel_rfl) (fun ac38 wd38 FF38 MM38 => then_n ?_))
            by_cases hs120 : (r + 2328306436) ≥ 4294967296
            · refine wp_cond_true ((FF38.ev 0 rfl).trans (dec_t hs120)) ?_
              refine wp_exit ?_
              repeat first | refine then_exit ?_ | refine (inb_other (by decide) _ _ _).2 ?_ | refine (inb_exit _ _ _ _).2 ?_
              have hz : q - 1 = B := Nat.le_antisymm (half_le (half_st hE k2) hB hr0 (half_bk hq (by assumption))) k1
              refine then_n ?_
              rw [hz] at FF38
              exact ⟨FF38.pick [2, 3, 4, 5, 6, 7, 8, 9, 10, 11, 12, 13, 14, 15, 16], MM38⟩
            · refine wp_cond_false ((FF38.ev 0 rfl).trans (dec_f hs120)) ?_
              refine wp_skip ?_
              refine inb_n ?_
              have hd := cnt_of (FF38.get 2 rfl)
              refine then_n ⟨⟨q - 1, r + 2328306436, half_st hE k2, k1, (by clear hE k1; omega), (Nat.le_trans (Nat.sub_le _ _) hq), FF38.pick [1, 2, 3, 4, 5, 6, 7, 8, 9, 10, 11, 12, 13, 14, 15, 16], MM38⟩, ?_⟩
              rw [hc, hd]; clear hE hQ k1 hA hB a1 a2 a3 b1 b2 b3; omega
          · skip
            refine rg_seq FF30 MM30 [o_, w_ 3, o_, o_, o_, w_ 1, o_, w_ 1, o_, w_ 1, w_ 3, o_] [16, 18, 17, 15, 14, 13, 12, 11, 10, 9, 2, 8, 7, 6, 0, 1, 113] (fun Kt => ¬ (q ≥ 4294967296) ∧ q * 2313682944 < 18446744073709551616 ∧ 4294967296 * r < 18446744073709551616 ∧ (4294967296 * r) + m0 < 18446744073709551616 ∧ ¬ ((q * 2313682944) > ((4294967296 * r) + m0)) ∧ Kt [(113, .bool false), (16, iW r), (18, iW q), (17, iW u), (15, iW A), (14, iW m0), (13, iW m1), (12, iW (m1 * 4294967296 + m0)), (11, iW h), (10, iW 2313682944), (9, iW 2328306436), (2, iW 10000000000000000000), (8, iW 0), (7, iW 0), (6, iW 0), (0, iW h), (1, iW (m1 * 4294967296 + m0))] []) (by kernel_rfl) (fun _ => by kernel_rfl) (⟨h1, (by clear hE; omega), (by clear hE; omega), (by clear hE; omega), h2, fun ac39 wd39 FF39 MM39 => ?_⟩)
            refine then_n (.inr ⟨FF39.ev 0 rfl, ?_⟩)
            have hz : q = B := Nat.le_antisymm (half_le hE hB hr0 (Nat.le_of_not_lt h2)) hQ
            refine then_n ?_
            rw [hz] at FF39
            exact ⟨FF39.pick [2, 3, 4, 5, 6, 7, 8, 9, 10, 11, 12, 13, 14, 15, 16], MM39⟩
      · rintro ac40 wd40 ⟨FF40, MM40⟩
        refine wp_seq (rg_seq FF40 MM40 [o_, w_ 1, o_, w_ 1, o_, o_, o_, o_, o_, o_, o_, t_ (iW r0), o_, t_ (iW r0), o_, o_] [18, 17, 15, 14, 13, 12, 11, 10, 9, 2, 8, 7, 6, 0, 1] (fun Kt => A * 4294967296 < 18446744073709551616 ∧ (A * 4294967296) + B < 18446744073709551616 ∧ ((B * 10000000000000000000) % 18446744073709551616) ≤ 18446744073709551616 ∧ iW ((((((u * 4294967296) % 18446744073709551616) + m0) % 18446744073709551616) + (18446744073709551616 - ((B * 10000000000000000000) % 18446744073709551616))) % 18446744073709551616) = iW r0 ∧ 0 ≤ 64 ∧ iW (r0 / 1) = iW r0 ∧ Kt [(7, iW r0), (6, iW ((A * 4294967296) + B)), (18, iW B), (17, iW u), (15, iW A), (14, iW m0), (13, iW m1), (12, iW (m1 * 4294967296 + m0)), (11, iW h), (10, iW 2313682944), (9, iW 2328306436), (2, iW 10000000000000000000), (8, iW 0), (0, iW h), (1, iW (m1 * 4294967296 + m0))] []) (by kernel_rfl) (fun _ => by kernel_rfl) (⟨(by omega), (by omega), (by have := hu; have := hm0; omega), (vI (wrap_sub hB hr0)), (by decide), (vI (Nat.div_one _)), fun ac41 wd41 FF41 MM41 => then_n ?_⟩))
        refine wp_ret ?_
        repeat first | refine then_ret ?_ | refine inb_ret ?_
        exact (ret_tup2 FF41 1 0 Tryd.results79 rfl rfl ⟨rfl, MM41.below⟩)
theorem div64_any (h m : Nat) (hlt : h < 10000000000000000000) (hm : m < 18446744073709551616) (w0 : World) :
    Calls Tryd.prog 79 #[iW h, iW m, iW 10000000000000000000] w0 fun e w' => e = .returned (.tuple #[iW ((h * 18446744073709551616 + m) / 10000000000000000000), iW ((h * 18446744073709551616 + m) % 10000000000000000000)]) ∧ Below w0.heap.size w0 w' := by
  obtain ⟨m1, m0, h1, h2, rfl⟩ : ∃ m1 m0, m1 < 4294967296 ∧ m0 < 4294967296 ∧ m = m1 * 4294967296 + m0 := ⟨m / 4294967296, m % 4294967296, by omega, by omega, by omega⟩
  have hA := (Nat.div_add_mod' (h * 4294967296 + m1) 10000000000000000000).symm
  have hu := Nat.mod_lt (h * 4294967296 + m1) (show 10000000000000000000 > 0 by decide)
  have hB := (Nat.div_add_mod' ((h * 4294967296 + m1) % 10000000000000000000 * 4294967296 + m0) 10000000000000000000).symm
  have hr := Nat.mod_lt ((h * 4294967296 + m1) % 10000000000000000000 * 4294967296 + m0) (show 10000000000000000000 > 0 by decide)
  obtain ⟨e1, e2⟩ := two_div hA hB hr
  rw [e1, e2]
  exact div64_core h m1 m0 _ _ _ _ hlt h1 h2 hA hu hB hr w0
end Go.Proofs.YtlljedijldkcbaaDoor
namespace Go.Proofs.YtlljedijldkcbaaDoor
open Go.RowKit
/-- The table of the powers of ten lies there. -/
def TabIn (w : World) : Prop := CellsIn w (some ⟨2, 0, none⟩) 20 (fun j => iW (10 ^ j))
def TabO (O : Blks) : Prop := CellsO O (some ⟨2, 0, none⟩) 20 (fun j => iW (10 ^ j))
theorem TabO.at {w : World} {O : Blks} (h : TabO O) (H : Has w O) : TabIn w := CellsO.at h H
theorem TabO.mono {O O' : Blks} (h : TabO O) (hs : ∀ x ∈ O, x ∈ O') : TabO O' := CellsO.mono h hs
theorem TabIn.keep {w w' : World} (h : TabIn w) (hb : Below w.heap.size w w') : TabIn w' := CellsIn.keep h hb
theorem tab_O {w : World} (h : TabIn w) : ∃ O : Blks, Has w O ∧ O.Pairwise (fun x y => x.1 ≠ y.1) ∧ TabO O := by
  rcases h with h | ⟨b, cs, T, fr, h1, h2, h3⟩
  · cases h
  · refine ⟨[(b, .cells cs T fr)], fun i x hx => ?_, by simp, .inr ⟨b, cs, T, fr, h1, by simp, h3⟩⟩
    cases i with
    | zero => simp at hx; subst hx; exact h2
    | succ i => simp at hx
def ren10 : Go.Shelf.Ren := ⟨fun | 285 => 91 | n => n, fun | 37 => 67 | 53 => 61 | 3 => 3 | 4 => 4 | 51 => 121 | 9 => 9 | 5 => 5 | 0 => 0 | n => n, fun | n => n⟩
theorem lay10 : Go.Proofs.Lays.n285 Tryd.prog ren10 := {
  mixed := by kernel_rfl
  f285 := Tryd.func91.trans (congrArg some (by kernel_rfl))
  t37 := Tryd.underlying67
  a37 := Tryd.isAgg67
  z37 := Tryd.sizeOf67
  v37 := Tryd.zeroValue67
  t53 := Tryd.underlying61
  a53 := Tryd.isAgg61
  z53 := Tryd.sizeOf61
  v53 := Tryd.zeroValue61
  t3 := Tryd.underlying3
  a3 := Tryd.isAgg3
  z3 := Tryd.sizeOf3
  v3 := Tryd.zeroValue3
  t4 := Tryd.underlying4
  a4 := Tryd.isAgg4
  z4 := Tryd.sizeOf4
  v4 := Tryd.zeroValue4
  t51 := Tryd.underlying121
  a51 := Tryd.isAgg121
  z51 := Tryd.sizeOf121
  v51 := Tryd.zeroValue121
  t9 := Tryd.underlying9
  a9 := Tryd.isAgg9
  z9 := Tryd.sizeOf9
  v9 := Tryd.zeroValue9
  t5 := Tryd.underlying5
  a5 := Tryd.isAgg5
  z5 := Tryd.sizeOf5
  v5 := Tryd.zeroValue5
  t0 := Tryd.underlying0
  a0 := Tryd.isAgg0
  z0 := Tryd.sizeOf0
  v0 := Tryd.zeroValue0 }
theorem rep_get (n k : Nat) : (List.replicate n 0).getD k 0 = 0 := by rw [List.getD_eq_getElem?_getD, List.getElem?_replicate]; split <;> rfl
theorem put_dec {nd u v : Nat} {dk : Array UInt8} (h : nd ≤ 24) (hk : Lib.FmtInv nd u 0 v dk) : Go.Sort.putCells (fun (b : UInt8) => Value.int .u8 (b.toNat : Int)) 0 dk (cn .u8 (List.replicate 24 0)) = cn .u8 (decK nd u ++ List.replicate (24 - nd) 0) := by
  apply Array.ext_getElem?
  intro k
  have hs := hk.size
  simp only [Go.Sort.putCells, Array.getElem?_mapIdx]
  rcases Nat.lt_or_ge k 24 with h1 | h1
  · have e1 : (cn .u8 (List.replicate 24 0))[k]? = some (.int .u8 ((0 : Nat) : Int)) := by
      rw [cn_get _ _ _ (by rw [List.length_replicate]; exact h1), rep_get]
    have hl : (decK nd u ++ List.replicate (24 - nd) 0).length = 24 := by rw [List.length_append, decK_len, List.length_replicate]; omega
    rw [e1, cn_get _ _ _ (by rw [hl]; exact h1)]
    simp only [Option.map_some, Nat.zero_le, true_and, Nat.zero_add, Nat.sub_zero]
    rcases Nat.lt_or_ge k nd with h2 | h2
    · rw [if_pos (by omega), hk.done k (Nat.zero_le _) h2, getD_app_l _ _ _ (by rw [decK_len]; exact h2), decK_get nd u h2]
      have := dig_le u (nd - 1 - k)
      simp only [Lib.dg, UInt8.toNat_ofNat']
      rw [Nat.mod_eq_of_lt (by omega)]
    · rw [if_neg (by omega), getD_app_r _ _ _ (by rw [decK_len]; exact h2), List.getD_eq_getElem?_getD, List.getElem?_replicate]
      split <;> rfl
  · have hl : (decK nd u ++ List.replicate (24 - nd) 0).length = 24 := by rw [List.length_append, decK_len, List.length_replicate]; omega
    rw [Array.getElem?_eq_none (by rw [cn_size, List.length_replicate]; exact h1), Array.getElem?_eq_none (by rw [cn_size, hl]; exact h1)]
    rfl
theorem fmt10_U (nd u : Nat) (hnd : nd ≤ 24) (hu : u < 10 ^ nd) (hu64 : u < 18446744073709551616) (g i : Nat) (L : Blks) (hi : L[i]? = some (g, .cells (cn .u8 (List.replicate 24 0)) 124)) :
    CallU Tryd.prog 91 [.slice (some ⟨g, 0, none⟩) nd 24, iW u] L (.tuple #[]) [(i, .cells (cn .u8 (decK nd u ++ List.replicate (24 - nd) 0)) 124)] := ⟨en_fmt10, fun w H => by
  have hb : w.heap[g]? = some (.cells (cn .u8 (List.replicate 24 0)) 124) := H i _ hi
  have hH : Go.Sort.Holds (fun (b : UInt8) => Value.int .u8 (b.toNat : Int)) w g 0 (Array.replicate nd (0 : UInt8)) := fun j hj => by
    rw [Array.size_replicate] at hj
    have hj' : j < 24 := by omega
    refine ⟨?_, ?_⟩
    · rw [cell_of hb, Nat.zero_add, cn_get _ _ _ (by rw [List.length_replicate]; exact hj'), rep_get]
      simp [hj]
    · simp [World.frozen?, hb]
  have hc := Any.internal_strconv_formatBase10 lay10 g 0 24 u (Array.replicate nd (0 : UInt8)) w hH (by rw [Array.size_replicate]; exact hu) hu64 (by rw [Array.size_replicate]; omega)
  rw [Array.size_replicate] at hc
  refine Calls.mono hc ?_
  rintro e w' ⟨rfl, n, v', dk, rfl, hk⟩
  have e0 : ∀ k, (Go.Sort.putRow (fun (b : UInt8) => Value.int .u8 (b.toNat : Int)) w g 0 dk).heap[k]? = if g = k then (w.heap[k]?).map (Go.Sort.onCells (Go.Sort.putCells (fun (b : UInt8) => Value.int .u8 (b.toNat : Int)) 0 dk)) else w.heap[k]? := fun k => by
    simp only [Go.Sort.putRow, Go.Sort.mapBlock, Array.getElem?_modify]
  refine ⟨rfl, rfl, rfl, rfl, ?_, fun k hk' hu' => ?_, fun o ho => (by cases ho), fun _ => rfl, fun x hx y hy => ?_⟩
  · show w.heap.size ≤ (Go.Sort.putRow (fun (b : UInt8) => Value.int .u8 (b.toNat : Int)) w g 0 dk).heap.size
    simp [Go.Sort.putRow, Go.Sort.mapBlock]
  · have hne : g ≠ k := hu' _ (List.mem_singleton.2 rfl) (g, _) hi
    exact (e0 k).trans (if_neg hne)
  · rw [List.mem_singleton] at hx
    subst hx
    rw [hi] at hy
    obtain rfl := Option.some.inj hy
    refine (e0 g).trans ?_
    rw [if_pos rfl, hb, Option.map_some]
    simp only [Go.Sort.onCells]
    rw [put_dec hnd hk]⟩
theorem dec24 {nd u : Nat} (h : nd ≤ 24) : (decK nd u ++ List.replicate (24 - nd) 0).length = 24 := by rw [List.length_append, decK_len, List.length_replicate]; omega
theorem dec24_lt (nd u k : Nat) : ∀ i, (decK nd u ++ List.replicate k 0).getD i 0 < 256 := pad_lt _ (decK_lt nd u) _
theorem dec24_take (nd u k : Nat) : ((decK nd u ++ List.replicate k 0).drop 0).take nd = decK nd u := by
  rw [List.drop_zero, List.take_append_of_le_length (by rw [decK_len]; exact Nat.le_refl _), List.take_of_length_le (by rw [decK_len]; exact Nat.le_refl _)]
set_option maxRecDepth 100000 in
theorem l10_any (x : Nat) (hx : x ≤ 64) (w0 : World) :
    Calls Tryd.prog 96 #[iN x] w0 fun e w' => e = .returned (iN (lg x)) ∧ Below w0.heap.size w0 w' := by
  refine enter_fr Tryd.func96 rfl Tryd.ntmps96 (by simp) fun ac (FF : Fr 6 ac [(0, iN x)]) => ?_
  have MM := MemS.start w0
  refine wp_seq (rg_seq FF MM [o_] [0, 2] (fun Kt => Kt [(2, iN 0), (0, iN x)] []) (by kernel_rfl) (fun _ => by kernel_rfl) (fun ac1 wd1 FF1 MM1 => then_n ?_))
  refine wp_seq (rg_seq FF1 MM1 [o_, o_, t_ (iN (lg x)), o_] [2] (fun Kt => x * 78913 < 9223372036854775808 ∧ 18 ≤ 64 ∧ iN ((x * 78913) / 262144) = iN (lg x) ∧ Kt [(2, iN (lg x))] []) (by kernel_rfl) (fun _ => by kernel_rfl) (⟨(by have := hx; omega), (by decide), rfl, fun ac2 wd2 FF2 MM2 => then_n ?_⟩))
  refine wp_ret ?_
  repeat first | refine then_ret ?_ | refine inb_ret ?_
  exact (ret_fr FF2 0 Tryd.results96 rfl ⟨rfl, MM2.below⟩)
set_option maxRecDepth 100000 in
theorem bool2_true  (w0 : World) :
    Calls Tryd.prog 97 #[.bool true] w0 fun e w' => e = .returned (iN 1) ∧ Below w0.heap.size w0 w' := by
  refine enter_fr Tryd.func97 rfl Tryd.ntmps97 (by simp) fun ac (FF : Fr 4 ac [(0, .bool true)]) => ?_
  have MM := MemS.start w0
  refine wp_seq (rg_seq FF MM [o_] [0, 2] (fun Kt => Kt [(2, iN 0), (0, .bool true)] []) (by kernel_rfl) (fun _ => by kernel_rfl) (fun ac1 wd1 FF1 MM1 => then_n ?_))
  refine wp_seq ?_
  refine wp_seq (rg_seq FF1 MM1 [o_] [2, 3] (fun Kt => Kt [(3, .bool true), (2, iN 0)] []) (by kernel_rfl) (fun _ => by kernel_rfl) (fun ac2 wd2 FF2 MM2 => then_n ?_))
  refine wp_cond_true (FF2.ev 0 rfl) ?_
  refine wp_seq (rg_seq FF2 MM2 [o_] [2] (fun Kt => Kt [(2, iN 1)] []) (by kernel_rfl) (fun _ => by kernel_rfl) (fun ac3 wd3 FF3 MM3 => then_n ?_))
  refine wp_ret ?_
  repeat first | refine then_ret ?_ | refine inb_ret ?_
  exact (ret_fr FF3 0 Tryd.results97 rfl ⟨rfl, MM3.below⟩)
set_option maxRecDepth 100000 in
theorem bool2_false  (w0 : World) :
    Calls Tryd.prog 97 #[.bool false] w0 fun e w' => e = .returned (iN 0) ∧ Below w0.heap.size w0 w' := by
  refine enter_fr Tryd.func97 rfl Tryd.ntmps97 (by simp) fun ac (FF : Fr 4 ac [(0, .bool false)]) => ?_
  have MM := MemS.start w0
  refine wp_seq (rg_seq FF MM [o_] [0, 2] (fun Kt => Kt [(2, iN 0), (0, .bool false)] []) (by kernel_rfl) (fun _ => by kernel_rfl) (fun ac1 wd1 FF1 MM1 => then_n ?_))
  refine wp_seq ?_
  refine wp_seq (rg_seq FF1 MM1 [o_] [2, 3] (fun Kt => Kt [(3, .bool false), (2, iN 0)] []) (by kernel_rfl) (fun _ => by kernel_rfl) (fun ac2 wd2 FF2 MM2 => then_n ?_))
  refine wp_cond_false (FF2.ev 0 rfl) ?_
  refine wp_skip ?_
  refine then_n ?_
  refine wp_seq (rg_seq FF2 MM2 [o_] [2] (fun Kt => Kt [(2, iN 0)] []) (by kernel_rfl) (fun _ => by kernel_rfl) (fun ac3 wd3 FF3 MM3 => then_n ?_))
  refine wp_ret ?_
  repeat first | refine then_ret ?_ | refine inb_ret ?_
  exact (ret_fr FF3 0 Tryd.results97 rfl ⟨rfl, MM3.below⟩)
set_option maxRecDepth 100000 in
theorem small_any (i : Nat) (hi : i < 100) (w0 : World) :
    Calls Tryd.prog 89 #[iN i] w0 fun e w' => e = .returned (sB (decN i)) ∧ Below w0.heap.size w0 w' := by
  refine enter_fr Tryd.func89 rfl Tryd.ntmps89 (by simp) fun ac (FF : Fr 15 ac [(0, iN i)]) => ?_
  have MM := MemS.start w0
  refine wp_seq (rg_seq FF MM [o_] [0, 2] (fun Kt => Kt [(2, sB []), (0, iN i)] []) (by kernel_rfl) (fun _ => by kernel_rfl) (fun ac1 wd1 FF1 MM1 => then_n ?_))
  refine wp_seq ?_
  refine wp_seq (rg_seq FF1 MM1 [o_, o_] [2, 0, 4] (fun Kt => Kt [(4, .bool (decide (i < 10))), (2, sB []), (0, iN i)] []) (by kernel_rfl) (fun _ => by kernel_rfl) (fun ac2 wd2 FF2 MM2 => then_n ?_))
  by_cases hs4 : i < 10
  · refine wp_cond_true ((FF2.ev 0 rfl).trans (dec_t hs4)) ?_
    refine wp_seq (rg_seq FF2 MM2 [o_, o_, o_, t_ (sB (decN i)), o_] [2, 0] (fun Kt => i + 1 < 9223372036854775808 ∧ i ≤ (i + 1) ∧ (i + 1) ≤ (bs digs36).size ∧ Value.string ((bs digs36).extract i (i + 1)) = sB (decN i) ∧ Kt [(2, sB (decN i)), (0, iN i)] []) (by kernel_rfl) (fun _ => by kernel_rfl) (⟨(by have := hi; omega), (by have := hi; omega), (by rw [bs_size, show digs36.length = 36 from (by kernel_rfl)]; have := hi; omega), (vS2 ((bs_extract _ _ _).trans (congrArg bs ((digs_at hs4).trans (dec_small1 hs4))))), fun ac3 wd3 FF3 MM3 => then_n ?_⟩))
    refine wp_ret ?_
    repeat first | refine then_ret ?_ | refine inb_ret ?_
    exact (ret_fr FF3 0 Tryd.results89 rfl ⟨rfl, MM3.below⟩)
  · refine wp_cond_false ((FF2.ev 0 rfl).trans (dec_f hs4)) ?_
    refine wp_skip ?_
    refine then_n ?_
    refine wp_seq (rg_seq FF2 MM2 [o_, o_, o_, o_, o_, t_ (sB (decN i)), o_] [2, 0] (fun Kt => i * 2 < 9223372036854775808 ∧ i * 2 < 9223372036854775808 ∧ (i * 2) + 2 < 9223372036854775808 ∧ (i * 2) ≤ ((i * 2) + 2) ∧ ((i * 2) + 2) ≤ (bs smalls8).size ∧ Value.string ((bs smalls8).extract (i * 2) ((i * 2) + 2)) = sB (decN i) ∧ Kt [(2, sB (decN i)), (0, iN i)] []) (by kernel_rfl) (fun _ => by kernel_rfl) (⟨(by have := hi; omega), (by have := hi; omega), (by have := hi; omega), (by have := hi; omega), (by rw [bs_size, show smalls8.length = 200 from (by kernel_rfl)]; have := hi; omega), (vS2 ((bs_extract _ _ _).trans (congrArg bs ((smalls_at hi).trans (dec_small2 hs4 hi))))), fun ac4 wd4 FF4 MM4 => then_n ?_⟩))
    refine wp_ret ?_
    repeat first | refine then_ret ?_ | refine inb_ret ?_
    exact (ret_fr FF4 0 Tryd.results89 rfl ⟨rfl, MM4.below⟩)
set_option maxRecDepth 100000 in
theorem ndig_any (O : Blks) (hD : Distinct O) (hT : TabO O) (u : Nat) (h0 : u ≠ 0) (hu : u < 18446744073709551616) (w0 : World) (H : Has w0 O) :
    Calls Tryd.prog 90 #[iW u] w0 fun e w' => e = .returned (iN (dsz u)) ∧ Below w0.heap.size w0 w' := by
  refine enter_fr Tryd.func90 rfl Tryd.ntmps90 (by simp) fun ac (FF : Fr 15 ac [(0, iW u)]) => ?_
  have MM : MemS (fun k => k < w0.heap.size ∧ ∀ x ∈ O, x.1 ≠ k) w0 w0 O [] := MemS.startN H hD
  obtain ⟨hn1, hn2⟩ := ndig h0 hu
  refine wp_seq (rg_seq FF MM [o_] [0, 2] (fun Kt => Kt [(2, iN 0), (0, iW u)] O) (by kernel_rfl) (fun _ => by kernel_rfl) (fun ac1 wd1 FF1 MM1 => then_n ?_))
  refine wp_seq (rg_seq FF1 MM1 [o_, t_ (iN (bsz u)), t_ (iN (lg (bsz u))), o_] [2, 0, 3] (fun Kt => CallP Tryd.prog 55 [iW u] [] (iN (bsz u)) ∧ CallP Tryd.prog 96 [iN (bsz u)] [] (iN (lg (bsz u))) ∧ Kt [(3, iN (lg (bsz u))), (2, iN 0), (0, iW u)] O) (by kernel_rfl) (fun _ => by kernel_rfl) (⟨(callP_of en_len64 (len64_any u hu) _), (callP_of en_l10 (l10_any (bsz u) (bsz64 (show u < 18446744073709551616 from hu))) _), fun ac2 wd2 FF2 MM2 => then_n ?_⟩))
  by_cases hc : 10 ^ lg (bsz u) ≤ u
  · skip
    rw [if_pos hc] at hn1
    refine wp_seq (rg_seq FF2 MM2 [o_, o_, o_, w_ 1, f_ (iW (10 ^ lg (bsz u))), w_ 2, t_ (iN 1), t_ (iN (dsz u)), o_] [2, 0] (fun Kt => (lg (bsz u)) < 20 ∧ RunV Tryd.prog [(10, .pointer (some ⟨2, lg (bsz u), none⟩)), (9, iN (lg (bsz u))), (8, iW u), (7, iN (lg (bsz u))), (3, iN (lg (bsz u))), (2, iN 0), (0, iW u)] O (opAt Tryd.f90 2 4) (iW (10 ^ lg (bsz u))) ∧ u ≥ (10 ^ lg (bsz u)) ∧ CallP Tryd.prog 97 [.bool true] [] (iN 1) ∧ (lg (bsz u)) + 1 < 9223372036854775808 ∧ iN ((lg (bsz u)) + 1) = iN (dsz u) ∧ Kt [(2, iN (dsz u)), (0, iW u)] O) (by kernel_rfl) (fun _ => by kernel_rfl) (⟨(by omega), (rowLoad_ok (p := some ⟨2, 0, none⟩) (i := lg (bsz u)) (V := fun j => iW (10 ^ j)) (x := .tmp 10) (by kernel_rfl) rfl Tryd.underlying61 rfl hT (fun _ hx => hx) (by omega)), hc, (callP_of en_bool2 bool2_true _), (by omega), (vI hn1.symm), fun ac3 wd3 FF3 MM3 => then_n ?_⟩))
    refine wp_ret ?_
    repeat first | refine then_ret ?_ | refine inb_ret ?_
    exact (ret_fr FF3 0 Tryd.results90 rfl ⟨rfl, MM3.belowN H (fun _ hx => hx)⟩)
  · skip
    rw [if_neg hc] at hn1
    refine wp_seq (rg_seq FF2 MM2 [o_, o_, o_, w_ 1, f_ (iW (10 ^ lg (bsz u))), w_ 3, t_ (iN 0), t_ (iN (dsz u)), o_] [2, 0] (fun Kt => (lg (bsz u)) < 20 ∧ RunV Tryd.prog [(10, .pointer (some ⟨2, lg (bsz u), none⟩)), (9, iN (lg (bsz u))), (8, iW u), (7, iN (lg (bsz u))), (3, iN (lg (bsz u))), (2, iN 0), (0, iW u)] O (opAt Tryd.f90 2 4) (iW (10 ^ lg (bsz u))) ∧ ¬ (u ≥ (10 ^ lg (bsz u))) ∧ CallP Tryd.prog 97 [.bool false] [] (iN 0) ∧ (lg (bsz u)) + 0 < 9223372036854775808 ∧ iN ((lg (bsz u)) + 0) = iN (dsz u) ∧ Kt [(2, iN (dsz u)), (0, iW u)] O) (by kernel_rfl) (fun _ => by kernel_rfl) (⟨(by omega), (rowLoad_ok (p := some ⟨2, 0, none⟩) (i := lg (bsz u)) (V := fun j => iW (10 ^ j)) (x := .tmp 10) (by kernel_rfl) rfl Tryd.underlying61 rfl hT (fun _ hx => hx) (by omega)), hc, (callP_of en_bool2 bool2_false _), (by omega), (vI hn1.symm), fun ac4 wd4 FF4 MM4 => then_n ?_⟩))
    refine wp_ret ?_
    repeat first | refine then_ret ?_ | refine inb_ret ?_
    exact (ret_fr FF4 0 Tryd.results90 rfl ⟨rfl, MM4.belowN H (fun _ hx => hx)⟩)
set_option maxRecDepth 100000 in
theorem ifmt_any (O : Blks) (hD : Distinct O) (hT : TabO O) (u : Nat) (hu : u < 18446744073709551616) (w0 : World) (H : Has w0 O) :
    Calls Tryd.prog 81 #[iW u, iN 10] w0 fun e w' => e = .returned (sB (decN u)) ∧ Below w0.heap.size w0 w' := by
  refine enter_fr Tryd.func81 rfl Tryd.ntmps81 (by simp) fun ac (FF : Fr 32 ac [(0, iW u), (1, iN 10)]) => ?_
  have MM : MemS (fun k => k < w0.heap.size ∧ ∀ x ∈ O, x.1 ≠ k) w0 w0 O [] := MemS.startN H hD
  refine wp_seq (rg_seq FF MM [o_] [0, 1, 4] (fun Kt => Kt [(4, sB []), (0, iW u), (1, iN 10)] O) (by kernel_rfl) (fun _ => by kernel_rfl) (fun ac1 wd1 FF1 MM1 => then_n ?_))
  refine wp_seq ?_
  refine wp_seq (rg_seq FF1 MM1 [o_, w_ 2] [4, 0, 1, 10] (fun Kt => 10 = 10 ∧ Kt [(10, .bool true), (4, sB []), (0, iW u), (1, iN 10)] O) (by kernel_rfl) (fun _ => by kernel_rfl) (⟨(by decide), fun ac2 wd2 FF2 MM2 => then_n ?_⟩))
  refine wp_cond_true (FF2.ev 0 rfl) ?_
  refine wp_seq ?_
  refine wp_seq (rg_seq FF2 MM2 [o_, o_] [4, 0, 1, 12] (fun Kt => Kt [(12, .bool (decide (u < 100))), (4, sB []), (0, iW u), (1, iN 10)] O) (by kernel_rfl) (fun _ => by kernel_rfl) (fun ac3 wd3 FF3 MM3 => then_n ?_))
  by_cases hs12 : u < 100
  · refine wp_cond_true ((FF3.ev 0 rfl).trans (dec_t hs12)) ?_
    refine wp_seq (rg_seq FF3 MM3 [o_, w_ 1, t_ (sB (decN u)), o_] [4, 0, 1] (fun Kt => u < 9223372036854775808 ∧ CallP Tryd.prog 89 [iN u] [] (sB (decN u)) ∧ Kt [(4, sB (decN u)), (0, iW u), (1, iN 10)] O) (by kernel_rfl) (fun _ => by kernel_rfl) (⟨(by have := hu; omega), (callP_of en_small (small_any u (by omega)) _), fun ac4 wd4 FF4 MM4 => then_n ?_⟩))
    refine wp_ret ?_
    repeat first | refine then_ret ?_ | refine inb_ret ?_
    exact (ret_fr FF4 0 Tryd.results81 rfl ⟨rfl, MM4.belowN H (fun _ hx => hx)⟩)
  · refine wp_cond_false ((FF3.ev 0 rfl).trans (dec_f hs12)) ?_
    have h0 : u ≠ 0 := by omega
    have hn20 := dsz_le (n := 20) (N := u) (by omega)
    have hn24 : dsz u ≤ 24 := by omega
    have hu10 := (dsz_ok u).1
    refine wp_skip ?_
    refine then_n ?_
    refine wp_seq (rg_seq FF3 MM3 [o_] [4, 0, 1, 5] (fun Kt => ∀ ba, Kt [(5, pT ba), (4, sB []), (0, iW u), (1, iN 10)] ((ba, .cells (cn .u8 (List.replicate 24 0)) 124) :: O)) (by kernel_rfl) (fun _ => by kernel_rfl) (fun ba => fun ac5 wd5 FF5 MM5 => then_n ?_))
    refine wp_seq (rg_seq FF5 MM5 [o_, u_ 1 (iN (dsz u)), o_] [5, 4, 0, 1, 6] (fun Kt => CallP Tryd.prog 90 [iW u] ((ba, .cells (cn .u8 (List.replicate 24 0)) 124) :: O) (iN (dsz u)) ∧ Kt [(6, iN (dsz u)), (5, pT ba), (4, sB []), (0, iW u), (1, iN 10)] ((ba, .cells (cn .u8 (List.replicate 24 0)) 124) :: O)) (by kernel_rfl) (fun _ => by kernel_rfl) (⟨⟨en_ndig, fun w Hw => ndig_any O hD hT u h0 hu w (Has.tl Hw)⟩, fun ac6 wd6 FF6 MM6 => then_n ?_⟩))
    refine wp_seq (rg_seq FF6 MM6 [o_, o_, o_, c_ (.tuple #[]) [(0, .cells (cn .u8 (decK (dsz u) u ++ List.replicate (24 - (dsz u)) 0)) 124)]] [6, 5, 4, 0, 1] (fun Kt => 0 ≤ (dsz u) ∧ (dsz u) ≤ 24 ∧ 0 < 24 ∧ CallU Tryd.prog 91 [.slice (some ⟨ba, 0, none⟩) (dsz u) 24, iW u] ((ba, .cells (cn .u8 (List.replicate 24 0)) 124) :: O) (.tuple #[]) [(0, .cells (cn .u8 (decK (dsz u) u ++ List.replicate (24 - (dsz u)) 0)) 124)] ∧ Kt [(6, iN (dsz u)), (5, pT ba), (4, sB []), (0, iW u), (1, iN 10)] ((ba, .cells (cn .u8 (decK (dsz u) u ++ List.replicate (24 - (dsz u)) 0)) 124) :: O)) (by kernel_rfl) (fun _ => by kernel_rfl) (⟨(by omega), (by omega), (by decide), (fmt10_U (dsz u) u hn24 hu10 hu ba 0 _ rfl), fun ac7 wd7 FF7 MM7 => then_n ?_⟩))
    refine wp_seq (rg_seq FF7 MM7 [o_, o_, l_ 0 (sB (decN u)), o_] [6, 5, 4, 0, 1] (fun Kt => 0 ≤ (dsz u) ∧ (dsz u) ≤ 24 ∧ 0 < 24 ∧ ba = ba ∧ StrAt (cn .u8 (decK (dsz u) u ++ List.replicate (24 - (dsz u)) 0)) 0 (dsz u) (bs (decN u)) ∧ Kt [(4, sB (decN u)), (6, iN (dsz u)), (5, pT ba), (0, iW u), (1, iN 10)] ((ba, .cells (cn .u8 (decK (dsz u) u ++ List.replicate (24 - (dsz u)) 0)) 124) :: O)) (by kernel_rfl) (fun _ => by kernel_rfl) (⟨(by omega), (by omega), (by decide), rfl, (by have h5 := str_part (len := dsz u) (off := 0) (dec24 (u := u) hn24) (dec24_lt (dsz u) u (24 - dsz u)) (by omega); rw [dec24_take] at h5; rw [decN_K h0]; exact h5), fun ac8 wd8 FF8 MM8 => then_n ?_⟩))
    refine wp_ret ?_
    repeat first | refine then_ret ?_ | refine inb_ret ?_
    exact (ret_fr FF8 0 Tryd.results81 rfl ⟨rfl, MM8.belowN H (fun _ hx => List.mem_cons_of_mem _ (hx))⟩)
set_option maxRecDepth 100000 in
theorem fmtu_O (O : Blks) (hD : Distinct O) (hT : TabO O) (u : Nat) (hu : u < 18446744073709551616) (w0 : World) (H : Has w0 O) :
    Calls Tryd.prog 73 #[iW u, iN 10] w0 fun e w' => e = .returned (sB (decN u)) ∧ Below w0.heap.size w0 w' := by
  refine enter_fr Tryd.func73 rfl Tryd.ntmps73 (by simp) fun ac (FF : Fr 8 ac [(0, iW u), (1, iN 10)]) => ?_
  have MM : MemS (fun k => k < w0.heap.size ∧ ∀ x ∈ O, x.1 ≠ k) w0 w0 O [] := MemS.startN H hD
  refine wp_seq (rg_seq FF MM [o_] [0, 1, 4] (fun Kt => Kt [(4, sB []), (0, iW u), (1, iN 10)] O) (by kernel_rfl) (fun _ => by kernel_rfl) (fun ac1 wd1 FF1 MM1 => then_n ?_))
  refine wp_seq (rg_seq FF1 MM1 [o_, o_, u_ 1 (sB (decN u)), o_] [4] (fun Kt => CallP Tryd.prog 81 [iW u, iN 10] O (sB (decN u)) ∧ Kt [(4, sB (decN u))] O) (by kernel_rfl) (fun _ => by kernel_rfl) (⟨⟨en_ifmt, fun w Hw => ifmt_any O hD hT u hu w Hw⟩, fun ac2 wd2 FF2 MM2 => then_n ?_⟩))
  refine wp_ret ?_
  repeat first | refine then_ret ?_ | refine inb_ret ?_
  exact (ret_fr FF2 0 Tryd.results73 rfl ⟨rfl, MM2.belowN H (fun _ hx => hx)⟩)
theorem fmtu_any (u : Nat) (hu : u < 18446744073709551616) (w : World) (hT : TabIn w) : Calls Tryd.prog 73 #[iW u, iN 10] w fun e w' => e = .returned (sB (decN u)) ∧ Below w.heap.size w w' := by
  obtain ⟨O, h1, h2, h3⟩ := tab_O hT
  exact fmtu_O O (distinct_of h2) h3 u hu w h1
end Go.Proofs.YtlljedijldkcbaaDoor
namespace Go.Proofs.YtlljedijldkcbaaDoor
open Go.RowKit
def zs64 : List Nat := List.replicate 64 48
def sp128 : List Nat := List.replicate 128 32
def ds128 : List Nat := List.replicate 128 45
theorem zs_take {k : Nat} (h : k ≤ 19) : (zs64.take k).drop 0 = List.replicate k 48 := by rw [List.drop_zero, zs64, List.take_replicate, Nat.min_eq_left (by omega)]
theorem rep48_lt (k : Nat) : ∀ i, (List.replicate k 48).getD i 0 < 256 := fun i => by rw [List.getD_eq_getElem?_getD, List.getElem?_replicate]; split <;> decide
theorem bs_ne {A B : List Nat} (h : (bs A).data ≠ (bs B).data) : ¬ bs A = bs B := fun e => h (by rw [e])
set_option maxRecDepth 100000 in
theorem lhasp_zs64  (w0 : World) :
    Calls Tryd.prog 94 #[sB zs64, sB [48]] w0 fun e w' => e = .returned (.bool true) ∧ Below w0.heap.size w0 w' := by
  refine enter_fr Tryd.func94 rfl Tryd.ntmps94 (by simp) fun ac (FF : Fr 18 ac [(0, sB zs64), (1, sB [48])]) => ?_
  have MM := MemS.start w0
  refine wp_seq (rg_seq FF MM [o_] [0, 1, 4] (fun Kt => Kt [(4, .bool false), (0, sB zs64), (1, sB [48])] []) (by kernel_rfl) (fun _ => by kernel_rfl) (fun ac1 wd1 FF1 MM1 => then_n ?_))
  refine wp_seq (rg_seq FF1 MM1 [o_, t_ (iN 64), o_, t_ (iN 1), w_ 2, o_, o_, o_, t_ (iN 1), t_ (sB [48]), o_, w_ 2, o_, o_] [4] (fun Kt => iN ((bs zs64).size) = iN 64 ∧ iN ((bs [48]).size) = iN 1 ∧ 64 ≥ 1 ∧ iN ((bs [48]).size) = iN 1 ∧ 0 ≤ 1 ∧ 1 ≤ (bs zs64).size ∧ Value.string ((bs zs64).extract 0 1) = sB [48] ∧ bs [48] = bs [48] ∧ Kt [(4, .bool true)] []) (by kernel_rfl) (fun _ => by kernel_rfl) (⟨(vI ((bs_size _).trans rfl)), (vI ((bs_size _).trans rfl)), (by decide), (vI ((bs_size _).trans rfl)), (Nat.zero_le _), (by rw [bs_size, show zs64.length = 64 from (by kernel_rfl)]; omega), (vS2 ((bs_extract _ _ _).trans (congrArg bs (by kernel_rfl)))), rfl, fun ac2 wd2 FF2 MM2 => then_n ?_⟩))
  refine wp_ret ?_
  repeat first | refine then_ret ?_ | refine inb_ret ?_
  exact (ret_fr FF2 0 Tryd.results94 rfl ⟨rfl, MM2.below⟩)
set_option maxRecDepth 100000 in
theorem lhasp_sp128  (w0 : World) :
    Calls Tryd.prog 94 #[sB sp128, sB [48]] w0 fun e w' => e = .returned (.bool false) ∧ Below w0.heap.size w0 w' := by
  refine enter_fr Tryd.func94 rfl Tryd.ntmps94 (by simp) fun ac (FF : Fr 18 ac [(0, sB sp128), (1, sB [48])]) => ?_
  have MM := MemS.start w0
  refine wp_seq (rg_seq FF MM [o_] [0, 1, 4] (fun Kt => Kt [(4, .bool false), (0, sB sp128), (1, sB [48])] []) (by kernel_rfl) (fun _ => by kernel_rfl) (fun ac1 wd1 FF1 MM1 => then_n ?_))
  refine wp_seq (rg_seq FF1 MM1 [o_, t_ (iN 128), o_, t_ (iN 1), w_ 2, o_, o_, o_, t_ (iN 1), t_ (sB [32]), o_, w_ 3, o_, o_] [4] (fun Kt => iN ((bs sp128).size) = iN 128 ∧ iN ((bs [48]).size) = iN 1 ∧ 128 ≥ 1 ∧ iN ((bs [48]).size) = iN 1 ∧ 0 ≤ 1 ∧ 1 ≤ (bs sp128).size ∧ Value.string ((bs sp128).extract 0 1) = sB [32] ∧ ¬ (bs [32] = bs [48]) ∧ Kt [(4, .bool false)] []) (by kernel_rfl) (fun _ => by kernel_rfl) (⟨(vI ((bs_size _).trans rfl)), (vI ((bs_size _).trans rfl)), (by decide), (vI ((bs_size _).trans rfl)), (Nat.zero_le _), (by rw [bs_size, show sp128.length = 128 from (by kernel_rfl)]; omega), (vS2 ((bs_extract _ _ _).trans (congrArg bs (by kernel_rfl)))), (bs_ne (by decide)), fun ac2 wd2 FF2 MM2 => then_n ?_⟩))
  refine wp_ret ?_
  repeat first | refine then_ret ?_ | refine inb_ret ?_
  exact (ret_fr FF2 0 Tryd.results94 rfl ⟨rfl, MM2.below⟩)
set_option maxRecDepth 100000 in
theorem lhasp_ds128  (w0 : World) :
    Calls Tryd.prog 94 #[sB ds128, sB [48]] w0 fun e w' => e = .returned (.bool false) ∧ Below w0.heap.size w0 w' := by
  refine enter_fr Tryd.func94 rfl Tryd.ntmps94 (by simp) fun ac (FF : Fr 18 ac [(0, sB ds128), (1, sB [48])]) => ?_
  have MM := MemS.start w0
  refine wp_seq (rg_seq FF MM [o_] [0, 1, 4] (fun Kt => Kt [(4, .bool false), (0, sB ds128), (1, sB [48])] []) (by kernel_rfl) (fun _ => by kernel_rfl) (fun ac1 wd1 FF1 MM1 => then_n ?_))
  refine wp_seq (rg_seq FF1 MM1 [o_, t_ (iN 128), o_, t_ (iN 1), w_ 2, o_, o_, o_, t_ (iN 1), t_ (sB [45]), o_, w_ 3, o_, o_] [4] (fun Kt => iN ((bs ds128).size) = iN 128 ∧ iN ((bs [48]).size) = iN 1 ∧ 128 ≥ 1 ∧ iN ((bs [48]).size) = iN 1 ∧ 0 ≤ 1 ∧ 1 ≤ (bs ds128).size ∧ Value.string ((bs ds128).extract 0 1) = sB [45] ∧ ¬ (bs [45] = bs [48]) ∧ Kt [(4, .bool false)] []) (by kernel_rfl) (fun _ => by kernel_rfl) (⟨(vI ((bs_size _).trans rfl)), (vI ((bs_size _).trans rfl)), (by decide), (vI ((bs_size _).trans rfl)), (Nat.zero_le _), (by rw [bs_size, show ds128.length = 128 from (by kernel_rfl)]; omega), (vS2 ((bs_extract _ _ _).trans (congrArg bs (by kernel_rfl)))), (bs_ne (by decide)), fun ac2 wd2 FF2 MM2 => then_n ?_⟩))
  refine wp_ret ?_
  repeat first | refine then_ret ?_ | refine inb_ret ?_
  exact (ret_fr FF2 0 Tryd.results94 rfl ⟨rfl, MM2.below⟩)
set_option maxRecDepth 100000 in
theorem hasp_zs64  (w0 : World) :
    Calls Tryd.prog 83 #[sB zs64, sB [48]] w0 fun e w' => e = .returned (.bool true) ∧ Below w0.heap.size w0 w' := by
  refine enter_fr Tryd.func83 rfl Tryd.ntmps83 (by simp) fun ac (FF : Fr 8 ac [(0, sB zs64), (1, sB [48])]) => ?_
  have MM := MemS.start w0
  refine wp_seq (rg_seq FF MM [o_] [0, 1, 4] (fun Kt => Kt [(4, .bool false), (0, sB zs64), (1, sB [48])] []) (by kernel_rfl) (fun _ => by kernel_rfl) (fun ac1 wd1 FF1 MM1 => then_n ?_))
  refine wp_seq (rg_seq FF1 MM1 [o_, o_, t_ (.bool true), o_] [4] (fun Kt => CallP Tryd.prog 94 [sB zs64, sB [48]] [] (.bool true) ∧ Kt [(4, .bool true)] []) (by kernel_rfl) (fun _ => by kernel_rfl) (⟨(callP_of en_lhasp lhasp_zs64 _), fun ac2 wd2 FF2 MM2 => then_n ?_⟩))
  refine wp_ret ?_
  repeat first | refine then_ret ?_ | refine inb_ret ?_
  exact (ret_fr FF2 0 Tryd.results83 rfl ⟨rfl, MM2.below⟩)
set_option maxRecDepth 100000 in
theorem hasp_sp128  (w0 : World) :
    Calls Tryd.prog 83 #[sB sp128, sB [48]] w0 fun e w' => e = .returned (.bool false) ∧ Below w0.heap.size w0 w' := by
  refine enter_fr Tryd.func83 rfl Tryd.ntmps83 (by simp) fun ac (FF : Fr 8 ac [(0, sB sp128), (1, sB [48])]) => ?_
  have MM := MemS.start w0
  refine wp_seq (rg_seq FF MM [o_] [0, 1, 4] (fun Kt => Kt [(4, .bool false), (0, sB sp128), (1, sB [48])] []) (by kernel_rfl) (fun _ => by kernel_rfl) (fun ac1 wd1 FF1 MM1 => then_n ?_))
  refine wp_seq (rg_seq FF1 MM1 [o_, o_, t_ (.bool false), o_] [4] (fun Kt => CallP Tryd.prog 94 [sB sp128, sB [48]] [] (.bool false) ∧ Kt [(4, .bool false)] []) (by kernel_rfl) (fun _ => by kernel_rfl) (⟨(callP_of en_lhasp lhasp_sp128 _), fun ac2 wd2 FF2 MM2 => then_n ?_⟩))
  refine wp_ret ?_
  repeat first | refine then_ret ?_ | refine inb_ret ?_
  exact (ret_fr FF2 0 Tryd.results83 rfl ⟨rfl, MM2.below⟩)
set_option maxRecDepth 100000 in
theorem hasp_ds128  (w0 : World) :
    Calls Tryd.prog 83 #[sB ds128, sB [48]] w0 fun e w' => e = .returned (.bool false) ∧ Below w0.heap.size w0 w' := by
  refine enter_fr Tryd.func83 rfl Tryd.ntmps83 (by simp) fun ac (FF : Fr 8 ac [(0, sB ds128), (1, sB [48])]) => ?_
  have MM := MemS.start w0
  refine wp_seq (rg_seq FF MM [o_] [0, 1, 4] (fun Kt => Kt [(4, .bool false), (0, sB ds128), (1, sB [48])] []) (by kernel_rfl) (fun _ => by kernel_rfl) (fun ac1 wd1 FF1 MM1 => then_n ?_))
  refine wp_seq (rg_seq FF1 MM1 [o_, o_, t_ (.bool false), o_] [4] (fun Kt => CallP Tryd.prog 94 [sB ds128, sB [48]] [] (.bool false) ∧ Kt [(4, .bool false)] []) (by kernel_rfl) (fun _ => by kernel_rfl) (⟨(callP_of en_lhasp lhasp_ds128 _), fun ac2 wd2 FF2 MM2 => then_n ?_⟩))
  refine wp_ret ?_
  repeat first | refine then_ret ?_ | refine inb_ret ?_
  exact (ret_fr FF2 0 Tryd.results83 rfl ⟨rfl, MM2.below⟩)
set_option maxRecDepth 100000 in
theorem repeat_any (k : Nat) (hk : k ≤ 19) (w0 : World) :
    Calls Tryd.prog 74 #[sB [48], iN k] w0 fun e w' => e = .returned (sB (List.replicate k 48)) ∧ Below w0.heap.size w0 w' := by
  refine enter_fr Tryd.func74 rfl Tryd.ntmps74 (by simp) fun ac (FF : Fr 125 ac [(0, sB [48]), (1, iN k)]) => ?_
  have MM := MemS.start w0
  refine wp_seq (rg_seq FF MM [o_] [0, 1, 4] (fun Kt => Kt [(4, sB []), (0, sB [48]), (1, iN k)] []) (by kernel_rfl) (fun _ => by kernel_rfl) (fun ac1 wd1 FF1 MM1 => then_n ?_))
  refine wp_seq ?_
  refine wp_seq (rg_seq FF1 MM1 [o_] [4, 0, 1, 11] (fun Kt => Kt [(11, iN k), (4, sB []), (0, sB [48]), (1, iN k)] []) (by kernel_rfl) (fun _ => by kernel_rfl) (fun ac2 wd2 FF2 MM2 => then_n ?_))
  refine wp_block ?_
  refine wp_seq (rg_seq FF2 MM2 [o_, o_] [11, 4, 0, 1, 12] (fun Kt => Kt [(12, .bool (decide (k = 0))), (11, iN k), (4, sB []), (0, sB [48]), (1, iN k)] []) (by kernel_rfl) (fun _ => by kernel_rfl) (fun ac3 wd3 FF3 MM3 => then_n ?_))
  by_cases hs12 : k = 0
  · refine wp_cond_true ((FF3.ev 0 rfl).trans (dec_t hs12)) ?_
    refine wp_seq (rg_seq FF3 MM3 [t_ (sB (List.replicate k 48))] [11, 4, 0, 1] (fun Kt => sB [] = sB (List.replicate k 48) ∧ Kt [(4, sB (List.replicate k 48)), (11, iN k), (0, sB [48]), (1, iN k)] []) (by kernel_rfl) (fun _ => by kernel_rfl) (⟨(vS (by rw [hs12]; rfl)), fun ac4 wd4 FF4 MM4 => then_n ?_⟩))
    refine wp_ret ?_
    repeat first | refine then_ret ?_ | refine inb_ret ?_
    exact (ret_fr FF4 0 Tryd.results74 rfl ⟨rfl, MM4.below⟩)
  · refine wp_cond_false ((FF3.ev 0 rfl).trans (dec_f hs12)) ?_
    refine wp_seq (rg_seq FF3 MM3 [o_, o_] [11, 4, 0, 1, 14] (fun Kt => Kt [(14, .bool (decide (k = 1))), (11, iN k), (4, sB []), (0, sB [48]), (1, iN k)] []) (by kernel_rfl) (fun _ => by kernel_rfl) (fun ac5 wd5 FF5 MM5 => then_n ?_))
    by_cases hs14 : k = 1
    · refine wp_cond_true ((FF5.ev 0 rfl).trans (dec_t hs14)) ?_
      refine wp_seq (rg_seq FF5 MM5 [o_, t_ (sB (List.replicate k 48))] [11, 4, 0, 1] (fun Kt => sB [48] = sB (List.replicate k 48) ∧ Kt [(4, sB (List.replicate k 48)), (11, iN k), (0, sB [48]), (1, iN k)] []) (by kernel_rfl) (fun _ => by kernel_rfl) (⟨(vS (by rw [hs14]; rfl)), fun ac6 wd6 FF6 MM6 => then_n ?_⟩))
      refine wp_ret ?_
      repeat first | refine then_ret ?_ | refine inb_ret ?_
      exact (ret_fr FF6 0 Tryd.results74 rfl ⟨rfl, MM6.below⟩)
    · refine wp_cond_false ((FF5.ev 0 rfl).trans (dec_f hs14)) ?_
      refine wp_skip ?_
      refine inb_n ?_
      refine then_n ?_
      refine wp_seq ?_
      refine wp_seq (rg_seq FF5 MM5 [o_, w_ 3] [11, 4, 0, 1, 18] (fun Kt => ¬ (k < 0) ∧ Kt [(18, .bool false), (11, iN k), (4, sB []), (0, sB [48]), (1, iN k)] []) (by kernel_rfl) (fun _ => by kernel_rfl) (⟨(by omega), fun ac7 wd7 FF7 MM7 => then_n ?_⟩))
      refine wp_cond_false (FF7.ev 0 rfl) ?_
      refine wp_skip ?_
      refine then_n ?_
      refine wp_seq (rg_seq FF7 MM7 [o_, t_ (iN 1), o_, o_, w_ 1, t_ (.tuple #[iW (1 * k / 18446744073709551616), iW (1 * k % 18446744073709551616)]), o_, t_ (iW 0), t_ (iW k), o_, o_] [11, 4, 0, 1, 5, 6] (fun Kt => iN ((bs [48]).size) = iN 1 ∧ k < 18446744073709551616 ∧ CallP Tryd.prog 82 [iW 1, iW k] [] (.tuple #[iW (1 * k / 18446744073709551616), iW (1 * k % 18446744073709551616)]) ∧ iW (1 * k / 18446744073709551616) = iW 0 ∧ iW (1 * k % 18446744073709551616) = iW k ∧ Kt [(6, iW k), (5, iW 0), (11, iN k), (4, sB []), (0, sB [48]), (1, iN k)] []) (by kernel_rfl) (fun _ => by kernel_rfl) (⟨(vI ((bs_size _).trans rfl)), (by have := hk; omega), (callP_of en_bmul (bmul_any 1 k (by decide) (by omega)) _), (vI (by omega)), (vI (by omega)), fun ac8 wd8 FF8 MM8 => then_n ?_⟩))
      refine wp_seq ?_
      refine wp_seq (rg_seq FF8 MM8 [o_, w_ 3, o_, o_, w_ 3, o_] [6, 11, 4, 0, 1, 34] (fun Kt => ¬ (0 > 0) ∧ ¬ (k > 9223372036854775807) ∧ Kt [(34, .bool false), (6, iW k), (11, iN k), (4, sB []), (0, sB [48]), (1, iN k)] []) (by kernel_rfl) (fun _ => by kernel_rfl) (⟨(by decide), (by omega), fun ac9 wd9 FF9 MM9 => then_n ?_⟩))
      refine wp_cond_false (FF9.ev 0 rfl) ?_
      refine wp_skip ?_
      refine then_n ?_
      refine wp_seq (rg_seq FF9 MM9 [o_, w_ 1, o_] [6, 11, 4, 0, 1, 7] (fun Kt => k < 9223372036854775808 ∧ Kt [(7, iN k), (6, iW k), (11, iN k), (4, sB []), (0, sB [48]), (1, iN k)] []) (by kernel_rfl) (fun _ => by kernel_rfl) (⟨(by have := hk; omega), fun ac10 wd10 FF10 MM10 => then_n ?_⟩))
      refine wp_seq ?_
      refine wp_seq (rg_seq FF10 MM10 [o_, t_ (iN 1), w_ 3] [7, 6, 11, 4, 0, 1, 40] (fun Kt => iN ((bs [48]).size) = iN 1 ∧ ¬ (1 = 0) ∧ Kt [(40, .bool false), (7, iN k), (6, iW k), (11, iN k), (4, sB []), (0, sB [48]), (1, iN k)] []) (by kernel_rfl) (fun _ => by kernel_rfl) (⟨(vI ((bs_size _).trans rfl)), (by decide), fun ac11 wd11 FF11 MM11 => then_n ?_⟩))
      refine wp_cond_false (FF11.ev 0 rfl) ?_
      refine wp_skip ?_
      refine then_n ?_
      refine wp_seq ?_
      refine wp_seq (rg_seq FF11 MM11 [o_, t_ (iB 48)] [7, 6, 11, 4, 0, 1, 42] (fun Kt => 0 < (bs [48]).size ∧ (nl (bs [48])).getD 0 0 = 48 ∧ Kt [(42, iB 48), (7, iN k), (6, iW k), (11, iN k), (4, sB []), (0, sB [48]), (1, iN k)] []) (by kernel_rfl) (fun _ => by kernel_rfl) (⟨(by decide), rfl, fun ac12 wd12 FF12 MM12 => then_n ?_⟩))
      refine wp_block ?_
      refine wp_seq ?_
      refine wp_seq (rg_seq FF12 MM12 [w_ 3, o_] [42, 7, 6, 11, 4, 0, 1, 43] (fun Kt => ¬ (48 = 32) ∧ Kt [(43, .bool false), (42, iB 48), (7, iN k), (6, iW k), (11, iN k), (4, sB []), (0, sB [48]), (1, iN k)] []) (by kernel_rfl) (fun _ => by kernel_rfl) (⟨(by decide), fun ac13 wd13 FF13 MM13 => then_n ?_⟩))
      refine wp_cond_false (FF13.ev 0 rfl) ?_
      refine wp_seq (rg_seq FF13 MM13 [w_ 3, o_] [43, 42, 7, 6, 11, 4, 0, 1] (fun Kt => ¬ (48 = 45) ∧ Kt [(43, .bool false), (42, iB 48), (7, iN k), (6, iW k), (11, iN k), (4, sB []), (0, sB [48]), (1, iN k)] []) (by kernel_rfl) (fun _ => by kernel_rfl) (⟨(by decide), fun ac14 wd14 FF14 MM14 => then_n ?_⟩))
      refine wp_cond_false (FF14.ev 0 rfl) ?_
      refine wp_seq (rg_seq FF14 MM14 [w_ 2, o_] [43, 42, 7, 6, 11, 4, 0, 1] (fun Kt => 48 = 48 ∧ Kt [(43, .bool true), (42, iB 48), (7, iN k), (6, iW k), (11, iN k), (4, sB []), (0, sB [48]), (1, iN k)] []) (by kernel_rfl) (fun _ => by kernel_rfl) (⟨(by decide), fun ac15 wd15 FF15 MM15 => then_n ?_⟩))
      refine wp_cond_true (FF15.ev 0 rfl) ?_
      refine wp_skip ?_
      refine then_n ?_
      refine wp_cond_true (FF15.ev 0 rfl) ?_
      refine wp_block ?_
      refine wp_seq (rg_seq FF15 MM15 [o_, w_ 2, o_, o_, t_ (.bool false), o_, o_] [42, 7, 6, 11, 4, 0, 1, 49] (fun Kt => k ≤ 128 ∧ CallP Tryd.prog 83 [sB sp128, sB [48]] [] (.bool false) ∧ Kt [(49, .bool false), (42, iB 48), (7, iN k), (6, iW k), (11, iN k), (4, sB []), (0, sB [48]), (1, iN k)] []) (by kernel_rfl) (fun _ => by kernel_rfl) (⟨(by omega), (callP_of en_hasp hasp_sp128 _), fun ac16 wd16 FF16 MM16 => then_n ?_⟩))
      refine wp_cond_false (FF16.ev 0 rfl) ?_
      refine wp_seq (rg_seq FF16 MM16 [o_, w_ 2, o_, o_, t_ (.bool false), o_, o_] [42, 7, 6, 11, 4, 0, 1, 58] (fun Kt => k ≤ 128 ∧ CallP Tryd.prog 83 [sB ds128, sB [48]] [] (.bool false) ∧ Kt [(58, .bool false), (42, iB 48), (7, iN k), (6, iW k), (11, iN k), (4, sB []), (0, sB [48]), (1, iN k)] []) (by kernel_rfl) (fun _ => by kernel_rfl) (⟨(by omega), (callP_of en_hasp hasp_ds128 _), fun ac17 wd17 FF17 MM17 => then_n ?_⟩))
      refine wp_cond_false (FF17.ev 0 rfl) ?_
      refine wp_seq (rg_seq FF17 MM17 [o_, w_ 2, o_, o_, t_ (.bool true), o_, o_] [42, 7, 6, 11, 4, 0, 1, 67] (fun Kt => k ≤ 64 ∧ CallP Tryd.prog 83 [sB zs64, sB [48]] [] (.bool true) ∧ Kt [(67, .bool true), (42, iB 48), (7, iN k), (6, iW k), (11, iN k), (4, sB []), (0, sB [48]), (1, iN k)] []) (by kernel_rfl) (fun _ => by kernel_rfl) (⟨(by omega), (callP_of en_hasp hasp_zs64 _), fun ac18 wd18 FF18 MM18 => then_n ?_⟩))
      refine wp_cond_true (FF18.ev 0 rfl) ?_
      refine wp_seq (rg_seq FF18 MM18 [o_, t_ (sB (List.replicate k 48)), o_] [42, 7, 6, 11, 4, 0, 1] (fun Kt => 0 ≤ k ∧ k ≤ (bs zs64).size ∧ Value.string ((bs zs64).extract 0 k) = sB (List.replicate k 48) ∧ Kt [(4, sB (List.replicate k 48)), (42, iB 48), (7, iN k), (6, iW k), (11, iN k), (0, sB [48]), (1, iN k)] []) (by kernel_rfl) (fun _ => by kernel_rfl) (⟨(Nat.zero_le _), (by rw [bs_size, show zs64.length = 64 from (by kernel_rfl)]; have := hk; omega), (vS2 ((bs_extract _ _ _).trans (congrArg bs (zs_take hk)))), fun ac19 wd19 FF19 MM19 => then_n ?_⟩))
      refine wp_ret ?_
      repeat first | refine then_ret ?_ | refine inb_ret ?_
      exact (ret_fr FF19 0 Tryd.results74 rfl ⟨rfl, MM19.below⟩)
end Go.Proofs.YtlljedijldkcbaaDoor
namespace Go.Proofs.YtlljedijldkcbaaDoor
open Go.RowKit
theorem en_trimd : Enters Tryd.prog 44 := fun args w => by simp [go_sem]
theorem en_nof : Enters Tryd.prog 30 := fun args w => by simp [go_sem]
theorem en_nbytes : Enters Tryd.prog 22 := fun args w => by simp [go_sem]
theorem en_ntext : Enters Tryd.prog 37 := fun args w => by simp [go_sem]
theorem en_nbits : Enters Tryd.prog 35 := fun args w => by simp [go_sem]
theorem en_ncmp : Enters Tryd.prog 33 := fun args w => by simp [go_sem]
theorem en_nadd : Enters Tryd.prog 31 := fun args w => by simp [go_sem]
theorem en_nmul : Enters Tryd.prog 34 := fun args w => by simp [go_sem]
theorem en_npow : Enters Tryd.prog 60 := fun args w => by simp [go_sem]
theorem en_digs : Enters Tryd.prog 58 := fun args w => by simp [go_sem]
theorem en_clone : Enters Tryd.prog 51 := fun args w => by simp [go_sem]
theorem en_plus : Enters Tryd.prog 49 := fun args w => by simp [go_sem]
theorem en_times : Enters Tryd.prog 54 := fun args w => by simp [go_sem]
theorem en_parted : Enters Tryd.prog 71 := fun args w => by simp [go_sem]
theorem en_addt : Enters Tryd.prog 70 := fun args w => by simp [go_sem]
theorem trim_len {X : List Nat} (hX : ∀ i, X.getD i 0 < 18446744073709551616) {n : Nat} (hn : n ≤ X.length) (h0 : ∀ i, n ≤ i → X.getD i 0 = 0) (h1 : n = 0 ∨ X.getD (n - 1) 0 ≠ 0) : n = qsz (qleV X) := by
  have := congrArg List.length (qtrim_ok hX hn h0 h1)
  rwa [qminB_len, List.length_take, Nat.min_eq_left hn] at this
theorem trim_zero {X : List Nat} {n : Nat} (h : n = qsz (qleV X)) (h0 : n = 0) : qleV X = 0 := by
  have := (qsz_ok (qleV X)).1
  rw [← h, h0] at this
  simpa using this
theorem trim_some {X : List Nat} {n : Nat} (_hX : ∀ i, X.getD i 0 < 18446744073709551616) (h : n = qsz (qleV X)) (h0 : ¬ n = 0) : ¬ qleV X = 0 := fun e => h0 (by rw [h, e]; rfl)
set_option maxRecDepth 100000 in
theorem trimd_O (O : Blks) (hD : Distinct O) (p : Option Addr) (c : Nat) (X : List Nat) (hX : ∀ i, X.getD i 0 < 18446744073709551616) (hc0 : X.length ≤ c) (hl : X.length < 4611686018427387904) (hA : CellsO O p X.length (fun j => iW (X.getD j 0))) (w0 : World) (H : Has w0 O) :
    Calls Tryd.prog 44 #[.slice p X.length c] w0 fun e w' => e = .returned (trimV p (qleV X) c) ∧ Below w0.heap.size w0 w' := by
  refine enter_fr Tryd.func44 rfl Tryd.ntmps44 (by simp) fun ac (FF : Fr 23 ac [(0, .slice p X.length c)]) => ?_
  have MM : MemS (fun k => k < w0.heap.size ∧ ∀ x ∈ O, x.1 ≠ k) w0 w0 O [] := MemS.startN H hD
  refine wp_seq (rg_seq FF MM [o_] [0, 2] (fun Kt => Kt [(2, .slice none 0 0), (0, .slice p X.length c)] O) (by kernel_rfl) (fun _ => by kernel_rfl) (fun ac1 wd1 FF1 MM1 => then_n ?_))
  refine wp_seq (rg_seq FF1 MM1 [o_, o_, o_] [2, 0, 3] (fun Kt => Kt [(3, iN X.length), (2, .slice none 0 0), (0, .slice p X.length c)] O) (by kernel_rfl) (fun _ => by kernel_rfl) (fun ac2 wd2 FF2 MM2 => then_n ?_))
  refine wp_seq ?_
  refine wp_for2w (fun a' w' => ∃ n : Nat, n ≤ X.length ∧ (∀ i, n ≤ i → X.getD i 0 = 0) ∧ Fr 23 a' [(3, iN n), (2, .slice none 0 0), (0, .slice p X.length c)] ∧ MemS (fun k => k < w0.heap.size ∧ ∀ x ∈ O, x.1 ≠ k) w0 w' O []) (fun a' _ => (cnt 3 a').toNat) ⟨X.length, Nat.le_refl _, (fun _ h => getD_out h), FF2.pick [0, 1, 2], MM2⟩ ?_
  rintro ac3 wd3 ⟨n, hn, h0, FF3, MM3⟩
  have hc := cnt_of (FF3.get 0 rfl)
  by_cases h1 : n > 0
  · by_cases h2 : X.getD (n - 1) 0 = 0
    · skip
      refine rg_seq FF3 MM3 [o_, w_ 2, o_, o_, o_, o_, f_ (.pointer (some ⟨gOf p, n - 1, none⟩)), f_ (iW (X.getD (n - 1) 0)), w_ 2, o_] [3, 2, 0, 15] (fun Kt => n > 0 ∧ 1 ≤ n ∧ n - 1 < 9223372036854775808 ∧ RunV Tryd.prog [(11, iN (n - 1)), (10, iN n), (9, .slice p X.length c), (8, .bool true), (7, .bool true), (6, iN n), (3, iN n), (2, .slice none 0 0), (0, .slice p X.length c)] O (opAt Tryd.f44 2 6) (.pointer (some ⟨gOf p, n - 1, none⟩)) ∧ RunV Tryd.prog [(12, .pointer (some ⟨gOf p, n - 1, none⟩)), (11, iN (n - 1)), (10, iN n), (9, .slice p X.length c), (8, .bool true), (7, .bool true), (6, iN n), (3, iN n), (2, .slice none 0 0), (0, .slice p X.length c)] O (opAt Tryd.f44 2 7) (iW (X.getD (n - 1) 0)) ∧ (X.getD (n - 1) 0) = 0 ∧ Kt [(15, .bool true), (3, iN n), (2, .slice none 0 0), (0, .slice p X.length c)] O) (by kernel_rfl) (fun _ => by kernel_rfl) (⟨(by omega), (by omega), (by omega), (rowAddr_ok (x := (.tmp 9)) (y := (.tmp 11)) (by kernel_rfl) rfl rfl Tryd.underlying35 (by kernel_rfl) hA (by omega)), (rowLoad_ok (x := (.tmp 12)) (i := n - 1) (by kernel_rfl) rfl Tryd.underlying61 rfl hA (fun _ hx => hx) (by omega)), h2, fun ac4 wd4 FF4 MM4 => ?_⟩)
      refine then_n (.inl ⟨FF4.ev 0 rfl, ?_⟩)
      refine rg_seq FF4 MM4 [o_, o_, o_] [3, 2, 0] (fun Kt => 1 ≤ n ∧ n - 1 < 9223372036854775808 ∧ Kt [(3, iN (n - 1)), (2, .slice none 0 0), (0, .slice p X.length c)] O) (by kernel_rfl) (fun _ => by kernel_rfl) (⟨(by omega), (by omega), fun ac5 wd5 FF5 MM5 => ?_⟩)
      refine inb_n ?_
      have hd := cnt_of (FF5.get 0 rfl)
      refine then_n ⟨⟨n - 1, by omega, fun i hi => (Nat.eq_or_lt_of_le hi).elim (fun e => e ▸ h2) (fun h => h0 i (by omega)), FF5.pick [0, 1, 2], MM5⟩, ?_⟩
      rw [hc, hd]; omega
    · skip
      refine rg_seq FF3 MM3 [o_, w_ 2, o_, o_, o_, o_, f_ (.pointer (some ⟨gOf p, n - 1, none⟩)), f_ (iW (X.getD (n - 1) 0)), w_ 3, o_] [3, 2, 0, 15] (fun Kt => n > 0 ∧ 1 ≤ n ∧ n - 1 < 9223372036854775808 ∧ RunV Tryd.prog [(11, iN (n - 1)), (10, iN n), (9, .slice p X.length c), (8, .bool true), (7, .bool true), (6, iN n), (3, iN n), (2, .slice none 0 0), (0, .slice p X.length c)] O (opAt Tryd.f44 2 6) (.pointer (some ⟨gOf p, n - 1, none⟩)) ∧ RunV Tryd.prog [(12, .pointer (some ⟨gOf p, n - 1, none⟩)), (11, iN (n - 1)), (10, iN n), (9, .slice p X.length c), (8, .bool true), (7, .bool true), (6, iN n), (3, iN n), (2, .slice none 0 0), (0, .slice p X.length c)] O (opAt Tryd.f44 2 7) (iW (X.getD (n - 1) 0)) ∧ ¬ ((X.getD (n - 1) 0) = 0) ∧ Kt [(15, .bool false), (3, iN n), (2, .slice none 0 0), (0, .slice p X.length c)] O) (by kernel_rfl) (fun _ => by kernel_rfl) (⟨(by omega), (by omega), (by omega), (rowAddr_ok (x := (.tmp 9)) (y := (.tmp 11)) (by kernel_rfl) rfl rfl Tryd.underlying35 (by kernel_rfl) hA (by omega)), (rowLoad_ok (x := (.tmp 12)) (i := n - 1) (by kernel_rfl) rfl Tryd.underlying61 rfl hA (fun _ hx => hx) (by omega)), h2, fun ac6 wd6 FF6 MM6 => ?_⟩)
      refine then_n (.inr ⟨FF6.ev 0 rfl, ?_⟩)
      have hz := trim_len hX hn h0 (by first | exact .inl (by omega) | exact .inr h2)
      refine then_n ?_
      refine wp_seq ?_
      refine wp_seq (rg_seq FF6 MM6 [o_, o_] [3, 2, 0, 19] (fun Kt => Kt [(19, .bool (decide (n = 0))), (3, iN n), (2, .slice none 0 0), (0, .slice p X.length c)] O) (by kernel_rfl) (fun _ => by kernel_rfl) (fun ac7 wd7 FF7 MM7 => then_n ?_))
      by_cases hs19 : n = 0
      · refine wp_cond_true ((FF7.ev 0 rfl).trans (dec_t hs19)) ?_
        have hN := trim_zero hz hs19
        refine wp_seq (rg_seq FF7 MM7 [o_] [3, 2, 0] (fun Kt => Kt [(2, .slice none 0 0), (3, iN n), (0, .slice p X.length c)] O) (by kernel_rfl) (fun _ => by kernel_rfl) (fun ac8 wd8 FF8 MM8 => then_n ?_))
        refine wp_ret ?_
        repeat first | refine then_ret ?_ | refine inb_ret ?_
        exact (ret_fr FF8 0 Tryd.results44 rfl ⟨congrArg Ending.returned (by rw [trimV_zero _ _ hN]), MM8.belowN H (fun _ hx => hx)⟩)
      · refine wp_cond_false ((FF7.ev 0 rfl).trans (dec_f hs19)) ?_
        have hN := trim_some hX hz hs19
        refine wp_skip ?_
        refine then_n ?_
        refine wp_seq (rg_seq FF7 MM7 [o_, o_, f_ (.slice p n c), o_] [3, 2, 0] (fun Kt => RunV Tryd.prog [(21, iN n), (20, .slice p X.length c), (19, .bool (decide (n = 0))), (3, iN n), (2, .slice none 0 0), (0, .slice p X.length c)] O (opAt Tryd.f44 6 2) (.slice p n c) ∧ Kt [(2, .slice p n c), (3, iN n), (0, .slice p X.length c)] O) (by kernel_rfl) (fun _ => by kernel_rfl) (⟨(sliceTo_ok (x := .tmp 20) (y := .tmp 21) (by kernel_rfl) rfl rfl Tryd.underlying35 (by kernel_rfl) hA (by omega) hn hc0), fun ac9 wd9 FF9 MM9 => then_n ?_⟩))
        refine wp_ret ?_
        repeat first | refine then_ret ?_ | refine inb_ret ?_
        exact (ret_fr FF9 0 Tryd.results44 rfl ⟨congrArg Ending.returned (by rw [trimV_pos _ _ hN, hz]), MM9.belowN H (fun _ hx => hx)⟩)
  · skip
    refine rg_seq FF3 MM3 [o_, w_ 3, o_, o_, o_, o_, o_, o_, o_, o_] [3, 2, 0, 15] (fun Kt => ¬ (n > 0) ∧ Kt [(15, .bool false), (3, iN n), (2, .slice none 0 0), (0, .slice p X.length c)] O) (by kernel_rfl) (fun _ => by kernel_rfl) (⟨(by omega), fun ac10 wd10 FF10 MM10 => ?_⟩)
    refine then_n (.inr ⟨FF10.ev 0 rfl, ?_⟩)
    have hz := trim_len hX hn h0 (by first | exact .inl (by omega) | exact .inr h2)
    refine then_n ?_
    refine wp_seq ?_
    refine wp_seq (rg_seq FF10 MM10 [o_, o_] [3, 2, 0, 19] (fun Kt => Kt [(19, .bool (decide (n = 0))), (3, iN n), (2, .slice none 0 0), (0, .slice p X.length c)] O) (by kernel_rfl) (fun _ => by kernel_rfl) (fun ac11 wd11 FF11 MM11 => then_n ?_))
    by_cases hs19 : n = 0
    · refine wp_cond_true ((FF11.ev 0 rfl).trans (dec_t hs19)) ?_
      have hN := trim_zero hz hs19
      refine wp_seq (rg_seq FF11 MM11 [o_] [3, 2, 0] (fun Kt => Kt [(2, .slice none 0 0), (3, iN n), (0, .slice p X.length c)] O) (by kernel_rfl) (fun _ => by kernel_rfl) (fun ac12 wd12 FF12 MM12 => then_n ?_))
      refine wp_ret ?_
      repeat first | refine then_ret ?_ | refine inb_ret ?_
      exact (ret_fr FF12 0 Tryd.results44 rfl ⟨congrArg Ending.returned (by rw [trimV_zero _ _ hN]), MM12.belowN H (fun _ hx => hx)⟩)
    · refine wp_cond_false ((FF11.ev 0 rfl).trans (dec_f hs19)) ?_
      have hN := trim_some hX hz hs19
      refine wp_skip ?_
      refine then_n ?_
      refine wp_seq (rg_seq FF11 MM11 [o_, o_, f_ (.slice p n c), o_] [3, 2, 0] (fun Kt => RunV Tryd.prog [(21, iN n), (20, .slice p X.length c), (19, .bool (decide (n = 0))), (3, iN n), (2, .slice none 0 0), (0, .slice p X.length c)] O (opAt Tryd.f44 6 2) (.slice p n c) ∧ Kt [(2, .slice p n c), (3, iN n), (0, .slice p X.length c)] O) (by kernel_rfl) (fun _ => by kernel_rfl) (⟨(sliceTo_ok (x := .tmp 20) (y := .tmp 21) (by kernel_rfl) rfl rfl Tryd.underlying35 (by kernel_rfl) hA (by omega) hn hc0), fun ac13 wd13 FF13 MM13 => then_n ?_⟩))
      refine wp_ret ?_
      repeat first | refine then_ret ?_ | refine inb_ret ?_
      exact (ret_fr FF13 0 Tryd.results44 rfl ⟨congrArg Ending.returned (by rw [trimV_pos _ _ hN, hz]), MM13.belowN H (fun _ hx => hx)⟩)
theorem cells_O {w : World} {p : Option Addr} {n : Nat} {V : Nat → Value} (h : CellsIn w p n V) : ∃ O : Blks, Has w O ∧ Distinct O ∧ CellsO O p n V := by
  rcases h with h | ⟨b, cs, T, fr, h1, h2, h3⟩
  · exact ⟨[], fun i x hx => by simp at hx, trivial, .inl h⟩
  · refine ⟨[(b, .cells cs T fr)], fun i x hx => ?_, ⟨fun y hy => (nomatch hy), trivial⟩, .inr ⟨b, cs, T, fr, h1, by simp, h3⟩⟩
    cases i with
    | zero => simp at hx; subst hx; exact h2
    | succ i => simp at hx
theorem trimd_any (p : Option Addr) (c : Nat) (X : List Nat) (hX : ∀ i, X.getD i 0 < 18446744073709551616) (hc0 : X.length ≤ c) (hl : X.length < 4611686018427387904) (w : World) (hA : CellsIn w p X.length (fun j => iW (X.getD j 0))) :
    Calls Tryd.prog 44 #[.slice p X.length c] w fun e w' => e = .returned (trimV p (qleV X) c) ∧ Below w.heap.size w w' := by
  obtain ⟨O, h1, h2, h3⟩ := cells_O hA
  exact trimd_O O h2 p c X hX hc0 hl h3 w h1
theorem qleV_one (x : Nat) : qleV [x] = x := by simp [qleV]
theorem one_lt {x : Nat} (hx : x < 18446744073709551616) : ∀ i, [x].getD i 0 < 18446744073709551616 := fun i => by
  cases i with
  | zero => exact hx
  | succ i => simp
theorem MemS.fresh {w0 w : World} {L : Blks} {R : List Row} (M : MemS (fun k => k < w0.heap.size) w0 w L R) (i : Nat) {b : Nat} {ob : Obj} (h : L[i]? = some (b, ob)) : w0.heap.size ≤ b := Nat.le_of_not_lt (M.base i _ h)
set_option maxRecDepth 100000 in
theorem nof_any (x : Nat) (hx : x < 18446744073709551616) (w0 : World) :
    Calls Tryd.prog 30 #[iW x] w0 fun e w' => ∃ v, e = .returned (.agg #[nv x v]) ∧ Below w0.heap.size w0 w' ∧ NatNew w0.heap.size w' (nv x v) x := by
  refine enter_fr Tryd.func30 rfl Tryd.ntmps30 (by simp) fun ac (FF : Fr 7 ac [(0, iW x)]) => ?_
  have MM := MemS.start w0
  refine wp_seq (rg_seq FF MM [o_] [0, 2] (fun Kt => ∀ br, Kt [(2, pT br), (0, iW x)] [(br, oC #[.slice none 0 0] 37)]) (by kernel_rfl) (fun _ => by kernel_rfl) (fun br => fun ac1 wd1 FF1 MM1 => then_n ?_))
  refine wp_seq (wp_region_list ?_)
  refine rg_part 2 FF1 MM1 [o_, o_] [2, 4] (fun Kt => ∀ bo, Kt [(4, .slice (some ⟨bo, 0, none⟩) 1 1), (2, pT br)] [(bo, .cells (cn .u64 [x]) 61), (br, oC #[.slice none 0 0] 37)]) (by kernel_rfl) (fun _ => by kernel_rfl) (fun bo => fun ac2 wd2 FF2 MM2 => ?_)
  refine rg_part 3 FF2 MM2 [u_ 1 (trimV (some ⟨bo, 0, none⟩) x 1), o_, b_ 1] [2] (fun Kt => CallP Tryd.prog 44 [.slice (some ⟨bo, 0, none⟩) 1 1] [(bo, .cells (cn .u64 [x]) 61), (br, oC #[.slice none 0 0] 37)] (trimV (some ⟨bo, 0, none⟩) x 1) ∧ br = br ∧ (#[.slice none 0 0] : Array Value).size = 1 ∧ (#[trimV (some ⟨bo, 0, none⟩) x 1] : Array Value).size = 1 ∧ (#[trimV (some ⟨bo, 0, none⟩) x 1] : Array Value).all (·.oneCell') = true ∧ (0, 0).2 = 0 ∧ Kt [(2, pT br)] [(bo, .cells (cn .u64 [x]) 61), (br, oC #[trimV (some ⟨bo, 0, none⟩) x 1] 37)]) (by kernel_rfl) (fun _ => by kernel_rfl) (⟨⟨en_trimd, fun w Hw => by have h0 := trimd_any (some ⟨bo, 0, none⟩) 1 [x] (one_lt hx) (by simp) (by simp) w (.inr ⟨bo, _, _, _, rfl, Hw 0 _ rfl, fun j hj => cn_get _ _ _ hj⟩); rw [show [x].length = 1 from rfl, qleV_one] at h0; exact h0⟩, rfl, rfl, rfl, (by kernel_rfl), rfl, fun ac3 wd3 FF3 MM3 => ?_⟩)
  refine wpl_nil (then_n ?_)
  refine wp_ret ?_
  repeat first | refine then_ret ?_ | refine inb_ret ?_
  exact (retc FF3 MM3 (k := 1) (i := 1) (j := 0) Tryd.results30 rfl rfl Tryd.underlying37 rfl (by kernel_rfl) rfl ⟨trimV (some ⟨bo, 0, none⟩) x 1, rfl, MM3.below, by have h0 := trim_new0 (c := 1) (X := [x]) (base := w0.heap.size) (one_lt hx) (by simp) (MM3.get 0 rfl) (MM3.fresh 0 rfl); rw [qleV_one] at h0; exact h0⟩)
theorem qleB_nil (X : List Nat) (m : Nat) : qleB m (leV (X.take 0)) = List.replicate m 0 := by
  refine ext_getD (by simp [qleB_len]) fun i hi => ?_
  rw [qleB_len] at hi
  rw [qleB_get hi, rep_get]
  simp [leV]
theorem pow8 (k : Nat) : 18446744073709551616 ^ k = 256 ^ (8 * k) := by rw [Nat.pow_mul]
theorem leV_take {X : List Nat} (hX : ∀ i, X.getD i 0 < 256) (i : Nat) : leV (X.take i) < 256 ^ i := by
  have := leV_lt (X.take i) (take_lt hX)
  exact Nat.lt_of_lt_of_le this (pw_le (by simp; omega))
theorem leV_take1 {X : List Nat} {i : Nat} (h : i < X.length) : leV (X.take (i + 1)) = leV (X.take i) + 256 ^ i * X.getD i 0 := by
  rw [List.take_add_one, leV_app, List.getElem?_eq_getElem h]
  simp [leV, Nat.min_eq_left (Nat.le_of_lt h), List.getD_eq_getElem?_getD, List.getElem?_eq_getElem h]
/-- A byte more. -/
theorem word_more {N i x : Nat} (hN : N < 256 ^ i) (hx : x < 256) (j : Nat) : qd (N + 256 ^ i * x) j = if j = i / 8 then qd N j ||| x * 2 ^ (8 * (i % 8)) % 18446744073709551616 else qd N j := by
  have hi : 256 ^ i = 18446744073709551616 ^ (i / 8) * 256 ^ (i % 8) := by rw [pow8, ← Nat.pow_add]; congr 1; omega
  have h8 : 256 ^ (i % 8) * 256 ≤ 18446744073709551616 := by
    rw [← Nat.pow_succ]
    exact Nat.le_trans (pw_le (show i % 8 + 1 ≤ 8 by omega)) (by decide)
  have e2 : 2 ^ (8 * (i % 8)) = 256 ^ (i % 8) := by rw [Nat.pow_mul]
  rcases Nat.lt_trichotomy j (i / 8) with h | h | h
  · rw [if_neg (by omega)]
    unfold qd
    have : 256 ^ i * x = 18446744073709551616 ^ j * (18446744073709551616 * (18446744073709551616 ^ (i / 8 - j - 1) * 256 ^ (i % 8) * x)) := by
      rw [hi, show 18446744073709551616 ^ (i / 8) = 18446744073709551616 ^ j * (18446744073709551616 * 18446744073709551616 ^ (i / 8 - j - 1)) by rw [← Nat.pow_succ', ← Nat.pow_add]; congr 1; omega]
      simp only [Nat.mul_assoc]
    rw [this, Nat.add_mul_div_left _ _ (Nat.pow_pos (by decide)), Nat.add_mul_mod_self_left]
  · subst h
    rw [if_pos rfl]
    unfold qd
    rw [hi, Nat.mul_assoc, Nat.add_mul_div_left _ _ (Nat.pow_pos (by decide)), e2]
    have hq : N / 18446744073709551616 ^ (i / 8) < 256 ^ (i % 8) := Nat.div_lt_of_lt_mul (by rw [← hi]; exact hN)
    have hlt : N / 18446744073709551616 ^ (i / 8) < 18446744073709551616 := by omega
    have hx8 : 256 ^ (i % 8) * x < 18446744073709551616 := Nat.lt_of_lt_of_le ((Nat.mul_lt_mul_left (Nat.pow_pos (by decide))).2 hx) h8
    have hs : 256 ^ (i % 8) * (x + 1) ≤ 18446744073709551616 := Nat.le_trans (Nat.mul_le_mul_left _ hx) h8
    rw [Nat.mod_eq_of_lt hlt, Nat.mul_comm x, Nat.mod_eq_of_lt hx8, Nat.mul_comm (256 ^ (i % 8)) x, ← e2, or_shl _ (by rw [e2]; exact hq), Nat.mod_eq_of_lt]
    rw [e2, Nat.mul_comm x]
    rw [Nat.mul_add, Nat.mul_one] at hs
    omega
  · rw [if_neg (by omega)]
    unfold qd
    have hb : 256 ^ i * 256 ≤ 18446744073709551616 ^ j := by
      rw [pow8, ← Nat.pow_succ]; exact pw_le (by omega)
    have h1 : N + 256 ^ i * x < 18446744073709551616 ^ j := by
      have : 256 ^ i * (x + 1) ≤ 256 ^ i * 256 := Nat.mul_le_mul_left _ hx
      rw [Nat.mul_add, Nat.mul_one] at this
      omega
    rw [Nat.div_eq_of_lt h1, Nat.div_eq_of_lt (Nat.lt_of_le_of_lt (Nat.le_add_right _ _) h1)]
theorem bytes_step {X : List Nat} (hX : ∀ i, X.getD i 0 < 256) {i m : Nat} (hi : i < X.length) (hm : i / 8 < m) : (qleB m (leV (X.take i))).set (i / 8) (qd (leV (X.take i)) (i / 8) ||| X.getD i 0 * 2 ^ (8 * (i % 8)) % 18446744073709551616) = qleB m (leV (X.take (i + 1))) := by
  refine ext_getD (by simp [qleB_len]) fun j hj => ?_
  simp only [List.length_set, qleB_len] at hj
  rw [getD_set, qleB_get hj, leV_take1 hi, qleB_get hj, qleB_len]
  have := word_more (leV_take hX i) (hX i) j
  unfold qd at this ⊢
  rw [this]
  by_cases e : i / 8 = j
  · subst e; rw [if_pos ⟨rfl, hm⟩, if_pos rfl]
  · rw [if_neg (fun h => e h.1), if_neg (fun h => e h.symm)]
theorem qleV_bytes {X : List Nat} (hX : ∀ i, X.getD i 0 < 256) : qleV (qleB ((X.length + 7) / 8) (leV X)) = leV X := by
  rw [qleV_leB, Nat.mod_eq_of_lt]
  rw [pow8]
  exact Nat.lt_of_lt_of_le (leV_lt X hX) (pw_le (by omega))
set_option maxRecDepth 100000 in
theorem nbytes_any (X : List Nat) (hX : ∀ i, X.getD i 0 < 256) (hl : X.length < 1000000000) (w0 : World) :
    Calls Tryd.prog 22 #[sB X] w0 fun e w' => ∃ v, e = .returned (.agg #[nv (leV X) v]) ∧ Below w0.heap.size w0 w' ∧ NatNew w0.heap.size w' (nv (leV X) v) (leV X) := by
  refine enter_fr Tryd.func22 rfl Tryd.ntmps22 (by simp) fun ac (FF : Fr 35 ac [(0, sB X)]) => ?_
  have MM := MemS.start w0
  refine wp_seq (rg_seq FF MM [o_] [0, 2] (fun Kt => ∀ br, Kt [(2, pT br), (0, sB X)] [(br, oC #[.slice none 0 0] 37)]) (by kernel_rfl) (fun _ => by kernel_rfl) (fun br => fun ac1 wd1 FF1 MM1 => then_n ?_))
  refine wp_seq (rg_seq FF1 MM1 [o_, t_ (iN X.length), o_, t_ (iN (X.length + 7)), t_ (iN ((X.length + 7) / 8)), n_ (.slice none ((X.length + 7) / 8) ((X.length + 7) / 8)) (.cells (cn .u64 (List.replicate ((X.length + 7) / 8) 0)) 61), o_] [2, 0, 3] (fun Kt => iN ((bs X).size) = iN X.length ∧ X.length + 8 < 9223372036854775808 ∧ 1 ≤ (X.length + 8) ∧ (X.length + 8) - 1 < 9223372036854775808 ∧ iN ((X.length + 8) - 1) = iN (X.length + 7) ∧ 8 ≠ 0 ∧ (X.length + 7) / 8 < 9223372036854775808 ∧ iN ((X.length + 7) / 8) = iN ((X.length + 7) / 8) ∧ RunN Tryd.prog [(9, iN ((X.length + 7) / 8)), (8, iN (X.length + 7)), (7, iN (X.length + 8)), (6, iN X.length), (5, sB X), (2, pT br), (0, sB X)] [(br, oC #[.slice none 0 0] 37)] (opAt Tryd.f22 1 5) (mkOf (.slice none ((X.length + 7) / 8) ((X.length + 7) / 8))) (.cells (cn .u64 (List.replicate ((X.length + 7) / 8) 0)) 61) ∧ ∀ bo, Kt [(3, .slice (some ⟨bo, 0, none⟩) ((X.length + 7) / 8) ((X.length + 7) / 8)), (2, pT br), (0, sB X)] [(bo, .cells (cn .u64 (List.replicate ((X.length + 7) / 8) 0)) 61), (br, oC #[.slice none 0 0] 37)]) (by kernel_rfl) (fun _ => by kernel_rfl) (⟨(vI (bs_size _)), (by omega), (by omega), (by omega), (vI (by omega)), (by decide), (by omega), rfl, (make64_ok (t := 35) (e := 61) (p := (.tmp 9)) (q := (.tmp 9)) (by kernel_rfl) rfl rfl Tryd.underlying35 (by kernel_rfl) (by omega)), fun bo => fun ac2 wd2 FF2 MM2 => then_n ?_⟩))
  have MMr : MemS (fun k => k < w0.heap.size) w0 wd2 [(bo, .cells (cn .u64 (qleB ((X.length + 7) / 8) (leV (X.take 0)))) 61), (br, oC #[.slice none 0 0] 37)] [] := by rw [show qleB ((X.length + 7) / 8) (leV (X.take 0)) = List.replicate ((X.length + 7) / 8) 0 from qleB_nil _ _]; exact MM2
  refine wp_seq ?_
  refine wp_seq (rg_seq FF2 MMr [o_, t_ (iN X.length), o_] [3, 2, 0, 12, 13] (fun Kt => iN ((bs X).size) = iN X.length ∧ Kt [(13, iN 0), (12, iN X.length), (3, .slice (some ⟨bo, 0, none⟩) ((X.length + 7) / 8) ((X.length + 7) / 8)), (2, pT br), (0, sB X)] [(bo, .cells (cn .u64 (qleB ((X.length + 7) / 8) (leV (X.take 0)))) 61), (br, oC #[.slice none 0 0] 37)]) (by kernel_rfl) (fun _ => by kernel_rfl) (⟨(vI (bs_size _)), fun ac3 wd3 FF3 MM3 => then_n ?_⟩))
  refine wp_for (fun a' w' => ∃ i : Nat, i ≤ X.length ∧ Fr 35 a' [(13, iN i), (12, iN X.length), (3, .slice (some ⟨bo, 0, none⟩) ((X.length + 7) / 8) ((X.length + 7) / 8)), (2, pT br), (0, sB X)] ∧ MemS (fun k => k < w0.heap.size) w0 w' [(bo, .cells (cn .u64 (qleB ((X.length + 7) / 8) (leV (X.take i)))) 61), (br, oC #[.slice none 0 0] 37)] []) (fun a' _ => (X.length - cnt 13 a').toNat) ⟨0, by omega, FF3.pick [0, 1, 2, 3, 4], MM3⟩ ?_
  rintro ac4 wd4 ⟨i, hi, FF4, MM4⟩
  have hc := cnt_of (FF4.get 0 rfl)
  refine rg_seq FF4 MM4 [o_] [13, 12, 3, 2, 0, 14] (fun Kt => Kt [(14, .bool (decide (i < X.length))), (13, iN i), (12, iN X.length), (3, .slice (some ⟨bo, 0, none⟩) ((X.length + 7) / 8) ((X.length + 7) / 8)), (2, pT br), (0, sB X)] [(bo, .cells (cn .u64 (qleB ((X.length + 7) / 8) (leV (X.take i)))) 61), (br, oC #[.slice none 0 0] 37)]) (by kernel_rfl) (fun _ => by kernel_rfl) (fun ac5 wd5 FF5 MM5 => ?_)
  by_cases hlt : i < X.length
  · skip
    refine then_n (.inl ⟨(FF5.ev 0 rfl).trans (dec_t hlt), ?_⟩)
    refine wp_seq (rg_seq FF5 MM5 [o_, o_] [13, 12, 3, 2, 0, 4] (fun Kt => Kt [(4, iN i), (13, iN i), (12, iN X.length), (3, .slice (some ⟨bo, 0, none⟩) ((X.length + 7) / 8) ((X.length + 7) / 8)), (2, pT br), (0, sB X)] [(bo, .cells (cn .u64 (qleB ((X.length + 7) / 8) (leV (X.take i)))) 61), (br, oC #[.slice none 0 0] 37)]) (by kernel_rfl) (fun _ => by kernel_rfl) (fun ac6 wd6 FF6 MM6 => then_n ?_))
    refine rg_draw FF6 MM6 [.inl (.slice (some ⟨bo, 0, none⟩) ((X.length + 7) / 8) ((X.length + 7) / 8)), .inl (iN i), .inl (iN (i / 8)), .inl (.pointer (some ⟨bo, i / 8, none⟩)), .inl (iW (qd (leV (X.take i)) (i / 8))), .inl (sB X), .inl (iN i), .inl (iB (X.getD i 0)), .inl (iW (X.getD i 0)), .inl (iN i), .inl (iN (i % 8)), .inl (iN (8 * (i % 8))), .inl (iW ((X.getD i 0) * (2 ^ (8 * (i % 8))) % 18446744073709551616)), .inl (iW ((qd (leV (X.take i)) (i / 8)) ||| ((X.getD i 0) * (2 ^ (8 * (i % 8))) % 18446744073709551616))), .inl (.pointer (some ⟨bo, i / 8, none⟩))] [] [o_, o_, o_, w_ 1, l_ 0 (iW (qd (leV (X.take i)) (i / 8))), o_, o_, t_ (iB (X.getD i 0)), w_ 1, o_, o_, o_, o_, o_, w_ 1] [s_ 0 (.cells (cn .u64 (qleB ((X.length + 7) / 8) (leV (X.take (i + 1))))) 61)] [4, 13, 12, 3, 2, 0] (fun nb => [8 ≠ 0, i / 8 < 9223372036854775808, (i / 8) < ((X.length + 7) / 8), bo = bo, (cn .u64 (qleB ((X.length + 7) / 8) (leV (X.take i))))[i / 8]? = some (iW (qd (leV (X.take i)) (i / 8))), i < (bs X).size, (nl (bs X)).getD i 0 = X.getD i 0, (X.getD i 0) < 18446744073709551616, 8 ≠ 0, 8 * (i % 8) < 9223372036854775808, (qd (leV (X.take i)) (i / 8)) < 18446744073709551616, ((X.getD i 0) * (2 ^ (8 * (i % 8))) % 18446744073709551616) < 18446744073709551616, (i / 8) < ((X.length + 7) / 8)]) (fun nb Kt => bo = bo ∧ i / 8 < (cn .u64 (qleB ((X.length + 7) / 8) (leV (X.take i)))).size ∧ (((0, 0)).2 = 0 ∨ i / 8 < ((0, 0)).1) ∧ (cn .u64 (qleB ((X.length + 7) / 8) (leV (X.take i)))).setIfInBounds (i / 8) (iW ((qd (leV (X.take i)) (i / 8)) ||| ((X.getD i 0) * (2 ^ (8 * (i % 8))) % 18446744073709551616))) = cn .u64 (qleB ((X.length + 7) / 8) (leV (X.take (i + 1)))) ∧ Kt [(4, iN i), (13, iN i), (12, iN X.length), (3, .slice (some ⟨bo, 0, none⟩) ((X.length + 7) / 8) ((X.length + 7) / 8)), (2, pT br), (0, sB X)] [(bo, .cells (cn .u64 (qleB ((X.length + 7) / 8) (leV (X.take (i + 1))))) 61), (br, oC #[.slice none 0 0] 37)]) (by kernel_rfl) (by kernel_rfl) (by kernel_rfl) (fun _ => by kernel_rfl) (fun _ _ => by kernel_rfl) trivial (fun nb => ⟨(by decide), (by omega), (by omega), rfl, ((cn_get _ _ _ (by rw [qleB_len]; omega)).trans (congrArg some (vI (qleB_get (by omega))))), (by simp only [bs_size]; omega), (byte_bs hX _), (by have := hX i; omega), (by decide), (by omega), (qd_lt _ _), (Nat.mod_lt _ (by decide)), (by omega), trivial⟩) (fun nb => ⟨rfl, (by rw [cn_size, (qleB_len _ _)]; omega), (.inl rfl), ((cn_set _ _ _ _).trans (congrArg _ (bytes_step hX (by omega) (by omega)))), fun ac7 wd7 FF7 MM7 => ?_⟩)
    refine inb_n (then_n ?_)
    refine rg_seq FF7 MM7 [o_, o_] [4, 13, 12, 3, 2, 0] (fun Kt => i + 1 < 9223372036854775808 ∧ Kt [(13, iN (i + 1)), (4, iN i), (12, iN X.length), (3, .slice (some ⟨bo, 0, none⟩) ((X.length + 7) / 8) ((X.length + 7) / 8)), (2, pT br), (0, sB X)] [(bo, .cells (cn .u64 (qleB ((X.length + 7) / 8) (leV (X.take (i + 1))))) 61), (br, oC #[.slice none 0 0] 37)]) (by kernel_rfl) (fun _ => by kernel_rfl) (⟨(by omega), fun ac8 wd8 FF8 MM8 => ?_⟩)
    have hd := cnt_of (FF8.get 0 rfl)
    refine then_n ⟨⟨i + 1, by omega, FF8.pick [0, 2, 3, 4, 5], MM8⟩, ?_⟩
    rw [hc, hd]; omega
  · skip
    refine then_n (.inr ⟨(FF5.ev 0 rfl).trans (dec_f hlt), ?_⟩)
    obtain rfl : i = X.length := by omega
    have MMl : MemS (fun k => k < w0.heap.size) w0 wd5 [(bo, .cells (cn .u64 (qleB ((X.length + 7) / 8) (leV X))) 61), (br, oC #[.slice none 0 0] 37)] [] := by rw [List.take_length] at MM5; exact MM5
    refine then_n ?_
    refine wp_seq (rg_seq FF5 MMl [o_, u_ 1 (trimV (some ⟨bo, 0, none⟩) (leV X) ((X.length + 7) / 8)), o_, b_ 1] [13, 12, 3, 2, 0] (fun Kt => CallP Tryd.prog 44 [.slice (some ⟨bo, 0, none⟩) ((X.length + 7) / 8) ((X.length + 7) / 8)] [(bo, .cells (cn .u64 (qleB ((X.length + 7) / 8) (leV X))) 61), (br, oC #[.slice none 0 0] 37)] (trimV (some ⟨bo, 0, none⟩) (leV X) ((X.length + 7) / 8)) ∧ br = br ∧ (#[.slice none 0 0] : Array Value).size = 1 ∧ (#[trimV (some ⟨bo, 0, none⟩) (leV X) ((X.length + 7) / 8)] : Array Value).size = 1 ∧ (#[trimV (some ⟨bo, 0, none⟩) (leV X) ((X.length + 7) / 8)] : Array Value).all (·.oneCell') = true ∧ (0, 0).2 = 0 ∧ Kt [(13, iN X.length), (12, iN X.length), (3, .slice (some ⟨bo, 0, none⟩) ((X.length + 7) / 8) ((X.length + 7) / 8)), (2, pT br), (0, sB X)] [(bo, .cells (cn .u64 (qleB ((X.length + 7) / 8) (leV X))) 61), (br, oC #[trimV (some ⟨bo, 0, none⟩) (leV X) ((X.length + 7) / 8)] 37)]) (by kernel_rfl) (fun _ => by kernel_rfl) (⟨⟨en_trimd, fun w Hw => by have h0 := trimd_any (some ⟨bo, 0, none⟩) ((X.length + 7) / 8) (qleB ((X.length + 7) / 8) (leV X)) (qleB_lt _ _) (by rw [qleB_len]; exact Nat.le_refl _) (by rw [qleB_len]; omega) w (.inr ⟨bo, _, _, _, rfl, Hw 0 _ rfl, fun j hj => cn_get _ _ _ hj⟩); rw [show (qleB ((X.length + 7) / 8) (leV X)).length = (X.length + 7) / 8 from (qleB_len _ _), qleV_bytes hX] at h0; exact h0⟩, rfl, rfl, rfl, (by kernel_rfl), rfl, fun ac9 wd9 FF9 MM9 => then_n ?_⟩))
    refine wp_ret ?_
    repeat first | refine then_ret ?_ | refine inb_ret ?_
    exact (retc FF9 MM9 (k := 1) (i := 1) (j := 3) Tryd.results22 rfl rfl Tryd.underlying37 rfl (by kernel_rfl) rfl ⟨trimV (some ⟨bo, 0, none⟩) (leV X) ((X.length + 7) / 8), rfl, MM9.below, by have h0 := trim_new0 (c := (X.length + 7) / 8) (X := qleB ((X.length + 7) / 8) (leV X)) (base := w0.heap.size) (qleB_lt _ _) (by rw [qleB_len]; exact Nat.le_refl _) (MM9.get 0 rfl) (MM9.fresh 0 rfl); rw [qleV_bytes hX] at h0; exact h0⟩)
end Go.Proofs.YtlljedijldkcbaaDoor
