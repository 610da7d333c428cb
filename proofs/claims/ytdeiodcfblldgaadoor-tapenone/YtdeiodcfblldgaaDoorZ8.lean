/- Several texts in one: The document: numbers as bytes: made, compared. The document: bits. The document's tape: what is taken. The document's tape: numbers under another one. The laws of the tape: what they share. The law TapeNone. The table of the powers of ten, as the text lays it. From a walk to a row: a law that returns true and writes nothing that was there; arrays of bytes that come in. A row of texts that comes in. Package-level tables of numbers: what the row says that they hold, as a block. -/
import Derived.Test.YtdeiodcfblldgaaDoorZ7
import Derived.Test.YtdeiodcfblldgaaDoorZ5
import Derived.Test.YtdeiodcfblldgaaDoorRows
import Derived.WalkKit
import Derived.Test.YtdeiodcfblldgaaDoorZ1
import Derived.Below
import Derived.ProofKit
import Derived.OpenShut
import Derived.ChangeOld
import Derived.Test.YtdeiodcfblldgaaDoorZ3
import Derived.SliceStrings
import Derived.MakeChecks
import Derived.LaidMore
import Derived.LaidHandle
import Derived.Stop.Joined
namespace Go.Proofs.YtdeiodcfblldgaaDoor
open Go.RowKit

theorem en_rtrim : Enters Tryd.prog 37 := fun args w => by simp [go_sem]
theorem en_rbytes : Enters Tryd.prog 22 := fun args w => by simp [go_sem]
theorem en_rcmp : Enters Tryd.prog 36 := fun args w => by simp [go_sem]
theorem en_rbits : Enters Tryd.prog 35 := fun args w => by simp [go_sem]
set_option maxRecDepth 100000 in
theorem trim_any (X : List Nat) (hX : ∀ i, X.getD i 0 < 256) (hl : X.length < 4611686018427387904) (w0 : World) :
    Calls Tryd.prog 37 #[.string (bs X)] w0 fun e w' => e = .returned (.string (bs (minB (leV X)))) ∧ Below w0.heap.size w0 w' := by
  refine enter_fr Tryd.func37 rfl Tryd.ntmps37 (by simp) fun ac (FF : Fr 20 ac [(0, .string (bs X))]) => ?_
  have MM := MemS.start w0
  refine wp_seq (rg_seq FF MM [o_] [0, 2] (fun Kt => Kt [(2, .string (bs [])), (0, .string (bs X))] []) (by kernel_rfl) (fun _ => by kernel_rfl) (fun ac1 wd1 FF1 MM1 => then_n ?_))
  refine wp_seq (rg_seq FF1 MM1 [o_, t_ (.int .i64 (X.length : Nat)), o_] [2, 0, 3] (fun Kt => Value.int .i64 ((bs X).size : Nat) = .int .i64 (X.length : Nat) ∧ Kt [(3, .int .i64 (X.length : Nat)), (2, .string (bs [])), (0, .string (bs X))] []) (by kernel_rfl) (fun _ => by kernel_rfl) (⟨(vI (bs_size _)), fun ac2 wd2 FF2 MM2 => then_n ?_⟩))
  refine wp_seq ?_
  refine wp_for2w (fun a' w' => ∃ n : Nat, n ≤ X.length ∧ (∀ i, n ≤ i → X.getD i 0 = 0) ∧ Fr 20 a' [(3, .int .i64 (n : Nat)), (2, .string (bs [])), (0, .string (bs X))] ∧ MemS (fun k => k < w0.heap.size) w0 w' [] []) (fun a' _ => (cnt 3 a').toNat) ⟨X.length, Nat.le_refl _, (fun _ h => getD_out h), FF2.pick [0, 1, 2], MM2⟩ ?_
  rintro ac3 wd3 ⟨n, hn, h0, FF3, MM3⟩
  have hc := cnt_of (FF3.get 0 rfl)
  by_cases h1 : n > 0
  · by_cases h2 : X.getD (n - 1) 0 = 0
    · skip
      refine rg_seq FF3 MM3 [o_, w_ 2, o_, o_, o_, o_, t_ (.int .u8 (X.getD (n - 1) 0 : Nat)), w_ 2, o_] [3, 2, 0, 14] (fun Kt => n > 0 ∧ 1 ≤ n ∧ n - 1 < 9223372036854775808 ∧ (n - 1) < (bs X).size ∧ (nl (bs X)).getD (n - 1) 0 = X.getD (n - 1) 0 ∧ (X.getD (n - 1) 0) = 0 ∧ Kt [(14, .bool true), (3, .int .i64 (n : Nat)), (2, .string (bs [])), (0, .string (bs X))] []) (by kernel_rfl) (fun _ => by kernel_rfl) (⟨(by omega), (by omega), (by omega), (by simp only [bs_size]; omega), (byte_bs hX _), (by have := hX (n - 1); omega), fun ac4 wd4 FF4 MM4 => ?_⟩)
      refine then_n (.inl ⟨FF4.ev 0 rfl, ?_⟩)
      refine rg_seq FF4 MM4 [o_, o_, o_] [3, 2, 0] (fun Kt => 1 ≤ n ∧ n - 1 < 9223372036854775808 ∧ Kt [(3, .int .i64 (n - 1 : Nat)), (2, .string (bs [])), (0, .string (bs X))] []) (by kernel_rfl) (fun _ => by kernel_rfl) (⟨(by omega), (by omega), fun ac5 wd5 FF5 MM5 => ?_⟩)
      refine inb_n ?_
      have hd := cnt_of (FF5.get 0 rfl)
      refine then_n ⟨⟨n - 1, by omega, fun i hi => (Nat.eq_or_lt_of_le hi).elim (fun e => e ▸ h2) (fun h => h0 i (by omega)), FF5.pick [0, 1, 2], MM5⟩, ?_⟩
      rw [hc, hd]; omega
    · skip
      refine rg_seq FF3 MM3 [o_, w_ 2, o_, o_, o_, o_, t_ (.int .u8 (X.getD (n - 1) 0 : Nat)), w_ 3, o_] [3, 2, 0, 14] (fun Kt => n > 0 ∧ 1 ≤ n ∧ n - 1 < 9223372036854775808 ∧ (n - 1) < (bs X).size ∧ (nl (bs X)).getD (n - 1) 0 = X.getD (n - 1) 0 ∧ ¬ ((X.getD (n - 1) 0) = 0) ∧ Kt [(14, .bool false), (3, .int .i64 (n : Nat)), (2, .string (bs [])), (0, .string (bs X))] []) (by kernel_rfl) (fun _ => by kernel_rfl) (⟨(by omega), (by omega), (by omega), (by simp only [bs_size]; omega), (byte_bs hX _), (by have := hX (n - 1); omega), fun ac6 wd6 FF6 MM6 => ?_⟩)
      refine then_n (.inr ⟨FF6.ev 0 rfl, ?_⟩)
      refine then_n ?_
      refine wp_seq (rg_seq FF6 MM6 [o_, o_, t_ (.string (bs (minB (leV X)))), o_] [3, 2, 0] (fun Kt => 0 ≤ n ∧ n ≤ (bs X).size ∧ Value.string ((bs X).extract 0 n) = .string (bs (minB (leV X))) ∧ Kt [(2, .string (bs (minB (leV X)))), (3, .int .i64 (n : Nat)), (0, .string (bs X))] []) (by kernel_rfl) (fun _ => by kernel_rfl) (⟨(Nat.zero_le _), (by simp only [bs_size]; omega), (vS2 ((bs_extract _ _ _).trans (congrArg bs ((List.drop_zero ..).trans (trim_ok hX hn h0 (by first | exact .inl (by omega) | exact .inr h2)))))), fun ac7 wd7 FF7 MM7 => then_n ?_⟩))
      refine wp_ret ?_
      repeat first | refine then_ret ?_ | refine inb_ret ?_
      exact (ret_fr FF7 0 Tryd.results37 rfl ⟨rfl, MM7.below⟩)
  · skip
    refine rg_seq FF3 MM3 [o_, w_ 3, o_, o_, o_, o_, o_, o_, o_] [3, 2, 0, 14] (fun Kt => ¬ (n > 0) ∧ Kt [(14, .bool false), (3, .int .i64 (n : Nat)), (2, .string (bs [])), (0, .string (bs X))] []) (by kernel_rfl) (fun _ => by kernel_rfl) (⟨(by omega), fun ac8 wd8 FF8 MM8 => ?_⟩)
    refine then_n (.inr ⟨FF8.ev 0 rfl, ?_⟩)
    refine then_n ?_
    refine wp_seq (rg_seq FF8 MM8 [o_, o_, t_ (.string (bs (minB (leV X)))), o_] [3, 2, 0] (fun Kt => 0 ≤ n ∧ n ≤ (bs X).size ∧ Value.string ((bs X).extract 0 n) = .string (bs (minB (leV X))) ∧ Kt [(2, .string (bs (minB (leV X)))), (3, .int .i64 (n : Nat)), (0, .string (bs X))] []) (by kernel_rfl) (fun _ => by kernel_rfl) (⟨(Nat.zero_le _), (by simp only [bs_size]; omega), (vS2 ((bs_extract _ _ _).trans (congrArg bs ((List.drop_zero ..).trans (trim_ok hX hn h0 (by first | exact .inl (by omega) | exact .inr h2)))))), fun ac9 wd9 FF9 MM9 => then_n ?_⟩))
    refine wp_ret ?_
    repeat first | refine then_ret ?_ | refine inb_ret ?_
    exact (ret_fr FF9 0 Tryd.results37 rfl ⟨rfl, MM9.below⟩)
set_option maxRecDepth 100000 in
theorem bytes_any (X : List Nat) (hX : ∀ i, X.getD i 0 < 256) (hl : X.length < 4611686018427387904) (w0 : World) :
    Calls Tryd.prog 22 #[.string (bs X)] w0 fun e w' => e = .returned (.string (bs (minB (leV X)))) ∧ Below w0.heap.size w0 w' := by
  refine enter_fr Tryd.func22 rfl Tryd.ntmps22 (by simp) fun ac (FF : Fr 5 ac [(0, .string (bs X))]) => ?_
  have MM := MemS.start w0
  refine wp_seq (rg_seq FF MM [o_] [0, 2] (fun Kt => Kt [(2, .string (bs [])), (0, .string (bs X))] []) (by kernel_rfl) (fun _ => by kernel_rfl) (fun ac1 wd1 FF1 MM1 => then_n ?_))
  refine wp_seq (rg_seq FF1 MM1 [o_, t_ (.string (bs (minB (leV X)))), o_] [2] (fun Kt => CallP Tryd.prog 37 [.string (bs X)] [] (.string (bs (minB (leV X)))) ∧ Kt [(2, .string (bs (minB (leV X))))] []) (by kernel_rfl) (fun _ => by kernel_rfl) (⟨(callP_of en_rtrim (trim_any X hX (by omega)) _), fun ac2 wd2 FF2 MM2 => then_n ?_⟩))
  refine wp_ret ?_
  repeat first | refine then_ret ?_ | refine inb_ret ?_
  exact (ret_fr FF2 0 Tryd.results22 rfl ⟨rfl, MM2.below⟩)
set_option maxRecDepth 100000 in
theorem cmp_any (M N : Nat) (hz : sz M + sz N < 1000000) (w0 : World) :
    Calls Tryd.prog 36 #[.string (bs (minB M)), .string (bs (minB N))] w0 fun e w' => e = .returned (.int .i64 (cmpN M N)) ∧ Below w0.heap.size w0 w' := by
  refine enter_fr Tryd.func36 rfl Tryd.ntmps36 (by simp) fun ac (FF : Fr 37 ac [(0, .string (bs (minB M))), (1, .string (bs (minB N)))]) => ?_
  have MM := MemS.start w0
  refine wp_seq (rg_seq FF MM [o_] [0, 1, 4] (fun Kt => Kt [(4, .int .i64 (0 : Nat)), (0, .string (bs (minB M))), (1, .string (bs (minB N)))] []) (by kernel_rfl) (fun _ => by kernel_rfl) (fun ac1 wd1 FF1 MM1 => then_n ?_))
  refine wp_seq ?_
  refine wp_seq (rg_seq FF1 MM1 [o_, t_ (.int .i64 (sz M : Nat)), o_, t_ (.int .i64 (sz N : Nat)), o_] [4, 0, 1, 10] (fun Kt => Value.int .i64 ((bs (minB M)).size : Nat) = .int .i64 (sz M : Nat) ∧ Value.int .i64 ((bs (minB N)).size : Nat) = .int .i64 (sz N : Nat) ∧ Kt [(10, .bool (decide ((sz M) ≠ (sz N)))), (4, .int .i64 (0 : Nat)), (0, .string (bs (minB M))), (1, .string (bs (minB N)))] []) (by kernel_rfl) (fun _ => by kernel_rfl) (⟨(vI ((bs_size _).trans (minB_len M))), (vI ((bs_size _).trans (minB_len N))), fun ac2 wd2 FF2 MM2 => then_n ?_⟩))
  by_cases hs10 : (sz M) ≠ (sz N)
  · refine wp_cond_true ((FF2.ev 0 rfl).trans (dec_t hs10)) ?_
    refine wp_seq ?_
    refine wp_seq (rg_seq FF2 MM2 [o_, t_ (.int .i64 (sz M : Nat)), o_, t_ (.int .i64 (sz N : Nat)), o_] [4, 0, 1, 15] (fun Kt => Value.int .i64 ((bs (minB M)).size : Nat) = .int .i64 (sz M : Nat) ∧ Value.int .i64 ((bs (minB N)).size : Nat) = .int .i64 (sz N : Nat) ∧ Kt [(15, .bool (decide ((sz M) < (sz N)))), (4, .int .i64 (0 : Nat)), (0, .string (bs (minB M))), (1, .string (bs (minB N)))] []) (by kernel_rfl) (fun _ => by kernel_rfl) (⟨(vI ((bs_size _).trans (minB_len M))), (vI ((bs_size _).trans (minB_len N))), fun ac3 wd3 FF3 MM3 => then_n ?_⟩))
    by_cases hs15 : (sz M) < (sz N)
    · refine wp_cond_true ((FF3.ev 0 rfl).trans (dec_t hs15)) ?_
      have hM := cmp_len hs15
      refine wp_seq (rg_seq FF3 MM3 [o_] [4, 0, 1] (fun Kt => Kt [(4, .int .i64 (-1 : Int)), (0, .string (bs (minB M))), (1, .string (bs (minB N)))] []) (by kernel_rfl) (fun _ => by kernel_rfl) (fun ac4 wd4 FF4 MM4 => then_n ?_))
      refine wp_ret ?_
      repeat first | refine then_ret ?_ | refine inb_ret ?_
      exact (ret_fr FF4 0 Tryd.results36 rfl ⟨congrArg (fun z => Ending.returned (Value.int .i64 z)) (cmpm hM), MM4.below⟩)
    · refine wp_cond_false ((FF3.ev 0 rfl).trans (dec_f hs15)) ?_
      have hM := cmp_len (show sz N < sz M by omega)
      refine wp_skip ?_
      refine then_n ?_
      refine wp_seq (rg_seq FF3 MM3 [o_] [4, 0, 1] (fun Kt => Kt [(4, .int .i64 (1 : Nat)), (0, .string (bs (minB M))), (1, .string (bs (minB N)))] []) (by kernel_rfl) (fun _ => by kernel_rfl) (fun ac5 wd5 FF5 MM5 => then_n ?_))
      refine wp_ret ?_
      repeat first | refine then_ret ?_ | refine inb_ret ?_
      exact (ret_fr FF5 0 Tryd.results36 rfl ⟨congrArg (fun z => Ending.returned (Value.int .i64 z)) (cmp1 hM), MM5.below⟩)
  · refine wp_cond_false ((FF2.ev 0 rfl).trans (dec_f hs10)) ?_
    have hs : sz M = sz N := by omega
    refine wp_skip ?_
    refine then_n ?_
    refine wp_seq ?_
    refine wp_seq (rg_seq FF2 MM2 [o_, t_ (.int .i64 (sz M : Nat)), u_ 4 (.int .i64 (((sz M : Nat) : Int) - 1 : Int)), o_] [4, 0, 1, 5] (fun Kt => Value.int .i64 ((bs (minB M)).size : Nat) = .int .i64 (sz M : Nat) ∧ -(9223372036854775808 : Int) ≤ ((sz M : Nat) : Int) - ((1 : Nat) : Int) ∧ ((sz M : Nat) : Int) - ((1 : Nat) : Int) < (9223372036854775808 : Nat) ∧ Value.int .i64 (((sz M : Nat) : Int) - ((1 : Nat) : Int) : Int) = .int .i64 (((sz M : Nat) : Int) - 1 : Int) ∧ Kt [(5, .int .i64 (((sz M : Nat) : Int) - 1 : Int)), (4, .int .i64 (0 : Nat)), (0, .string (bs (minB M))), (1, .string (bs (minB N)))] []) (by kernel_rfl) (fun _ => by kernel_rfl) (⟨(vI ((bs_size _).trans (minB_len M))), (by omega), (by omega), (vZ (by omega)), fun ac6 wd6 FF6 MM6 => then_n ?_⟩))
    refine wp_for2 (fun a' w' => ∃ j : Nat, j ≤ sz M ∧ M / 256 ^ j = N / 256 ^ j ∧ Fr 37 a' [(5, .int .i64 (((j : Nat) : Int) - 1 : Int)), (0, .string (bs (minB M))), (1, .string (bs (minB N)))] ∧ MemS (fun k => k < w0.heap.size) w0 w' [] []) (fun a' _ => (cnt 5 a' + 1).toNat) ⟨sz M, Nat.le_refl _, cmp_top hs, FF6.pick [0, 2, 3], MM6⟩ ?_
    rintro ac7 wd7 ⟨j, hj, hq, FF7, MM7⟩
    have hc := cnt_of (FF7.get 0 rfl)
    refine rg_seq FF7 MM7 [o_, w_ 4] [5, 0, 1, 20] (fun Kt => Kt [(20, .bool (decide ((((j : Nat) : Int) - 1) ≥ ((0 : Nat) : Int)))), (5, .int .i64 (((j : Nat) : Int) - 1 : Int)), (0, .string (bs (minB M))), (1, .string (bs (minB N)))] []) (by kernel_rfl) (fun _ => by kernel_rfl) (fun ac8 wd8 FF8 MM8 => ?_)
    by_cases hlt : (((j : Nat) : Int) - 1) ≥ ((0 : Nat) : Int)
    · skip
      refine then_n (.inl ⟨(FF8.ev 0 rfl).trans (dec_t hlt), ?_⟩)
      obtain ⟨j, rfl⟩ : ∃ z, j = z + 1 := ⟨j - 1, by omega⟩
      refine wp_seq (rg_draw FF8 MM8 [.inl (.string (bs (minB M))), .inl (.int .i64 (j : Nat)), .inl (.int .u8 (M / 256 ^ j % 256 : Nat)), .inl (.string (bs (minB N))), .inl (.int .i64 (j : Nat)), .inl (.int .u8 (N / 256 ^ j % 256 : Nat)), .inl (.bool (decide ((M / 256 ^ j % 256) ≠ (N / 256 ^ j % 256))))] [] [o_, t_ (.int .i64 (j : Nat)), t_ (.int .u8 (M / 256 ^ j % 256 : Nat)), o_, t_ (.int .i64 (j : Nat)), t_ (.int .u8 (N / 256 ^ j % 256 : Nat)), o_] [] [5, 0, 1, 29] (fun nb => [Value.int .i64 ((((j + 1) : Nat) : Int) - 1 : Int) = .int .i64 (j : Nat), j < (bs (minB M)).size, (nl (bs (minB M))).getD j 0 = M / 256 ^ j % 256, Value.int .i64 ((((j + 1) : Nat) : Int) - 1 : Int) = .int .i64 (j : Nat), j < (bs (minB N)).size, (nl (bs (minB N))).getD j 0 = N / 256 ^ j % 256]) (fun nb Kt => Kt [(29, .bool (decide ((M / 256 ^ j % 256) ≠ (N / 256 ^ j % 256)))), (5, .int .i64 ((((j + 1) : Nat) : Int) - 1 : Int)), (0, .string (bs (minB M))), (1, .string (bs (minB N)))] []) (by kernel_rfl) (by kernel_rfl) (by kernel_rfl) (fun _ => by kernel_rfl) (fun _ _ => by kernel_rfl) trivial (fun nb => ⟨(vZ (by omega)), (by simp only [bs_size, minB_len]; omega), ((byte_bs (minB_lt M) _).trans (minB_get M _)), (vZ (by omega)), (by simp only [bs_size, minB_len]; omega), ((byte_bs (minB_lt N) _).trans (minB_get N _)), trivial⟩) (fun nb => fun ac9 wd9 FF9 MM9 => then_n ?_))
      by_cases hs29 : (M / 256 ^ j % 256) ≠ (N / 256 ^ j % 256)
      · refine wp_cond_true ((FF9.ev 0 rfl).trans (dec_t hs29)) ?_
        refine wp_seq ?_
        refine wp_seq (rg_draw FF9 MM9 [.inl (.string (bs (minB M))), .inl (.int .i64 (j : Nat)), .inl (.int .u8 (M / 256 ^ j % 256 : Nat)), .inl (.string (bs (minB N))), .inl (.int .i64 (j : Nat)), .inl (.int .u8 (N / 256 ^ j % 256 : Nat)), .inl (.bool (decide ((M / 256 ^ j % 256) < (N / 256 ^ j % 256))))] [] [o_, t_ (.int .i64 (j : Nat)), t_ (.int .u8 (M / 256 ^ j % 256 : Nat)), o_, t_ (.int .i64 (j : Nat)), t_ (.int .u8 (N / 256 ^ j % 256 : Nat)), o_] [] [5, 0, 1, 36] (fun nb => [Value.int .i64 ((((j + 1) : Nat) : Int) - 1 : Int) = .int .i64 (j : Nat), j < (bs (minB M)).size, (nl (bs (minB M))).getD j 0 = M / 256 ^ j % 256, Value.int .i64 ((((j + 1) : Nat) : Int) - 1 : Int) = .int .i64 (j : Nat), j < (bs (minB N)).size, (nl (bs (minB N))).getD j 0 = N / 256 ^ j % 256]) (fun nb Kt => Kt [(36, .bool (decide ((M / 256 ^ j % 256) < (N / 256 ^ j % 256)))), (5, .int .i64 ((((j + 1) : Nat) : Int) - 1 : Int)), (0, .string (bs (minB M))), (1, .string (bs (minB N)))] []) (by kernel_rfl) (by kernel_rfl) (by kernel_rfl) (fun _ => by kernel_rfl) (fun _ _ => by kernel_rfl) trivial (fun nb => ⟨(vZ (by omega)), (by simp only [bs_size, minB_len]; omega), ((byte_bs (minB_lt M) _).trans (minB_get M _)), (vZ (by omega)), (by simp only [bs_size, minB_len]; omega), ((byte_bs (minB_lt N) _).trans (minB_get N _)), trivial⟩) (fun nb => fun ac10 wd10 FF10 MM10 => then_n ?_))
        by_cases hs36 : (M / 256 ^ j % 256) < (N / 256 ^ j % 256)
        · refine wp_cond_true ((FF10.ev 0 rfl).trans (dec_t hs36)) ?_
          have hM := cmp_lt hq hs36
          refine wp_seq (rg_seq FF10 MM10 [o_] [5, 0, 1, 4] (fun Kt => Kt [(4, .int .i64 (-1 : Int)), (5, .int .i64 ((((j + 1) : Nat) : Int) - 1 : Int)), (0, .string (bs (minB M))), (1, .string (bs (minB N)))] []) (by kernel_rfl) (fun _ => by kernel_rfl) (fun ac11 wd11 FF11 MM11 => then_n ?_))
          refine wp_ret ?_
          repeat first | refine then_ret ?_ | refine inb_ret ?_
          exact (ret_fr FF11 0 Tryd.results36 rfl ⟨congrArg (fun z => Ending.returned (Value.int .i64 z)) (cmpm hM), MM11.below⟩)
        · refine wp_cond_false ((FF10.ev 0 rfl).trans (dec_f hs36)) ?_
          have hM := cmp_lt hq.symm (by omega)
          refine wp_skip ?_
          refine then_n ?_
          refine wp_seq (rg_seq FF10 MM10 [o_] [5, 0, 1, 4] (fun Kt => Kt [(4, .int .i64 (1 : Nat)), (5, .int .i64 ((((j + 1) : Nat) : Int) - 1 : Int)), (0, .string (bs (minB M))), (1, .string (bs (minB N)))] []) (by kernel_rfl) (fun _ => by kernel_rfl) (fun ac12 wd12 FF12 MM12 => then_n ?_))
          refine wp_ret ?_
          repeat first | refine then_ret ?_ | refine inb_ret ?_
          exact (ret_fr FF12 0 Tryd.results36 rfl ⟨congrArg (fun z => Ending.returned (Value.int .i64 z)) (cmp1 hM), MM12.below⟩)
      · refine wp_cond_false ((FF9.ev 0 rfl).trans (dec_f hs29)) ?_
        have hq2 := cmp_eq hq (by omega)
        refine wp_skip ?_
        refine inb_n (then_n ?_)
        refine rg_seq FF9 MM9 [o_, u_ 4 (.int .i64 (((j : Nat) : Int) - 1 : Int)), o_] [5, 0, 1] (fun Kt => -(9223372036854775808 : Int) ≤ ((((j + 1) : Nat) : Int) - 1) - ((1 : Nat) : Int) ∧ ((((j + 1) : Nat) : Int) - 1) - ((1 : Nat) : Int) < (9223372036854775808 : Nat) ∧ Value.int .i64 (((((j + 1) : Nat) : Int) - 1) - ((1 : Nat) : Int) : Int) = .int .i64 (((j : Nat) : Int) - 1 : Int) ∧ Kt [(5, .int .i64 (((j : Nat) : Int) - 1 : Int)), (0, .string (bs (minB M))), (1, .string (bs (minB N)))] []) (by kernel_rfl) (fun _ => by kernel_rfl) (⟨(by omega), (by omega), (vZ (by omega)), fun ac13 wd13 FF13 MM13 => ?_⟩)
        have hd := cnt_of (FF13.get 0 rfl)
        refine then_n ⟨⟨j, by omega, hq2, FF13.pick [0, 1, 2], MM13⟩, ?_⟩
        rw [hc, hd]; omega
    · skip
      refine then_n (.inr ⟨(FF8.ev 0 rfl).trans (dec_f hlt), ?_⟩)
      obtain rfl : j = 0 := by omega
      have hM : M = N := by simpa using hq
      refine then_n ?_
      refine wp_seq (rg_seq FF8 MM8 [o_] [5, 0, 1, 4] (fun Kt => Kt [(4, .int .i64 (0 : Nat)), (5, .int .i64 (((0 : Nat) : Int) - 1 : Int)), (0, .string (bs (minB M))), (1, .string (bs (minB N)))] []) (by kernel_rfl) (fun _ => by kernel_rfl) (fun ac14 wd14 FF14 MM14 => then_n ?_))
      refine wp_ret ?_
      repeat first | refine then_ret ?_ | refine inb_ret ?_
      exact (ret_fr FF14 0 Tryd.results36 rfl ⟨congrArg (fun z => Ending.returned (Value.int .i64 z)) (cmp0 hM), MM14.below⟩)

end Go.Proofs.YtdeiodcfblldgaaDoor
namespace Go.Proofs.YtdeiodcfblldgaaDoor
open Go.RowKit

theorem bsz_half {x : Nat} (h : 0 < x) : bsz x = 1 + bsz (x / 2) := by
  rcases Nat.lt_or_ge x 2 with h2 | h2
  · obtain rfl : x = 1 := by omega
    rfl
  · exact bsz_div (k := 1) h2
theorem bits8_top {M : Nat} (h : ¬ sz M = 0) : 8 * (sz M - 1) + bsz (M / 256 ^ (sz M - 1) % 256) = bsz M := by
  have h2 := (sz_ok M).2.resolve_left h
  have e : 256 ^ (sz M - 1) = 2 ^ (8 * (sz M - 1)) := by rw [show 256 = 2 ^ 8 by rfl, ← Nat.pow_mul]
  have h1 := (sz_ok M).1
  have e2 : 256 ^ sz M = 256 ^ (sz M - 1) * 256 := by rw [← Nat.pow_succ]; congr 1; omega
  rw [bsz_div (k := 8 * (sz M - 1)) (x := M) (by rw [← e]; exact h2), ← e, Nat.mod_eq_of_lt (Nat.div_lt_of_lt_mul (by rw [← e2]; exact h1))]
theorem sz0 {M : Nat} (h : sz M = 0) : M = 0 := by have := (sz_ok M).1; rw [h] at this; simpa using this
theorem bsz_sz (M : Nat) : bsz M ≤ 8 * sz M := bsz_le (by have := (sz_ok M).1; rwa [show 256 = 2 ^ 8 by rfl, ← Nat.pow_mul] at this)
set_option maxRecDepth 100000 in
theorem bits8_any (N : Nat) (hz : sz N < 1000000) (w0 : World) :
    Calls Tryd.prog 35 #[.string (bs (minB N))] w0 fun e w' => e = .returned (.int .i64 (bsz N : Nat)) ∧ Below w0.heap.size w0 w' := by
  refine enter_fr Tryd.func35 rfl Tryd.ntmps35 (by simp) fun ac (FF : Fr 24 ac [(0, .string (bs (minB N)))]) => ?_
  have MM := MemS.start w0
  refine wp_seq (rg_seq FF MM [o_] [0, 2] (fun Kt => Kt [(2, .int .i64 (0 : Nat)), (0, .string (bs (minB N)))] []) (by kernel_rfl) (fun _ => by kernel_rfl) (fun ac1 wd1 FF1 MM1 => then_n ?_))
  refine wp_seq ?_
  refine wp_seq (rg_seq FF1 MM1 [o_, t_ (.int .i64 (sz N : Nat)), o_] [2, 0, 7] (fun Kt => Value.int .i64 ((bs (minB N)).size : Nat) = .int .i64 (sz N : Nat) ∧ Kt [(7, .bool (decide ((sz N) = 0))), (2, .int .i64 (0 : Nat)), (0, .string (bs (minB N)))] []) (by kernel_rfl) (fun _ => by kernel_rfl) (⟨(vI ((bs_size _).trans (minB_len N))), fun ac2 wd2 FF2 MM2 => then_n ?_⟩))
  by_cases hs7 : (sz N) = 0
  · refine wp_cond_true ((FF2.ev 0 rfl).trans (dec_t hs7)) ?_
    refine wp_seq (rg_seq FF2 MM2 [o_] [2, 0] (fun Kt => Kt [(2, .int .i64 (0 : Nat)), (0, .string (bs (minB N)))] []) (by kernel_rfl) (fun _ => by kernel_rfl) (fun ac3 wd3 FF3 MM3 => then_n ?_))
    refine wp_ret ?_
    repeat first | refine then_ret ?_ | refine inb_ret ?_
    exact (ret_fr FF3 0 Tryd.results35 rfl ⟨congrArg (fun z : Nat => Ending.returned (Value.int .i64 (z : Int))) ((by rw [sz0 hs7]; rfl)), MM3.below⟩)
  · refine wp_cond_false ((FF2.ev 0 rfl).trans (dec_f hs7)) ?_
    have hb := bsz_sz N
    have ht : N / 256 ^ (sz N - 1) % 256 < 256 := Nat.mod_lt _ (by decide)
    refine wp_skip ?_
    refine then_n ?_
    refine wp_seq (rg_seq FF2 MM2 [o_, t_ (.int .i64 (sz N : Nat)), o_, o_, o_] [2, 0, 3] (fun Kt => Value.int .i64 ((bs (minB N)).size : Nat) = .int .i64 (sz N : Nat) ∧ 1 ≤ (sz N) ∧ (sz N) - 1 < 9223372036854775808 ∧ 8 * ((sz N) - 1) < 9223372036854775808 ∧ Kt [(3, .int .i64 (8 * ((sz N) - 1) : Nat)), (2, .int .i64 (0 : Nat)), (0, .string (bs (minB N)))] []) (by kernel_rfl) (fun _ => by kernel_rfl) (⟨(vI ((bs_size _).trans (minB_len N))), (by omega), (by omega), (by omega), fun ac4 wd4 FF4 MM4 => then_n ?_⟩))
    refine wp_seq ?_
    refine wp_seq (rg_seq FF4 MM4 [o_, o_, t_ (.int .i64 (sz N : Nat)), o_, t_ (.int .u8 (N / 256 ^ (sz N - 1) % 256 : Nat)), o_] [3, 2, 0, 4] (fun Kt => Value.int .i64 ((bs (minB N)).size : Nat) = .int .i64 (sz N : Nat) ∧ 1 ≤ (sz N) ∧ (sz N) - 1 < 9223372036854775808 ∧ ((sz N) - 1) < (bs (minB N)).size ∧ (nl (bs (minB N))).getD ((sz N) - 1) 0 = N / 256 ^ (sz N - 1) % 256 ∧ Kt [(4, .int .u8 (N / 256 ^ (sz N - 1) % 256 : Nat)), (3, .int .i64 (8 * ((sz N) - 1) : Nat)), (2, .int .i64 (0 : Nat)), (0, .string (bs (minB N)))] []) (by kernel_rfl) (fun _ => by kernel_rfl) (⟨(vI ((bs_size _).trans (minB_len N))), (by omega), (by omega), (by simp only [bs_size, minB_len]; omega), ((byte_bs (minB_lt N) _).trans (minB_get N _)), fun ac5 wd5 FF5 MM5 => then_n ?_⟩))
    refine wp_for2 (fun a' w' => ∃ x : Nat, ∃ c : Nat, x < 256 ∧ c + bsz x = bsz N ∧ Fr 24 a' [(4, .int .u8 (x : Nat)), (3, .int .i64 (c : Nat)), (2, .int .i64 (0 : Nat)), (0, .string (bs (minB N)))] ∧ MemS (fun k => k < w0.heap.size) w0 w' [] []) (fun a' _ => (cnt 4 a').toNat) ⟨N / 256 ^ (sz N - 1) % 256, 8 * (sz N - 1), ht, bits8_top hs7, FF5.pick [0, 1, 2, 3], MM5⟩ ?_
    rintro ac6 wd6 ⟨x, c, hx, hc, FF6, MM6⟩
    have hq := cnt_of (FF6.get 0 rfl)
    refine rg_seq FF6 MM6 [o_, o_] [4, 3, 2, 0, 18] (fun Kt => Kt [(18, .bool (decide (x > 0))), (4, .int .u8 (x : Nat)), (3, .int .i64 (c : Nat)), (2, .int .i64 (0 : Nat)), (0, .string (bs (minB N)))] []) (by kernel_rfl) (fun _ => by kernel_rfl) (fun ac7 wd7 FF7 MM7 => ?_)
    by_cases hlt : x > 0
    · skip
      refine then_n (.inl ⟨(FF7.ev 0 rfl).trans (dec_t hlt), ?_⟩)
      refine rg_seq FF7 MM7 [o_, o_, o_] [4, 3, 2, 0] (fun Kt => c + 1 < 9223372036854775808 ∧ Kt [(3, .int .i64 (c + 1 : Nat)), (4, .int .u8 (x : Nat)), (2, .int .i64 (0 : Nat)), (0, .string (bs (minB N)))] []) (by kernel_rfl) (fun _ => by kernel_rfl) (⟨(by omega), fun ac8 wd8 FF8 MM8 => ?_⟩)
      refine inb_n (then_n ?_)
      refine rg_seq FF8 MM8 [o_, o_, o_] [3, 4, 2, 0] (fun Kt => 1 ≤ 8 ∧ Kt [(4, .int .u8 (x / 2 : Nat)), (3, .int .i64 (c + 1 : Nat)), (2, .int .i64 (0 : Nat)), (0, .string (bs (minB N)))] []) (by kernel_rfl) (fun _ => by kernel_rfl) (⟨(by decide), fun ac9 wd9 FF9 MM9 => ?_⟩)
      have hd := cnt_of (FF9.get 0 rfl)
      refine then_n ⟨⟨x / 2, c + 1, by omega, by rw [bsz_half hlt] at hc; omega, FF9.pick [0, 1, 2, 3], MM9⟩, ?_⟩
      rw [hq, hd]; omega
    · skip
      refine then_n (.inr ⟨(FF7.ev 0 rfl).trans (dec_f hlt), ?_⟩)
      have he : c = bsz N := by rw [show x = 0 by omega] at hc; exact hc
      refine then_n ?_
      refine wp_seq (rg_seq FF7 MM7 [o_, o_] [4, 3, 2, 0] (fun Kt => Kt [(2, .int .i64 (c : Nat)), (4, .int .u8 (x : Nat)), (3, .int .i64 (c : Nat)), (0, .string (bs (minB N)))] []) (by kernel_rfl) (fun _ => by kernel_rfl) (fun ac10 wd10 FF10 MM10 => then_n ?_))
      refine wp_ret ?_
      repeat first | refine then_ret ?_ | refine inb_ret ?_
      exact (ret_fr FF10 0 Tryd.results35 rfl ⟨congrArg (fun z : Nat => Ending.returned (Value.int .i64 (z : Int))) (he), MM10.below⟩)

end Go.Proofs.YtdeiodcfblldgaaDoor
namespace Go.Proofs.YtdeiodcfblldgaaDoor
open Go.RowKit

theorem en_rtake : Enters Tryd.prog 12 := fun args w => by simp [go_sem]
theorem en_rkey : Enters Tryd.prog 14 := fun args w => by simp [go_sem]
theorem en_rid_ : Enters Tryd.prog 16 := fun args w => by simp [go_sem]
theorem en_rbelow : Enters Tryd.prog 18 := fun args w => by simp [go_sem]
theorem en_runder : Enters Tryd.prog 21 := fun args w => by simp [go_sem]
/-- The document's tape: its bytes, how many were taken. -/
abbrev RB (X : List Nat) (u : Nat) : Obj := .cells #[.string (bs X), .int .i64 (u : Nat)] 29
set_option maxRecDepth 100000 in
theorem rtake_any (g n : Nat) (X : List Nat) (u : Nat) (hX : ∀ i, X.getD i 0 < 256) (hu : u < 4611686018427387904) (hn : n ≤ 65536) (w0 : World) (hg : w0.heap[g]? = some (RB X u)) :
    Calls Tryd.prog 12 #[.pointer (some ⟨g, 0, none⟩), .int .i64 (n : Nat)] w0 fun e w' => e = .returned (.string (bs (takN n (X.drop u)))) ∧ Turn g (RB X (u + n)) w0 w' := by
  refine enter_fr Tryd.func12 rfl Tryd.ntmps12 (by simp) fun ac (FF : Fr 51 ac [(0, .pointer (some ⟨g, 0, none⟩)), (1, .int .i64 (n : Nat))]) => ?_
  have MM : MemS (fun k => k < w0.heap.size ∧ ∀ x ∈ (g, Obj.cells (#[.string (bs X), .int .i64 (u : Nat)] : Array Value) 29) :: ([] : Blks), x.1 ≠ k) w0 w0 ((g, .cells (#[.string (bs X), .int .i64 (u : Nat)] : Array Value) 29) :: ([] : Blks)) [] := MemS.startN (one_has hg) ⟨fun y hy => (nomatch hy), trivial⟩
  have hgl : ∀ j i, (genL n (fun j => (X.drop u).getD j 0) j).getD i 0 < 256 := fun j => genL_lt (by decide) (fun i => dropX_lt hX u i) j
  refine wp_seq (rg_seq FF MM [o_] [0, 1, 4] (fun Kt => Kt [(4, .string (bs [])), (0, .pointer (some ⟨g, 0, none⟩)), (1, .int .i64 (n : Nat))] ((g, .cells (#[.string (bs X), .int .i64 (u : Nat)] : Array Value) 29) :: ([] : Blks))) (by kernel_rfl) (fun _ => by kernel_rfl) (fun ac1 wd1 FF1 MM1 => then_n ?_))
  refine wp_seq ?_
  refine wp_seq (rg_seq FF1 MM1 [o_, w_ 3, o_, o_, w_ 3, o_] [4, 0, 1, 12] (fun Kt => ¬ (n < 0) ∧ ¬ (n > 65536) ∧ Kt [(12, .bool false), (4, .string (bs [])), (0, .pointer (some ⟨g, 0, none⟩)), (1, .int .i64 (n : Nat))] ((g, .cells (#[.string (bs X), .int .i64 (u : Nat)] : Array Value) 29) :: ([] : Blks))) (by kernel_rfl) (fun _ => by kernel_rfl) (⟨(by have := hn; omega), (by have := hn; omega), fun ac2 wd2 FF2 MM2 => then_n ?_⟩))
  refine wp_cond_false (FF2.ev 0 rfl) ?_
  refine wp_skip ?_
  refine then_n ?_
  refine wp_seq (rg_seq FF2 MM2 [o_, n_ (.slice none n n) (.cells (cn .u8 (List.replicate n 0)) 5), o_] [4, 0, 1, 5] (fun Kt => RunN Tryd.prog [(13, .int .i64 (n : Nat)), (12, .bool false), (4, .string (bs [])), (0, .pointer (some ⟨g, 0, none⟩)), (1, .int .i64 (n : Nat))] ((g, .cells (#[.string (bs X), .int .i64 (u : Nat)] : Array Value) 29) :: ([] : Blks)) (opAt Tryd.f12 3 1) (mkOf (.slice none n n)) (.cells (cn .u8 (List.replicate n 0)) 5) ∧ ∀ bo, Kt [(5, .slice (some ⟨bo, 0, none⟩) n n), (4, .string (bs [])), (0, .pointer (some ⟨g, 0, none⟩)), (1, .int .i64 (n : Nat))] ((bo, .cells (cn .u8 (List.replicate n 0)) 5) :: (g, .cells (#[.string (bs X), .int .i64 (u : Nat)] : Array Value) 29) :: ([] : Blks))) (by kernel_rfl) (fun _ => by kernel_rfl) (⟨(make_ok (t := 63) (e := 5) (p := (.tmp 13)) (q := (.tmp 13)) (by kernel_rfl) rfl rfl Tryd.underlying63 (by kernel_rfl) (by have := hn; omega)), fun bo => fun ac3 wd3 FF3 MM3 => then_n ?_⟩))
  have MMr10 : MemS (fun k => k < w0.heap.size ∧ ∀ x ∈ (g, Obj.cells (#[.string (bs X), .int .i64 (u : Nat)] : Array Value) 29) :: ([] : Blks), x.1 ≠ k) w0 wd3 ((bo, .cells (cn .u8 (genL n (fun j => (X.drop u).getD j 0) 0)) 5) :: (g, .cells (#[.string (bs X), .int .i64 (u : Nat)] : Array Value) 29) :: ([] : Blks)) [] := by rw [← genL_zero n (fun j => (X.drop u).getD j 0)]; exact MM3
  refine wp_seq ?_
  refine wp_seq (rg_seq FF3 MMr10 [o_] [5, 4, 0, 1, 6] (fun Kt => Kt [(6, .int .i64 (0 : Nat)), (5, .slice (some ⟨bo, 0, none⟩) n n), (4, .string (bs [])), (0, .pointer (some ⟨g, 0, none⟩)), (1, .int .i64 (n : Nat))] ((bo, .cells (cn .u8 (genL n (fun j => (X.drop u).getD j 0) 0)) 5) :: (g, .cells (#[.string (bs X), .int .i64 (u : Nat)] : Array Value) 29) :: ([] : Blks))) (by kernel_rfl) (fun _ => by kernel_rfl) (fun ac4 wd4 FF4 MM4 => then_n ?_))
  refine wp_for2 (fun a' w' => ∃ i : Nat, i ≤ n ∧ Fr 51 a' [(6, .int .i64 (i : Nat)), (5, .slice (some ⟨bo, 0, none⟩) n n), (4, .string (bs [])), (0, .pointer (some ⟨g, 0, none⟩)), (1, .int .i64 (n : Nat))] ∧ MemS (fun k => k < w0.heap.size ∧ ∀ x ∈ (g, Obj.cells (#[.string (bs X), .int .i64 (u : Nat)] : Array Value) 29) :: ([] : Blks), x.1 ≠ k) w0 w' ((bo, .cells (cn .u8 (genL n (fun j => (X.drop u).getD j 0) i)) 5) :: (g, .cells (#[.string (bs X), .int .i64 (u + i : Nat)] : Array Value) 29) :: ([] : Blks)) []) (fun a' _ => (n - cnt 6 a').toNat) ⟨0, Nat.zero_le _, FF4.pick [0, 1, 2, 3, 4], MM4⟩ ?_
  rintro ac5 wd5 ⟨i, hi, FF5, MM5⟩
  have hc := cnt_of (FF5.get 0 rfl)
  refine rg_seq FF5 MM5 [o_, o_, o_] [6, 5, 4, 0, 1, 17] (fun Kt => Kt [(17, .bool (decide (i < n))), (6, .int .i64 (i : Nat)), (5, .slice (some ⟨bo, 0, none⟩) n n), (4, .string (bs [])), (0, .pointer (some ⟨g, 0, none⟩)), (1, .int .i64 (n : Nat))] ((bo, .cells (cn .u8 (genL n (fun j => (X.drop u).getD j 0) i)) 5) :: (g, .cells (#[.string (bs X), .int .i64 (u + i : Nat)] : Array Value) 29) :: ([] : Blks))) (by kernel_rfl) (fun _ => by kernel_rfl) (fun ac6 wd6 FF6 MM6 => ?_)
  by_cases hlt : i < n
  · skip
    refine then_n (.inl ⟨(FF6.ev 0 rfl).trans (dec_t hlt), ?_⟩)
    refine wp_mid (fun a' w' => Fr 51 a' [(6, .int .i64 (i : Nat)), (5, .slice (some ⟨bo, 0, none⟩) n n), (4, .string (bs [])), (0, .pointer (some ⟨g, 0, none⟩)), (1, .int .i64 (n : Nat))] ∧ MemS (fun k => k < w0.heap.size ∧ ∀ x ∈ (g, Obj.cells (#[.string (bs X), .int .i64 (u : Nat)] : Array Value) 29) :: ([] : Blks), x.1 ≠ k) w0 w' ((bo, .cells (cn .u8 (genL n (fun j => (X.drop u).getD j 0) (i + 1))) 5) :: (g, .cells (#[.string (bs X), .int .i64 (u + i : Nat)] : Array Value) 29) :: ([] : Blks)) []) ?_ ?_
    · skip
      refine wp_seq (rg_draw FF6 MM6 [.inl (.pointer (some ⟨g, 0, none⟩)), .inl (.pointer (some ⟨g, 0, none⟩)), .inl (.pointer (some ⟨g, 1, none⟩)), .inl (.int .i64 (u + i : Nat)), .inl (.pointer (some ⟨g, 0, none⟩)), .inl (.pointer (some ⟨g, 0, none⟩)), .inl (.pointer (some ⟨g, 0, none⟩)), .inl (.string (bs X)), .inl (.int .i64 (X.length : Nat)), .inl (.bool (decide ((u + i) < X.length)))] [] [o_, o_, o_, l_ 1 (.int .i64 (u + i : Nat)), o_, o_, o_, l_ 1 (.string (bs X)), t_ (.int .i64 (X.length : Nat)), o_] [] [6, 5, 4, 0, 1, 29] (fun nb => [g = g, (#[.string (bs X), .int .i64 (u + i : Nat)] : Array Value)[1]? = some (.int .i64 (u + i : Nat)), g = g, (#[.string (bs X), .int .i64 (u + i : Nat)] : Array Value)[0]? = some (.string (bs X)), Value.int .i64 ((bs X).size : Nat) = .int .i64 (X.length : Nat)]) (fun nb Kt => Kt [(29, .bool (decide ((u + i) < X.length))), (6, .int .i64 (i : Nat)), (5, .slice (some ⟨bo, 0, none⟩) n n), (4, .string (bs [])), (0, .pointer (some ⟨g, 0, none⟩)), (1, .int .i64 (n : Nat))] ((bo, .cells (cn .u8 (genL n (fun j => (X.drop u).getD j 0) i)) 5) :: (g, .cells (#[.string (bs X), .int .i64 (u + i : Nat)] : Array Value) 29) :: ([] : Blks))) (by kernel_rfl) (by kernel_rfl) (by kernel_rfl) (fun _ => by kernel_rfl) (fun _ _ => by kernel_rfl) trivial (fun nb => ⟨rfl, rfl, rfl, rfl, (vI (bs_size _)), trivial⟩) (fun nb => fun ac7 wd7 FF7 MM7 => then_n ?_))
      by_cases hs29 : (u + i) < X.length
      · refine wp_cond_true ((FF7.ev 0 rfl).trans (dec_t hs29)) ?_
        refine rg_draw FF7 MM7 [.inl (.slice (some ⟨bo, 0, none⟩) n n), .inl (.int .i64 (i : Nat)), .inl (.pointer (some ⟨g, 0, none⟩)), .inl (.pointer (some ⟨g, 0, none⟩)), .inl (.pointer (some ⟨g, 0, none⟩)), .inl (.string (bs X)), .inl (.pointer (some ⟨g, 0, none⟩)), .inl (.pointer (some ⟨g, 0, none⟩)), .inl (.pointer (some ⟨g, 1, none⟩)), .inl (.int .i64 (u + i : Nat)), .inl (.int .u8 ((X.drop u).getD i 0 : Nat)), .inl (.pointer (some ⟨bo, i, none⟩))] [] [o_, o_, o_, o_, o_, l_ 1 (.string (bs X)), o_, o_, o_, l_ 1 (.int .i64 (u + i : Nat)), t_ (.int .u8 ((X.drop u).getD i 0 : Nat)), w_ 1] [s_ 0 (.cells (cn .u8 (genL n (fun j => (X.drop u).getD j 0) (i + 1))) 5)] [6, 5, 4, 0, 1] (fun nb => [g = g, (#[.string (bs X), .int .i64 (u + i : Nat)] : Array Value)[0]? = some (.string (bs X)), g = g, (#[.string (bs X), .int .i64 (u + i : Nat)] : Array Value)[1]? = some (.int .i64 (u + i : Nat)), (u + i) < (bs X).size, (nl (bs X)).getD (u + i) 0 = (X.drop u).getD i 0, i < n]) (fun nb Kt => bo = bo ∧ i < (cn .u8 (genL n (fun j => (X.drop u).getD j 0) i)).size ∧ (((0, 0)).2 = 0 ∨ i < ((0, 0)).1) ∧ (cn .u8 (genL n (fun j => (X.drop u).getD j 0) i)).setIfInBounds i (.int .u8 ((X.drop u).getD i 0 : Nat)) = cn .u8 (genL n (fun j => (X.drop u).getD j 0) (i + 1)) ∧ Kt [(6, .int .i64 (i : Nat)), (5, .slice (some ⟨bo, 0, none⟩) n n), (4, .string (bs [])), (0, .pointer (some ⟨g, 0, none⟩)), (1, .int .i64 (n : Nat))] ((bo, .cells (cn .u8 (genL n (fun j => (X.drop u).getD j 0) (i + 1))) 5) :: (g, .cells (#[.string (bs X), .int .i64 (u + i : Nat)] : Array Value) 29) :: ([] : Blks))) (by kernel_rfl) (by kernel_rfl) (by kernel_rfl) (fun _ => by kernel_rfl) (fun _ _ => by kernel_rfl) trivial (fun nb => ⟨rfl, rfl, rfl, rfl, (by rw [bs_size]; exact hs29), ((byte_bs hX _).trans (dropD X u i).symm), (by omega), trivial⟩) (fun nb => ⟨rfl, (by rw [cn_size, (genL_len _ _ _)]; omega), (.inl rfl), ((cn_set _ _ _ _).trans (congrArg _ (genL_step _ _ i (by omega) rfl))), fun ac8 wd8 FF8 MM8 => ?_⟩)
        refine then_n ?_
        exact ⟨FF8.pick [0, 1, 2, 3, 4], MM8⟩
      · refine wp_cond_false ((FF7.ev 0 rfl).trans (dec_f hs29)) ?_
        have MMr29 : MemS (fun k => k < w0.heap.size ∧ ∀ x ∈ (g, Obj.cells (#[.string (bs X), .int .i64 (u : Nat)] : Array Value) 29) :: ([] : Blks), x.1 ≠ k) w0 wd7 ((bo, .cells (cn .u8 (genL n (fun j => (X.drop u).getD j 0) (i + 1))) 5) :: (g, .cells (#[.string (bs X), .int .i64 (u + i : Nat)] : Array Value) 29) :: ([] : Blks)) [] := by rw [tk_zero (X := X.drop u) (by simp; omega) hlt]; exact MM7
        refine wp_skip ?_
        refine then_n ?_
        exact ⟨FF7.pick [1, 2, 3, 4, 5], MMr29⟩
    · rintro ac9 wd9 ⟨FF9, MM9⟩
      refine rg_seq FF9 MM9 [o_, o_, o_, l_ 1 (.int .i64 (u + i : Nat)), o_, o_, o_, s_ 1 (.cells (#[.string (bs X), .int .i64 ((u + i) + 1 : Nat)] : Array Value) 29)] [6, 5, 4, 0, 1] (fun Kt => g = g ∧ (#[.string (bs X), .int .i64 (u + i : Nat)] : Array Value)[1]? = some (.int .i64 (u + i : Nat)) ∧ (u + i) + 1 < 9223372036854775808 ∧ g = g ∧ 1 < (#[.string (bs X), .int .i64 (u + i : Nat)] : Array Value).size ∧ (((0, 0)).2 = 0 ∨ 1 < ((0, 0)).1) ∧ (#[.string (bs X), .int .i64 (u + i : Nat)] : Array Value).setIfInBounds 1 (.int .i64 ((u + i) + 1 : Nat)) = #[.string (bs X), .int .i64 ((u + i) + 1 : Nat)] ∧ Kt [(6, .int .i64 (i : Nat)), (5, .slice (some ⟨bo, 0, none⟩) n n), (4, .string (bs [])), (0, .pointer (some ⟨g, 0, none⟩)), (1, .int .i64 (n : Nat))] ((bo, .cells (cn .u8 (genL n (fun j => (X.drop u).getD j 0) (i + 1))) 5) :: (g, .cells (#[.string (bs X), .int .i64 ((u + i) + 1 : Nat)] : Array Value) 29) :: ([] : Blks))) (by kernel_rfl) (fun _ => by kernel_rfl) (⟨rfl, rfl, (by omega), rfl, (by simp), (.inl rfl), rfl, fun ac10 wd10 FF10 MM10 => ?_⟩)
      refine inb_n (then_n ?_)
      refine rg_seq FF10 MM10 [o_, o_, o_] [6, 5, 4, 0, 1] (fun Kt => i + 1 < 9223372036854775808 ∧ Kt [(6, .int .i64 (i + 1 : Nat)), (5, .slice (some ⟨bo, 0, none⟩) n n), (4, .string (bs [])), (0, .pointer (some ⟨g, 0, none⟩)), (1, .int .i64 (n : Nat))] ((bo, .cells (cn .u8 (genL n (fun j => (X.drop u).getD j 0) (i + 1))) 5) :: (g, .cells (#[.string (bs X), .int .i64 ((u + i) + 1 : Nat)] : Array Value) 29) :: ([] : Blks))) (by kernel_rfl) (fun _ => by kernel_rfl) (⟨(by omega), fun ac11 wd11 FF11 MM11 => ?_⟩)
      have hd := cnt_of (FF11.get 0 rfl)
      refine then_n ⟨⟨i + 1, by omega, FF11.pick [0, 1, 2, 3, 4], MM11⟩, ?_⟩
      rw [hc, hd]; omega
  · skip
    refine then_n (.inr ⟨(FF6.ev 0 rfl).trans (dec_f hlt), ?_⟩)
    obtain rfl : n = i := by omega
    have MMl : MemS (fun k => k < w0.heap.size ∧ ∀ x ∈ (g, Obj.cells (#[.string (bs X), .int .i64 (u : Nat)] : Array Value) 29) :: ([] : Blks), x.1 ≠ k) w0 wd6 ((bo, .cells (cn .u8 (takN n (X.drop u))) 5) :: (g, .cells (#[.string (bs X), .int .i64 (u + n : Nat)] : Array Value) 29) :: ([] : Blks)) [] := by rw [← tkI_end n (X.drop u)]; exact MM6
    refine then_n ?_
    refine wp_seq (rg_seq FF6 MMl [o_, l_ 0 (.string (bs (takN n (X.drop u)))), o_] [6, 5, 4, 0, 1] (fun Kt => bo = bo ∧ StrAt (cn .u8 (takN n (X.drop u))) 0 n (bs (takN n (X.drop u))) ∧ Kt [(4, .string (bs (takN n (X.drop u)))), (6, .int .i64 (n : Nat)), (5, .slice (some ⟨bo, 0, none⟩) n n), (0, .pointer (some ⟨g, 0, none⟩)), (1, .int .i64 (n : Nat))] ((bo, .cells (cn .u8 (takN n (X.drop u))) 5) :: (g, .cells (#[.string (bs X), .int .i64 (u + n : Nat)] : Array Value) 29) :: ([] : Blks))) (by kernel_rfl) (fun _ => by kernel_rfl) (⟨rfl, (str_all (takN_len _ _) (takN_lt (dropX_lt hX u) n)), fun ac12 wd12 FF12 MM12 => then_n ?_⟩))
    refine wp_ret ?_
    repeat first | refine then_ret ?_ | refine inb_ret ?_
    exact (ret_fr FF12 0 Tryd.results12 rfl ⟨rfl, MM12.turn (O := []) (fun i x hx => by simp at hx) 1 rfl (fun x hx => (nomatch hx))⟩)
set_option maxRecDepth 100000 in
theorem rtake_neg (g : Nat) (z : Int) (hz : z < 0) (w0 : World) :
    Calls Tryd.prog 12 #[.pointer (some ⟨g, 0, none⟩), .int .i64 z] w0 fun e w' => e = .returned (.string (bs [])) ∧ Below w0.heap.size w0 w' := by
  refine enter_fr Tryd.func12 rfl Tryd.ntmps12 (by simp) fun ac (FF : Fr 51 ac [(0, .pointer (some ⟨g, 0, none⟩)), (1, .int .i64 (z : Int))]) => ?_
  have MM := MemS.start w0
  refine wp_seq (rg_seq FF MM [o_] [0, 1, 4] (fun Kt => Kt [(4, .string (bs [])), (0, .pointer (some ⟨g, 0, none⟩)), (1, .int .i64 (z : Int))] []) (by kernel_rfl) (fun _ => by kernel_rfl) (fun ac1 wd1 FF1 MM1 => then_n ?_))
  refine wp_seq ?_
  refine wp_seq (rg_seq FF1 MM1 [o_, w_ 6, o_, o_, o_, o_] [4, 0, 1, 12] (fun Kt => z < ((0 : Nat) : Int) ∧ Kt [(12, .bool true), (4, .string (bs [])), (0, .pointer (some ⟨g, 0, none⟩)), (1, .int .i64 (z : Int))] []) (by kernel_rfl) (fun _ => by kernel_rfl) (⟨hz, fun ac2 wd2 FF2 MM2 => then_n ?_⟩))
  refine wp_cond_true (FF2.ev 0 rfl) ?_
  refine wp_seq (rg_seq FF2 MM2 [o_] [4, 0, 1] (fun Kt => Kt [(4, .string (bs [])), (0, .pointer (some ⟨g, 0, none⟩)), (1, .int .i64 (z : Int))] []) (by kernel_rfl) (fun _ => by kernel_rfl) (fun ac3 wd3 FF3 MM3 => then_n ?_))
  refine wp_ret ?_
  repeat first | refine then_ret ?_ | refine inb_ret ?_
  exact (ret_fr FF3 0 Tryd.results12 rfl ⟨rfl, MM3.below⟩)
set_option maxRecDepth 100000 in
theorem rtake_big (g : Nat) (z : Int) (hz : z > 65536) (w0 : World) :
    Calls Tryd.prog 12 #[.pointer (some ⟨g, 0, none⟩), .int .i64 z] w0 fun e w' => e = .returned (.string (bs [])) ∧ Below w0.heap.size w0 w' := by
  refine enter_fr Tryd.func12 rfl Tryd.ntmps12 (by simp) fun ac (FF : Fr 51 ac [(0, .pointer (some ⟨g, 0, none⟩)), (1, .int .i64 (z : Int))]) => ?_
  have MM := MemS.start w0
  refine wp_seq (rg_seq FF MM [o_] [0, 1, 4] (fun Kt => Kt [(4, .string (bs [])), (0, .pointer (some ⟨g, 0, none⟩)), (1, .int .i64 (z : Int))] []) (by kernel_rfl) (fun _ => by kernel_rfl) (fun ac1 wd1 FF1 MM1 => then_n ?_))
  refine wp_seq ?_
  refine wp_seq (rg_seq FF1 MM1 [o_, u_ 4 (.bool false), o_, o_, w_ 6, o_] [4, 0, 1, 12] (fun Kt => Value.bool (decide (z < ((0 : Nat) : Int))) = .bool false ∧ z > ((65536 : Nat) : Int) ∧ Kt [(12, .bool true), (4, .string (bs [])), (0, .pointer (some ⟨g, 0, none⟩)), (1, .int .i64 (z : Int))] []) (by kernel_rfl) (fun _ => by kernel_rfl) (⟨(dec_f (by omega)), hz, fun ac2 wd2 FF2 MM2 => then_n ?_⟩))
  refine wp_cond_true (FF2.ev 0 rfl) ?_
  refine wp_seq (rg_seq FF2 MM2 [o_] [4, 0, 1] (fun Kt => Kt [(4, .string (bs [])), (0, .pointer (some ⟨g, 0, none⟩)), (1, .int .i64 (z : Int))] []) (by kernel_rfl) (fun _ => by kernel_rfl) (fun ac3 wd3 FF3 MM3 => then_n ?_))
  refine wp_ret ?_
  repeat first | refine then_ret ?_ | refine inb_ret ?_
  exact (ret_fr FF3 0 Tryd.results12 rfl ⟨rfl, MM3.below⟩)
set_option maxRecDepth 100000 in
theorem rkey_any (g : Nat) (X : List Nat) (u : Nat) (hX : ∀ i, X.getD i 0 < 256) (hu : u < 4611686018427387904)  (w0 : World) (hg : w0.heap[g]? = some (RB X u)) :
    Calls Tryd.prog 14 #[.pointer (some ⟨g, 0, none⟩)] w0 fun e w' => e = .returned (.agg (cn .u8 (takN 32 (X.drop u)))) ∧ Turn g (RB X (u + 32)) w0 w' := by
  refine enter_fr Tryd.func14 rfl Tryd.ntmps14 (by simp) fun ac (FF : Fr 10 ac [(0, .pointer (some ⟨g, 0, none⟩))]) => ?_
  have MM : MemS (fun k => k < w0.heap.size ∧ ∀ x ∈ (g, Obj.cells (#[.string (bs X), .int .i64 (u : Nat)] : Array Value) 29) :: ([] : Blks), x.1 ≠ k) w0 w0 ((g, .cells (#[.string (bs X), .int .i64 (u : Nat)] : Array Value) 29) :: ([] : Blks)) [] := MemS.startN (one_has hg) ⟨fun y hy => (nomatch hy), trivial⟩
  refine wp_seq (rg_seq FF MM [o_] [0, 2] (fun Kt => ∀ br, Kt [(2, .pointer (some ⟨br, 0, none⟩)), (0, .pointer (some ⟨g, 0, none⟩))] ((br, .cells (cn .u8 (List.replicate 32 0)) 33) :: (g, .cells (#[.string (bs X), .int .i64 (u : Nat)] : Array Value) 29) :: ([] : Blks))) (by kernel_rfl) (fun _ => by kernel_rfl) (fun br => fun ac1 wd1 FF1 MM1 => then_n ?_))
  refine wp_seq (rg_seq FF1 MM1 [o_, o_, b_ 0] [2, 0, 3] (fun Kt => ∀ bk, bk = bk ∧ (cn .u8 (List.replicate 32 0)).size = 32 ∧ (cn .u8 (List.replicate 32 0)).size = 32 ∧ (cn .u8 (List.replicate 32 0)).all (·.oneCell') = true ∧ (0, 0).2 = 0 ∧ Kt [(3, .pointer (some ⟨bk, 0, none⟩)), (2, .pointer (some ⟨br, 0, none⟩)), (0, .pointer (some ⟨g, 0, none⟩))] ((bk, .cells (cn .u8 (List.replicate 32 0)) 33) :: (br, .cells (cn .u8 (List.replicate 32 0)) 33) :: (g, .cells (#[.string (bs X), .int .i64 (u : Nat)] : Array Value) 29) :: ([] : Blks))) (by kernel_rfl) (fun _ => by kernel_rfl) (fun bk => ⟨rfl, ((cn_size _ _).trans (List.length_replicate ..)), ((cn_size _ _).trans (List.length_replicate ..)), (cn_one _ _), rfl, fun ac2 wd2 FF2 MM2 => then_n ?_⟩))
  refine wp_mid (fun a' w' => Fr 10 a' [(3, .pointer (some ⟨bk, 0, none⟩)), (2, .pointer (some ⟨br, 0, none⟩))] ∧ MemS (fun k => k < w0.heap.size ∧ ∀ x ∈ (g, Obj.cells (#[.string (bs X), .int .i64 (u : Nat)] : Array Value) 29) :: ([] : Blks), x.1 ≠ k) w0 w' ((bk, .cells (cn .u8 (takN 32 (X.drop u))) 33) :: (br, .cells (cn .u8 (List.replicate 32 0)) 33) :: (g, .cells (#[.string (bs X), .int .i64 (u + 32 : Nat)] : Array Value) 29) :: ([] : Blks)) []) ?_ ?_
  · skip
    refine draw_open (N := 4) (by kernel_rfl) (by kernel_rfl) MM2 fun wq3 (MM4 : MemS (fun k => k < w0.heap.size ∧ ∀ x ∈ (g, Obj.cells (#[.string (bs X), .int .i64 (u : Nat)] : Array Value) 29) :: ([] : Blks), x.1 ≠ k) w0 wq3 ((bk, .cells (cn .u8 (List.replicate 32 0)) 33) :: (br, .cells (cn .u8 (List.replicate 32 0)) 33) :: (g, .cells (#[.string (bs X), .int .i64 (u : Nat)] : Array Value) 29) :: ([] : Blks)) []) => ?_
    refine take_op FF2 (i := 1) (oi := (opAt Tryd.f14 2 1)) (v := (.pointer (some ⟨g, 0, none⟩))) (d := 6) (by kernel_rfl) (by kernel_rfl) (by kernel_rfl) (by kernel_rfl) (fun _ _ _ _ _ h => h) (by kernel_rfl) (by decide) (by kernel_rfl) (mvV (x := (.tmp 0)) (by kernel_rfl) rfl) fun ac5 (FF5 : Fr 10 ac5 [(6, .pointer (some ⟨g, 0, none⟩)), (3, .pointer (some ⟨bk, 0, none⟩)), (2, .pointer (some ⟨br, 0, none⟩)), (0, .pointer (some ⟨g, 0, none⟩))]) => ?_
    refine any_two (i := 0) (oi := (opAt Tryd.f14 2 0)) (j := 2) (oj := (opAt Tryd.f14 2 2)) (by kernel_rfl) (by kernel_rfl) (by kernel_rfl) ?_ ?_
    · skip
      refine rg_part 1 FF5 MM4 [o_] [6, 3, 2, 5] (fun Kt => 0 ≤ 32 ∧ 32 ≤ 32 ∧ 0 < 32 ∧ Kt [(5, .slice (some ⟨bk, 0, none⟩) 32 32), (6, .pointer (some ⟨g, 0, none⟩)), (3, .pointer (some ⟨bk, 0, none⟩)), (2, .pointer (some ⟨br, 0, none⟩))] ((bk, .cells (cn .u8 (List.replicate 32 0)) 33) :: (br, .cells (cn .u8 (List.replicate 32 0)) 33) :: (g, .cells (#[.string (bs X), .int .i64 (u : Nat)] : Array Value) 29) :: ([] : Blks))) (by kernel_rfl) (fun _ => by kernel_rfl) (⟨(by decide), (by decide), (by decide), fun ac6 wd6 FF6 MM6 => ?_⟩)
      refine wpl_nil (onN_n ?_)
      refine any_one (i := 2) (o := (opAt Tryd.f14 2 2)) (by kernel_rfl) (by kernel_rfl) ?_
      refine rg_part 1 FF6 MM6 [c_ (.string (bs (takN 32 (X.drop u)))) [(2, .cells (#[.string (bs X), .int .i64 (u + 32 : Nat)] : Array Value) 29)]] [5, 3, 2, 7] (fun Kt => CallU Tryd.prog 12 [.pointer (some ⟨g, 0, none⟩), .int .i64 (32 : Nat)] ((bk, .cells (cn .u8 (List.replicate 32 0)) 33) :: (br, .cells (cn .u8 (List.replicate 32 0)) 33) :: (g, .cells (#[.string (bs X), .int .i64 (u : Nat)] : Array Value) 29) :: ([] : Blks)) (.string (bs (takN 32 (X.drop u)))) [(2, .cells (#[.string (bs X), .int .i64 (u + 32 : Nat)] : Array Value) 29)] ∧ Kt [(7, .string (bs (takN 32 (X.drop u)))), (5, .slice (some ⟨bk, 0, none⟩) 32 32), (3, .pointer (some ⟨bk, 0, none⟩)), (2, .pointer (some ⟨br, 0, none⟩))] ((bk, .cells (cn .u8 (List.replicate 32 0)) 33) :: (br, .cells (cn .u8 (List.replicate 32 0)) 33) :: (g, .cells (#[.string (bs X), .int .i64 (u + 32 : Nat)] : Array Value) 29) :: ([] : Blks))) (by kernel_rfl) (fun _ => by kernel_rfl) (⟨(callU_turn en_rtake (g := g) (ob := RB X u) rfl fun w hg => by have h0 := rtake_any g 32 X u hX (by omega) (by decide) w hg; exact h0), fun ac7 wd7 FF7 MM7 => ?_⟩)
      refine wpl_nil (onN_n ?_)
      refine any_one (i := 3) (o := (opAt Tryd.f14 2 3)) (by kernel_rfl) (by kernel_rfl) ?_
      refine rg_part 1 FF7 MM7 [r_ (.int .i64 (min (takN 32 (X.drop u)).length 32 : Nat)) [(0, .cells (cn .u8 (takN 32 (X.drop u))) 33)]] [3, 2] (fun Kt => RunU Tryd.prog [(7, .string (bs (takN 32 (X.drop u)))), (5, .slice (some ⟨bk, 0, none⟩) 32 32), (3, .pointer (some ⟨bk, 0, none⟩)), (2, .pointer (some ⟨br, 0, none⟩))] ((bk, .cells (cn .u8 (List.replicate 32 0)) 33) :: (br, .cells (cn .u8 (List.replicate 32 0)) 33) :: (g, .cells (#[.string (bs X), .int .i64 (u + 32 : Nat)] : Array Value) 29) :: ([] : Blks)) (opAt Tryd.f14 2 3) (.int .i64 (min (takN 32 (X.drop u)).length 32 : Nat)) [(0, .cells (cn .u8 (takN 32 (X.drop u))) 33)] ∧ Kt [(3, .pointer (some ⟨bk, 0, none⟩)), (2, .pointer (some ⟨br, 0, none⟩))] ((bk, .cells (cn .u8 (takN 32 (X.drop u))) 33) :: (br, .cells (cn .u8 (List.replicate 32 0)) 33) :: (g, .cells (#[.string (bs X), .int .i64 (u + 32 : Nat)] : Array Value) 29) :: ([] : Blks))) (by kernel_rfl) (fun _ => by kernel_rfl) (⟨(copyStr_ok (p := .tmp 5) (q := .tmp 7) (t := 63) (tq := 9) (e := 5) (T := 33) (off := 0) (len := 32) (X := takN 32 (X.drop u)) (cs := cn .u8 (List.replicate 32 0)) (i := 0) (by kernel_rfl) rfl rfl (takN_lt (dropX_lt hX u) 32) Tryd.underlying63 (by kernel_rfl) rfl (by rw [cn_size, List.length_replicate]; decide) (by rw [List.take_of_length_le (by rw [takN_len]; decide)]; exact setFrom_new8 (by rw [List.length_replicate, takN_len]))), fun ac8 wd8 FF8 MM8 => ?_⟩)
      refine wpl_nil (onN_n ?_)
      refine any_none (by kernel_rfl) (then_n ?_)
      exact ⟨FF8.pick [0, 1], MM8⟩
    · skip
      refine rg_part 1 FF5 MM4 [c_ (.string (bs (takN 32 (X.drop u)))) [(2, .cells (#[.string (bs X), .int .i64 (u + 32 : Nat)] : Array Value) 29)]] [3, 2, 7] (fun Kt => CallU Tryd.prog 12 [.pointer (some ⟨g, 0, none⟩), .int .i64 (32 : Nat)] ((bk, .cells (cn .u8 (List.replicate 32 0)) 33) :: (br, .cells (cn .u8 (List.replicate 32 0)) 33) :: (g, .cells (#[.string (bs X), .int .i64 (u : Nat)] : Array Value) 29) :: ([] : Blks)) (.string (bs (takN 32 (X.drop u)))) [(2, .cells (#[.string (bs X), .int .i64 (u + 32 : Nat)] : Array Value) 29)] ∧ Kt [(7, .string (bs (takN 32 (X.drop u)))), (3, .pointer (some ⟨bk, 0, none⟩)), (2, .pointer (some ⟨br, 0, none⟩))] ((bk, .cells (cn .u8 (List.replicate 32 0)) 33) :: (br, .cells (cn .u8 (List.replicate 32 0)) 33) :: (g, .cells (#[.string (bs X), .int .i64 (u + 32 : Nat)] : Array Value) 29) :: ([] : Blks))) (by kernel_rfl) (fun _ => by kernel_rfl) (⟨(callU_turn en_rtake (g := g) (ob := RB X u) rfl fun w hg => by have h0 := rtake_any g 32 X u hX (by omega) (by decide) w hg; exact h0), fun ac9 wd9 FF9 MM9 => ?_⟩)
      refine wpl_nil (onN_n ?_)
      refine any_one (i := 0) (o := (opAt Tryd.f14 2 0)) (by kernel_rfl) (by kernel_rfl) ?_
      refine rg_part 1 FF9 MM9 [o_] [7, 3, 2, 5] (fun Kt => 0 ≤ 32 ∧ 32 ≤ 32 ∧ 0 < 32 ∧ Kt [(5, .slice (some ⟨bk, 0, none⟩) 32 32), (7, .string (bs (takN 32 (X.drop u)))), (3, .pointer (some ⟨bk, 0, none⟩)), (2, .pointer (some ⟨br, 0, none⟩))] ((bk, .cells (cn .u8 (List.replicate 32 0)) 33) :: (br, .cells (cn .u8 (List.replicate 32 0)) 33) :: (g, .cells (#[.string (bs X), .int .i64 (u + 32 : Nat)] : Array Value) 29) :: ([] : Blks))) (by kernel_rfl) (fun _ => by kernel_rfl) (⟨(by decide), (by decide), (by decide), fun ac10 wd10 FF10 MM10 => ?_⟩)
      refine wpl_nil (onN_n ?_)
      refine any_one (i := 3) (o := (opAt Tryd.f14 2 3)) (by kernel_rfl) (by kernel_rfl) ?_
      refine rg_part 1 FF10 MM10 [r_ (.int .i64 (min (takN 32 (X.drop u)).length 32 : Nat)) [(0, .cells (cn .u8 (takN 32 (X.drop u))) 33)]] [3, 2] (fun Kt => RunU Tryd.prog [(5, .slice (some ⟨bk, 0, none⟩) 32 32), (7, .string (bs (takN 32 (X.drop u)))), (3, .pointer (some ⟨bk, 0, none⟩)), (2, .pointer (some ⟨br, 0, none⟩))] ((bk, .cells (cn .u8 (List.replicate 32 0)) 33) :: (br, .cells (cn .u8 (List.replicate 32 0)) 33) :: (g, .cells (#[.string (bs X), .int .i64 (u + 32 : Nat)] : Array Value) 29) :: ([] : Blks)) (opAt Tryd.f14 2 3) (.int .i64 (min (takN 32 (X.drop u)).length 32 : Nat)) [(0, .cells (cn .u8 (takN 32 (X.drop u))) 33)] ∧ Kt [(3, .pointer (some ⟨bk, 0, none⟩)), (2, .pointer (some ⟨br, 0, none⟩))] ((bk, .cells (cn .u8 (takN 32 (X.drop u))) 33) :: (br, .cells (cn .u8 (List.replicate 32 0)) 33) :: (g, .cells (#[.string (bs X), .int .i64 (u + 32 : Nat)] : Array Value) 29) :: ([] : Blks))) (by kernel_rfl) (fun _ => by kernel_rfl) (⟨(copyStr_ok (p := .tmp 5) (q := .tmp 7) (t := 63) (tq := 9) (e := 5) (T := 33) (off := 0) (len := 32) (X := takN 32 (X.drop u)) (cs := cn .u8 (List.replicate 32 0)) (i := 0) (by kernel_rfl) rfl rfl (takN_lt (dropX_lt hX u) 32) Tryd.underlying63 (by kernel_rfl) rfl (by rw [cn_size, List.length_replicate]; decide) (by rw [List.take_of_length_le (by rw [takN_len]; decide)]; exact setFrom_new8 (by rw [List.length_replicate, takN_len]))), fun ac11 wd11 FF11 MM11 => ?_⟩)
      refine wpl_nil (onN_n ?_)
      refine any_none (by kernel_rfl) (then_n ?_)
      exact ⟨FF11.pick [0, 1], MM11⟩
  · rintro ac12 wd12 ⟨FF12, MM12⟩
    refine wp_seq (rg_seq FF12 MM12 [b_ 0, b_ 1] [3, 2] (fun Kt => bk = bk ∧ (cn .u8 (takN 32 (X.drop u))).size = 32 ∧ br = br ∧ (cn .u8 (List.replicate 32 0)).size = 32 ∧ (cn .u8 (takN 32 (X.drop u))).size = 32 ∧ (cn .u8 (takN 32 (X.drop u))).all (·.oneCell') = true ∧ (0, 0).2 = 0 ∧ Kt [(3, .pointer (some ⟨bk, 0, none⟩)), (2, .pointer (some ⟨br, 0, none⟩))] ((bk, .cells (cn .u8 (takN 32 (X.drop u))) 33) :: (br, .cells (cn .u8 (takN 32 (X.drop u))) 33) :: (g, .cells (#[.string (bs X), .int .i64 (u + 32 : Nat)] : Array Value) 29) :: ([] : Blks))) (by kernel_rfl) (fun _ => by kernel_rfl) (⟨rfl, ((cn_size _ _).trans (takN_len _ _)), rfl, ((cn_size _ _).trans (List.length_replicate ..)), ((cn_size _ _).trans (takN_len _ _)), (cn_one _ _), rfl, fun ac13 wd13 FF13 MM13 => then_n ?_⟩))
    refine wp_ret ?_
    repeat first | refine then_ret ?_ | refine inb_ret ?_
    exact (retc FF13 MM13 (k := 32) (i := 1) (j := 1) Tryd.results14 rfl rfl Tryd.underlying33 rfl (by kernel_rfl) ((cn_size _ _).trans (takN_len _ _)) ⟨rfl, MM13.turn (O := []) (fun i x hx => by simp at hx) 2 rfl (fun x hx => (nomatch hx))⟩)
set_option maxRecDepth 100000 in
theorem rid__any (g : Nat) (X : List Nat) (u : Nat) (hX : ∀ i, X.getD i 0 < 256) (hu : u < 4611686018427387904)  (w0 : World) (hg : w0.heap[g]? = some (RB X u)) :
    Calls Tryd.prog 16 #[.pointer (some ⟨g, 0, none⟩)] w0 fun e w' => e = .returned (.agg (cn .u8 (takN 16 (X.drop u)))) ∧ Turn g (RB X (u + 16)) w0 w' := by
  refine enter_fr Tryd.func16 rfl Tryd.ntmps16 (by simp) fun ac (FF : Fr 10 ac [(0, .pointer (some ⟨g, 0, none⟩))]) => ?_
  have MM : MemS (fun k => k < w0.heap.size ∧ ∀ x ∈ (g, Obj.cells (#[.string (bs X), .int .i64 (u : Nat)] : Array Value) 29) :: ([] : Blks), x.1 ≠ k) w0 w0 ((g, .cells (#[.string (bs X), .int .i64 (u : Nat)] : Array Value) 29) :: ([] : Blks)) [] := MemS.startN (one_has hg) ⟨fun y hy => (nomatch hy), trivial⟩
  refine wp_seq (rg_seq FF MM [o_] [0, 2] (fun Kt => ∀ br, Kt [(2, .pointer (some ⟨br, 0, none⟩)), (0, .pointer (some ⟨g, 0, none⟩))] ((br, .cells (cn .u8 (List.replicate 16 0)) 37) :: (g, .cells (#[.string (bs X), .int .i64 (u : Nat)] : Array Value) 29) :: ([] : Blks))) (by kernel_rfl) (fun _ => by kernel_rfl) (fun br => fun ac1 wd1 FF1 MM1 => then_n ?_))
  refine wp_seq (rg_seq FF1 MM1 [o_, o_, b_ 0] [2, 0, 3] (fun Kt => ∀ bk, bk = bk ∧ (cn .u8 (List.replicate 16 0)).size = 16 ∧ (cn .u8 (List.replicate 16 0)).size = 16 ∧ (cn .u8 (List.replicate 16 0)).all (·.oneCell') = true ∧ (0, 0).2 = 0 ∧ Kt [(3, .pointer (some ⟨bk, 0, none⟩)), (2, .pointer (some ⟨br, 0, none⟩)), (0, .pointer (some ⟨g, 0, none⟩))] ((bk, .cells (cn .u8 (List.replicate 16 0)) 37) :: (br, .cells (cn .u8 (List.replicate 16 0)) 37) :: (g, .cells (#[.string (bs X), .int .i64 (u : Nat)] : Array Value) 29) :: ([] : Blks))) (by kernel_rfl) (fun _ => by kernel_rfl) (fun bk => ⟨rfl, ((cn_size _ _).trans (List.length_replicate ..)), ((cn_size _ _).trans (List.length_replicate ..)), (cn_one _ _), rfl, fun ac2 wd2 FF2 MM2 => then_n ?_⟩))
  refine wp_mid (fun a' w' => Fr 10 a' [(3, .pointer (some ⟨bk, 0, none⟩)), (2, .pointer (some ⟨br, 0, none⟩))] ∧ MemS (fun k => k < w0.heap.size ∧ ∀ x ∈ (g, Obj.cells (#[.string (bs X), .int .i64 (u : Nat)] : Array Value) 29) :: ([] : Blks), x.1 ≠ k) w0 w' ((bk, .cells (cn .u8 (takN 16 (X.drop u))) 37) :: (br, .cells (cn .u8 (List.replicate 16 0)) 37) :: (g, .cells (#[.string (bs X), .int .i64 (u + 16 : Nat)] : Array Value) 29) :: ([] : Blks)) []) ?_ ?_
  · skip
    refine draw_open (N := 4) (by kernel_rfl) (by kernel_rfl) MM2 fun wq3 (MM4 : MemS (fun k => k < w0.heap.size ∧ ∀ x ∈ (g, Obj.cells (#[.string (bs X), .int .i64 (u : Nat)] : Array Value) 29) :: ([] : Blks), x.1 ≠ k) w0 wq3 ((bk, .cells (cn .u8 (List.replicate 16 0)) 37) :: (br, .cells (cn .u8 (List.replicate 16 0)) 37) :: (g, .cells (#[.string (bs X), .int .i64 (u : Nat)] : Array Value) 29) :: ([] : Blks)) []) => ?_
    refine take_op FF2 (i := 1) (oi := (opAt Tryd.f16 2 1)) (v := (.pointer (some ⟨g, 0, none⟩))) (d := 6) (by kernel_rfl) (by kernel_rfl) (by kernel_rfl) (by kernel_rfl) (fun _ _ _ _ _ h => h) (by kernel_rfl) (by decide) (by kernel_rfl) (mvV (x := (.tmp 0)) (by kernel_rfl) rfl) fun ac5 (FF5 : Fr 10 ac5 [(6, .pointer (some ⟨g, 0, none⟩)), (3, .pointer (some ⟨bk, 0, none⟩)), (2, .pointer (some ⟨br, 0, none⟩)), (0, .pointer (some ⟨g, 0, none⟩))]) => ?_
    refine any_two (i := 0) (oi := (opAt Tryd.f16 2 0)) (j := 2) (oj := (opAt Tryd.f16 2 2)) (by kernel_rfl) (by kernel_rfl) (by kernel_rfl) ?_ ?_
    · skip
      refine rg_part 1 FF5 MM4 [o_] [6, 3, 2, 5] (fun Kt => 0 ≤ 16 ∧ 16 ≤ 16 ∧ 0 < 16 ∧ Kt [(5, .slice (some ⟨bk, 0, none⟩) 16 16), (6, .pointer (some ⟨g, 0, none⟩)), (3, .pointer (some ⟨bk, 0, none⟩)), (2, .pointer (some ⟨br, 0, none⟩))] ((bk, .cells (cn .u8 (List.replicate 16 0)) 37) :: (br, .cells (cn .u8 (List.replicate 16 0)) 37) :: (g, .cells (#[.string (bs X), .int .i64 (u : Nat)] : Array Value) 29) :: ([] : Blks))) (by kernel_rfl) (fun _ => by kernel_rfl) (⟨(by decide), (by decide), (by decide), fun ac6 wd6 FF6 MM6 => ?_⟩)
      refine wpl_nil (onN_n ?_)
      refine any_one (i := 2) (o := (opAt Tryd.f16 2 2)) (by kernel_rfl) (by kernel_rfl) ?_
      refine rg_part 1 FF6 MM6 [c_ (.string (bs (takN 16 (X.drop u)))) [(2, .cells (#[.string (bs X), .int .i64 (u + 16 : Nat)] : Array Value) 29)]] [5, 3, 2, 7] (fun Kt => CallU Tryd.prog 12 [.pointer (some ⟨g, 0, none⟩), .int .i64 (16 : Nat)] ((bk, .cells (cn .u8 (List.replicate 16 0)) 37) :: (br, .cells (cn .u8 (List.replicate 16 0)) 37) :: (g, .cells (#[.string (bs X), .int .i64 (u : Nat)] : Array Value) 29) :: ([] : Blks)) (.string (bs (takN 16 (X.drop u)))) [(2, .cells (#[.string (bs X), .int .i64 (u + 16 : Nat)] : Array Value) 29)] ∧ Kt [(7, .string (bs (takN 16 (X.drop u)))), (5, .slice (some ⟨bk, 0, none⟩) 16 16), (3, .pointer (some ⟨bk, 0, none⟩)), (2, .pointer (some ⟨br, 0, none⟩))] ((bk, .cells (cn .u8 (List.replicate 16 0)) 37) :: (br, .cells (cn .u8 (List.replicate 16 0)) 37) :: (g, .cells (#[.string (bs X), .int .i64 (u + 16 : Nat)] : Array Value) 29) :: ([] : Blks))) (by kernel_rfl) (fun _ => by kernel_rfl) (⟨(callU_turn en_rtake (g := g) (ob := RB X u) rfl fun w hg => by have h0 := rtake_any g 16 X u hX (by omega) (by decide) w hg; exact h0), fun ac7 wd7 FF7 MM7 => ?_⟩)
      refine wpl_nil (onN_n ?_)
      refine any_one (i := 3) (o := (opAt Tryd.f16 2 3)) (by kernel_rfl) (by kernel_rfl) ?_
      refine rg_part 1 FF7 MM7 [r_ (.int .i64 (min (takN 16 (X.drop u)).length 16 : Nat)) [(0, .cells (cn .u8 (takN 16 (X.drop u))) 37)]] [3, 2] (fun Kt => RunU Tryd.prog [(7, .string (bs (takN 16 (X.drop u)))), (5, .slice (some ⟨bk, 0, none⟩) 16 16), (3, .pointer (some ⟨bk, 0, none⟩)), (2, .pointer (some ⟨br, 0, none⟩))] ((bk, .cells (cn .u8 (List.replicate 16 0)) 37) :: (br, .cells (cn .u8 (List.replicate 16 0)) 37) :: (g, .cells (#[.string (bs X), .int .i64 (u + 16 : Nat)] : Array Value) 29) :: ([] : Blks)) (opAt Tryd.f16 2 3) (.int .i64 (min (takN 16 (X.drop u)).length 16 : Nat)) [(0, .cells (cn .u8 (takN 16 (X.drop u))) 37)] ∧ Kt [(3, .pointer (some ⟨bk, 0, none⟩)), (2, .pointer (some ⟨br, 0, none⟩))] ((bk, .cells (cn .u8 (takN 16 (X.drop u))) 37) :: (br, .cells (cn .u8 (List.replicate 16 0)) 37) :: (g, .cells (#[.string (bs X), .int .i64 (u + 16 : Nat)] : Array Value) 29) :: ([] : Blks))) (by kernel_rfl) (fun _ => by kernel_rfl) (⟨(copyStr_ok (p := .tmp 5) (q := .tmp 7) (t := 63) (tq := 9) (e := 5) (T := 37) (off := 0) (len := 16) (X := takN 16 (X.drop u)) (cs := cn .u8 (List.replicate 16 0)) (i := 0) (by kernel_rfl) rfl rfl (takN_lt (dropX_lt hX u) 16) Tryd.underlying63 (by kernel_rfl) rfl (by rw [cn_size, List.length_replicate]; decide) (by rw [List.take_of_length_le (by rw [takN_len]; decide)]; exact setFrom_new8 (by rw [List.length_replicate, takN_len]))), fun ac8 wd8 FF8 MM8 => ?_⟩)
      refine wpl_nil (onN_n ?_)
      refine any_none (by kernel_rfl) (then_n ?_)
      exact ⟨FF8.pick [0, 1], MM8⟩
    · skip
      refine rg_part 1 FF5 MM4 [c_ (.string (bs (takN 16 (X.drop u)))) [(2, .cells (#[.string (bs X), .int .i64 (u + 16 : Nat)] : Array Value) 29)]] [3, 2, 7] (fun Kt => CallU Tryd.prog 12 [.pointer (some ⟨g, 0, none⟩), .int .i64 (16 : Nat)] ((bk, .cells (cn .u8 (List.replicate 16 0)) 37) :: (br, .cells (cn .u8 (List.replicate 16 0)) 37) :: (g, .cells (#[.string (bs X), .int .i64 (u : Nat)] : Array Value) 29) :: ([] : Blks)) (.string (bs (takN 16 (X.drop u)))) [(2, .cells (#[.string (bs X), .int .i64 (u + 16 : Nat)] : Array Value) 29)] ∧ Kt [(7, .string (bs (takN 16 (X.drop u)))), (3, .pointer (some ⟨bk, 0, none⟩)), (2, .pointer (some ⟨br, 0, none⟩))] ((bk, .cells (cn .u8 (List.replicate 16 0)) 37) :: (br, .cells (cn .u8 (List.replicate 16 0)) 37) :: (g, .cells (#[.string (bs X), .int .i64 (u + 16 : Nat)] : Array Value) 29) :: ([] : Blks))) (by kernel_rfl) (fun _ => by kernel_rfl) (⟨(callU_turn en_rtake (g := g) (ob := RB X u) rfl fun w hg => by have h0 := rtake_any g 16 X u hX (by omega) (by decide) w hg; exact h0), fun ac9 wd9 FF9 MM9 => ?_⟩)
      refine wpl_nil (onN_n ?_)
      refine any_one (i := 0) (o := (opAt Tryd.f16 2 0)) (by kernel_rfl) (by kernel_rfl) ?_
      refine rg_part 1 FF9 MM9 [o_] [7, 3, 2, 5] (fun Kt => 0 ≤ 16 ∧ 16 ≤ 16 ∧ 0 < 16 ∧ Kt [(5, .slice (some ⟨bk, 0, none⟩) 16 16), (7, .string (bs (takN 16 (X.drop u)))), (3, .pointer (some ⟨bk, 0, none⟩)), (2, .pointer (some ⟨br, 0, none⟩))] ((bk, .cells (cn .u8 (List.replicate 16 0)) 37) :: (br, .cells (cn .u8 (List.replicate 16 0)) 37) :: (g, .cells (#[.string (bs X), .int .i64 (u + 16 : Nat)] : Array Value) 29) :: ([] : Blks))) (by kernel_rfl) (fun _ => by kernel_rfl) (⟨(by decide), (by decide), (by decide), fun ac10 wd10 FF10 MM10 => ?_⟩)
      refine wpl_nil (onN_n ?_)
      refine any_one (i := 3) (o := (opAt Tryd.f16 2 3)) (by kernel_rfl) (by kernel_rfl) ?_
      refine rg_part 1 FF10 MM10 [r_ (.int .i64 (min (takN 16 (X.drop u)).length 16 : Nat)) [(0, .cells (cn .u8 (takN 16 (X.drop u))) 37)]] [3, 2] (fun Kt => RunU Tryd.prog [(5, .slice (some ⟨bk, 0, none⟩) 16 16), (7, .string (bs (takN 16 (X.drop u)))), (3, .pointer (some ⟨bk, 0, none⟩)), (2, .pointer (some ⟨br, 0, none⟩))] ((bk, .cells (cn .u8 (List.replicate 16 0)) 37) :: (br, .cells (cn .u8 (List.replicate 16 0)) 37) :: (g, .cells (#[.string (bs X), .int .i64 (u + 16 : Nat)] : Array Value) 29) :: ([] : Blks)) (opAt Tryd.f16 2 3) (.int .i64 (min (takN 16 (X.drop u)).length 16 : Nat)) [(0, .cells (cn .u8 (takN 16 (X.drop u))) 37)] ∧ Kt [(3, .pointer (some ⟨bk, 0, none⟩)), (2, .pointer (some ⟨br, 0, none⟩))] ((bk, .cells (cn .u8 (takN 16 (X.drop u))) 37) :: (br, .cells (cn .u8 (List.replicate 16 0)) 37) :: (g, .cells (#[.string (bs X), .int .i64 (u + 16 : Nat)] : Array Value) 29) :: ([] : Blks))) (by kernel_rfl) (fun _ => by kernel_rfl) (⟨(copyStr_ok (p := .tmp 5) (q := .tmp 7) (t := 63) (tq := 9) (e := 5) (T := 37) (off := 0) (len := 16) (X := takN 16 (X.drop u)) (cs := cn .u8 (List.replicate 16 0)) (i := 0) (by kernel_rfl) rfl rfl (takN_lt (dropX_lt hX u) 16) Tryd.underlying63 (by kernel_rfl) rfl (by rw [cn_size, List.length_replicate]; decide) (by rw [List.take_of_length_le (by rw [takN_len]; decide)]; exact setFrom_new8 (by rw [List.length_replicate, takN_len]))), fun ac11 wd11 FF11 MM11 => ?_⟩)
      refine wpl_nil (onN_n ?_)
      refine any_none (by kernel_rfl) (then_n ?_)
      exact ⟨FF11.pick [0, 1], MM11⟩
  · rintro ac12 wd12 ⟨FF12, MM12⟩
    refine wp_seq (rg_seq FF12 MM12 [b_ 0, b_ 1] [3, 2] (fun Kt => bk = bk ∧ (cn .u8 (takN 16 (X.drop u))).size = 16 ∧ br = br ∧ (cn .u8 (List.replicate 16 0)).size = 16 ∧ (cn .u8 (takN 16 (X.drop u))).size = 16 ∧ (cn .u8 (takN 16 (X.drop u))).all (·.oneCell') = true ∧ (0, 0).2 = 0 ∧ Kt [(3, .pointer (some ⟨bk, 0, none⟩)), (2, .pointer (some ⟨br, 0, none⟩))] ((bk, .cells (cn .u8 (takN 16 (X.drop u))) 37) :: (br, .cells (cn .u8 (takN 16 (X.drop u))) 37) :: (g, .cells (#[.string (bs X), .int .i64 (u + 16 : Nat)] : Array Value) 29) :: ([] : Blks))) (by kernel_rfl) (fun _ => by kernel_rfl) (⟨rfl, ((cn_size _ _).trans (takN_len _ _)), rfl, ((cn_size _ _).trans (List.length_replicate ..)), ((cn_size _ _).trans (takN_len _ _)), (cn_one _ _), rfl, fun ac13 wd13 FF13 MM13 => then_n ?_⟩))
    refine wp_ret ?_
    repeat first | refine then_ret ?_ | refine inb_ret ?_
    exact (retc FF13 MM13 (k := 16) (i := 1) (j := 1) Tryd.results16 rfl rfl Tryd.underlying37 rfl (by kernel_rfl) ((cn_size _ _).trans (takN_len _ _)) ⟨rfl, MM13.turn (O := []) (fun i x hx => by simp at hx) 2 rfl (fun x hx => (nomatch hx))⟩)
set_option maxRecDepth 100000 in
theorem rbelow_any (g : Nat) (X : List Nat) (u : Nat) (hX : ∀ i, X.getD i 0 < 256) (hu : u < 4611686018427000000) (n k : Nat) (h1 : 1 ≤ n) (hn : n ≤ 65536) (hk1 : 1 ≤ k) (hk : k ≤ 16) (w0 : World) (hg : w0.heap[g]? = some (RB X u)) :
    Calls Tryd.prog 18 #[.pointer (some ⟨g, 0, none⟩), .int .i64 (n : Nat), .int .i64 (k : Nat)] w0 fun e w' => e = .returned (.tuple #[.int .i64 ((belN n k (X.drop u)).1 : Nat), .int .i64 ((belN n k (X.drop u)).2.1 : Nat)]) ∧ Turn g (RB X (u + (belN n k (X.drop u)).2.2)) w0 w' := by
  refine enter_fr Tryd.func18 rfl Tryd.ntmps18 (by simp) fun ac (FF : Fr 45 ac [(0, .pointer (some ⟨g, 0, none⟩)), (1, .int .i64 (n : Nat)), (2, .int .i64 (k : Nat))]) => ?_
  have MM : MemS (fun k => k < w0.heap.size ∧ ∀ x ∈ (g, Obj.cells (#[.string (bs X), .int .i64 (u : Nat)] : Array Value) 29) :: ([] : Blks), x.1 ≠ k) w0 w0 ((g, .cells (#[.string (bs X), .int .i64 (u : Nat)] : Array Value) 29) :: ([] : Blks)) [] := MemS.startN (one_has hg) ⟨fun y hy => (nomatch hy), trivial⟩
  refine wp_seq (rg_seq FF MM [o_, o_] [0, 1, 2, 6, 7] (fun Kt => Kt [(7, .int .i64 (0 : Nat)), (6, .int .i64 (0 : Nat)), (0, .pointer (some ⟨g, 0, none⟩)), (1, .int .i64 (n : Nat)), (2, .int .i64 (k : Nat))] ((g, .cells (#[.string (bs X), .int .i64 (u : Nat)] : Array Value) 29) :: ([] : Blks))) (by kernel_rfl) (fun _ => by kernel_rfl) (fun ac1 wd1 FF1 MM1 => then_n ?_))
  refine wp_seq ?_
  refine wp_seq (rg_seq FF1 MM1 [o_, w_ 3, o_, o_, w_ 3, o_, o_, o_, t_ (.bool true), o_, o_] [7, 6, 0, 1, 2, 21] (fun Kt => ¬ (n < 1) ∧ ¬ (n > 65536) ∧ CallP Tryd.prog 32 [.int .i64 (k : Nat)] [] (.bool true) ∧ Kt [(21, .bool false), (7, .int .i64 (0 : Nat)), (6, .int .i64 (0 : Nat)), (0, .pointer (some ⟨g, 0, none⟩)), (1, .int .i64 (n : Nat)), (2, .int .i64 (k : Nat))] ((g, .cells (#[.string (bs X), .int .i64 (u : Nat)] : Array Value) 29) :: ([] : Blks))) (by kernel_rfl) (fun _ => by kernel_rfl) (⟨(by omega), (by omega), (callP_of en_tries (tries_yes k (by omega) (by omega)) _), fun ac2 wd2 FF2 MM2 => then_n ?_⟩))
  refine wp_cond_false (FF2.ev 0 rfl) ?_
  refine wp_skip ?_
  refine then_n ?_
  refine wp_seq ?_
  refine wp_seq (rg_seq FF2 MM2 [o_] [7, 6, 0, 1, 2, 8] (fun Kt => Kt [(8, .int .i64 (0 : Nat)), (7, .int .i64 (0 : Nat)), (6, .int .i64 (0 : Nat)), (0, .pointer (some ⟨g, 0, none⟩)), (1, .int .i64 (n : Nat)), (2, .int .i64 (k : Nat))] ((g, .cells (#[.string (bs X), .int .i64 (u : Nat)] : Array Value) 29) :: ([] : Blks))) (by kernel_rfl) (fun _ => by kernel_rfl) (fun ac3 wd3 FF3 MM3 => then_n ?_))
  refine wp_for2 (fun a' w' => ∃ i : Nat, i ≤ k ∧ BelI n k (X.drop u) i ∧ Fr 45 a' [(8, .int .i64 (i : Nat)), (0, .pointer (some ⟨g, 0, none⟩)), (1, .int .i64 (n : Nat)), (2, .int .i64 (k : Nat))] ∧ MemS (fun k => k < w0.heap.size ∧ ∀ x ∈ (g, Obj.cells (#[.string (bs X), .int .i64 (u : Nat)] : Array Value) 29) :: ([] : Blks), x.1 ≠ k) w0 w' ((g, .cells (#[.string (bs X), .int .i64 (u + 2 * i : Nat)] : Array Value) 29) :: ([] : Blks)) []) (fun a' _ => (k - cnt 8 a').toNat) ⟨0, Nat.zero_le _, bel_start _ _ _, FF3.pick [0, 3, 4, 5], MM3⟩ ?_
  rintro ac4 wd4 ⟨i, hi, hb, FF4, MM4⟩
  have hc := cnt_of (FF4.get 0 rfl)
  refine rg_seq FF4 MM4 [o_, o_, o_] [8, 0, 1, 2, 24] (fun Kt => Kt [(24, .bool (decide (i < k))), (8, .int .i64 (i : Nat)), (0, .pointer (some ⟨g, 0, none⟩)), (1, .int .i64 (n : Nat)), (2, .int .i64 (k : Nat))] ((g, .cells (#[.string (bs X), .int .i64 (u + 2 * i : Nat)] : Array Value) 29) :: ([] : Blks))) (by kernel_rfl) (fun _ => by kernel_rfl) (fun ac5 wd5 FF5 MM5 => ?_)
  by_cases hlt : i < k
  · skip
    refine then_n (.inl ⟨(FF5.ev 0 rfl).trans (dec_t hlt), ?_⟩)
    refine wp_seq (rg_seq FF5 MM5 [o_, c_ (.string (bs (takN 2 (X.drop (u + 2 * i))))) [(0, .cells (#[.string (bs X), .int .i64 (u + 2 * (i + 1) : Nat)] : Array Value) 29)], o_] [8, 0, 1, 2, 9] (fun Kt => CallU Tryd.prog 12 [.pointer (some ⟨g, 0, none⟩), .int .i64 (2 : Nat)] ((g, .cells (#[.string (bs X), .int .i64 (u + 2 * i : Nat)] : Array Value) 29) :: ([] : Blks)) (.string (bs (takN 2 (X.drop (u + 2 * i))))) [(0, .cells (#[.string (bs X), .int .i64 (u + 2 * (i + 1) : Nat)] : Array Value) 29)] ∧ Kt [(9, .string (bs (takN 2 (X.drop (u + 2 * i))))), (8, .int .i64 (i : Nat)), (0, .pointer (some ⟨g, 0, none⟩)), (1, .int .i64 (n : Nat)), (2, .int .i64 (k : Nat))] ((g, .cells (#[.string (bs X), .int .i64 (u + 2 * (i + 1) : Nat)] : Array Value) 29) :: ([] : Blks))) (by kernel_rfl) (fun _ => by kernel_rfl) (⟨(callU_turn en_rtake (g := g) (ob := RB X (u + 2 * i)) rfl fun w hg => by have h0 := rtake_any g 2 X (u + 2 * i) hX (by omega) (by decide) w hg; exact h0), fun ac6 wd6 FF6 MM6 => then_n ?_⟩))
    have h20 := takN_lt (dropX_lt hX (u + 2 * i)) 2 0
    have h21 := takN_lt (dropX_lt hX (u + 2 * i)) 2 1
    have htw := two_lt (dropX_lt hX (u + 2 * i))
    refine wp_seq (rg_draw FF6 MM6 [.inl (.string (bs (takN 2 (X.drop (u + 2 * i))))), .inl (.int .u8 ((takN 2 (X.drop (u + 2 * i))).getD 0 0 : Nat)), .inl (.int .i64 ((takN 2 (X.drop (u + 2 * i))).getD 0 0 : Nat)), .inl (.string (bs (takN 2 (X.drop (u + 2 * i))))), .inl (.int .u8 ((takN 2 (X.drop (u + 2 * i))).getD 1 0 : Nat)), .inl (.int .i64 ((takN 2 (X.drop (u + 2 * i))).getD 1 0 : Nat)), .inl (.int .i64 (256 * ((takN 2 (X.drop (u + 2 * i))).getD 1 0) : Nat)), .inl (.int .i64 (twoN (X.drop (u + 2 * i)) : Nat)), .inl (.int .i64 (twoN (X.drop (u + 2 * i)) : Nat))] [] [o_, t_ (.int .u8 ((takN 2 (X.drop (u + 2 * i))).getD 0 0 : Nat)), w_ 1, o_, t_ (.int .u8 ((takN 2 (X.drop (u + 2 * i))).getD 1 0 : Nat)), w_ 1, o_, t_ (.int .i64 (twoN (X.drop (u + 2 * i)) : Nat)), o_] [] [9, 8, 0, 1, 2, 10] (fun nb => [0 < (bs (takN 2 (X.drop (u + 2 * i)))).size, (nl (bs (takN 2 (X.drop (u + 2 * i))))).getD 0 0 = (takN 2 (X.drop (u + 2 * i))).getD 0 0, ((takN 2 (X.drop (u + 2 * i))).getD 0 0) < 9223372036854775808, 1 < (bs (takN 2 (X.drop (u + 2 * i)))).size, (nl (bs (takN 2 (X.drop (u + 2 * i))))).getD 1 0 = (takN 2 (X.drop (u + 2 * i))).getD 1 0, ((takN 2 (X.drop (u + 2 * i))).getD 1 0) < 9223372036854775808, 256 * ((takN 2 (X.drop (u + 2 * i))).getD 1 0) < 9223372036854775808, ((takN 2 (X.drop (u + 2 * i))).getD 0 0) + (256 * ((takN 2 (X.drop (u + 2 * i))).getD 1 0)) < 9223372036854775808, Value.int .i64 (((takN 2 (X.drop (u + 2 * i))).getD 0 0) + (256 * ((takN 2 (X.drop (u + 2 * i))).getD 1 0)) : Nat) = .int .i64 (twoN (X.drop (u + 2 * i)) : Nat)]) (fun nb Kt => Kt [(10, .int .i64 (twoN (X.drop (u + 2 * i)) : Nat)), (9, .string (bs (takN 2 (X.drop (u + 2 * i))))), (8, .int .i64 (i : Nat)), (0, .pointer (some ⟨g, 0, none⟩)), (1, .int .i64 (n : Nat)), (2, .int .i64 (k : Nat))] ((g, .cells (#[.string (bs X), .int .i64 (u + 2 * (i + 1) : Nat)] : Array Value) 29) :: ([] : Blks))) (by kernel_rfl) (by kernel_rfl) (by kernel_rfl) (fun _ => by kernel_rfl) (fun _ _ => by kernel_rfl) trivial (fun nb => ⟨(by rw [bs_size, takN_len]; decide), (byte_bs (takN_lt (dropX_lt hX (u + 2 * i)) 2) _), (by have := (takN_lt (dropX_lt hX (u + 2 * i)) 2) 0; omega), (by rw [bs_size, takN_len]; decide), (byte_bs (takN_lt (dropX_lt hX (u + 2 * i)) 2) _), (by have := (takN_lt (dropX_lt hX (u + 2 * i)) 2) 1; omega), (by have := (takN_lt (dropX_lt hX (u + 2 * i)) 2) 1; omega), (by have := (takN_lt (dropX_lt hX (u + 2 * i)) 2) 0; have := (takN_lt (dropX_lt hX (u + 2 * i)) 2) 1; omega), (vI (by rw [takN_get _ (by decide), takN_get _ (by decide)]; rfl)), trivial⟩) (fun nb => fun ac7 wd7 FF7 MM7 => then_n ?_))
    refine wp_seq (rg_seq FF7 MM7 [o_, o_, o_, o_, o_] [10, 9, 8, 0, 1, 2, 41] (fun Kt => n ≠ 0 ∧ (65536 % n) ≤ 65536 ∧ 65536 - (65536 % n) < 9223372036854775808 ∧ Kt [(41, .bool (decide ((twoN (X.drop (u + 2 * i))) < (65536 - (65536 % n))))), (10, .int .i64 (twoN (X.drop (u + 2 * i)) : Nat)), (9, .string (bs (takN 2 (X.drop (u + 2 * i))))), (8, .int .i64 (i : Nat)), (0, .pointer (some ⟨g, 0, none⟩)), (1, .int .i64 (n : Nat)), (2, .int .i64 (k : Nat))] ((g, .cells (#[.string (bs X), .int .i64 (u + 2 * (i + 1) : Nat)] : Array Value) 29) :: ([] : Blks))) (by kernel_rfl) (fun _ => by kernel_rfl) (⟨(by have := hn; omega), (Nat.mod_le _ _), (by have := hn; omega), fun ac8 wd8 FF8 MM8 => then_n ?_⟩))
    by_cases hs41 : (twoN (X.drop (u + 2 * i))) < (65536 - (65536 % n))
    · refine wp_cond_true ((FF8.ev 0 rfl).trans (dec_t hs41)) ?_
      have hE := bel_yes hb hlt (by rw [List.drop_drop]; exact hs41)
      refine wp_seq (rg_seq FF8 MM8 [o_, o_, o_, o_, o_] [10, 9, 8, 0, 1, 2, 6, 7] (fun Kt => n ≠ 0 ∧ Kt [(7, .int .i64 (0 : Nat)), (6, .int .i64 ((twoN (X.drop (u + 2 * i))) % n : Nat)), (10, .int .i64 (twoN (X.drop (u + 2 * i)) : Nat)), (9, .string (bs (takN 2 (X.drop (u + 2 * i))))), (8, .int .i64 (i : Nat)), (0, .pointer (some ⟨g, 0, none⟩)), (1, .int .i64 (n : Nat)), (2, .int .i64 (k : Nat))] ((g, .cells (#[.string (bs X), .int .i64 (u + 2 * (i + 1) : Nat)] : Array Value) 29) :: ([] : Blks))) (by kernel_rfl) (fun _ => by kernel_rfl) (⟨(by have := htw; have := hn; omega), fun ac9 wd9 FF9 MM9 => then_n ?_⟩))
      refine wp_ret ?_
      repeat first | refine then_ret ?_ | refine inb_ret ?_
      exact (ret_tup2 FF9 1 0 Tryd.results18 rfl rfl (by rw [hE]; exact ⟨by rw [List.drop_drop], MM9.turn (O := []) (fun i x hx => by simp at hx) 0 rfl (fun x hx => (nomatch hx))⟩))
    · refine wp_cond_false ((FF8.ev 0 rfl).trans (dec_f hs41)) ?_
      refine wp_skip ?_
      refine inb_n (then_n ?_)
      refine rg_seq FF8 MM8 [o_, o_, o_] [10, 9, 8, 0, 1, 2] (fun Kt => i + 1 < 9223372036854775808 ∧ Kt [(8, .int .i64 (i + 1 : Nat)), (10, .int .i64 (twoN (X.drop (u + 2 * i)) : Nat)), (9, .string (bs (takN 2 (X.drop (u + 2 * i))))), (0, .pointer (some ⟨g, 0, none⟩)), (1, .int .i64 (n : Nat)), (2, .int .i64 (k : Nat))] ((g, .cells (#[.string (bs X), .int .i64 (u + 2 * (i + 1) : Nat)] : Array Value) 29) :: ([] : Blks))) (by kernel_rfl) (fun _ => by kernel_rfl) (⟨(by omega), fun ac10 wd10 FF10 MM10 => ?_⟩)
      have hd := cnt_of (FF10.get 0 rfl)
      refine then_n ⟨⟨i + 1, by omega, bel_no hb hlt (by rw [List.drop_drop]; exact hs41), FF10.pick [0, 3, 4, 5], MM10⟩, ?_⟩
      rw [hc, hd]; omega
  · skip
    refine then_n (.inr ⟨(FF5.ev 0 rfl).trans (dec_f hlt), ?_⟩)
    have hik : i = k := by omega
    subst hik
    have hE := bel_end hb
    refine then_n ?_
    refine wp_seq (rg_seq FF5 MM5 [o_, o_] [8, 0, 1, 2, 6, 7] (fun Kt => Kt [(7, .int .i64 (3 : Nat)), (6, .int .i64 (0 : Nat)), (8, .int .i64 (i : Nat)), (0, .pointer (some ⟨g, 0, none⟩)), (1, .int .i64 (n : Nat)), (2, .int .i64 (i : Nat))] ((g, .cells (#[.string (bs X), .int .i64 (u + 2 * i : Nat)] : Array Value) 29) :: ([] : Blks))) (by kernel_rfl) (fun _ => by kernel_rfl) (fun ac11 wd11 FF11 MM11 => then_n ?_))
    refine wp_ret ?_
    repeat first | refine then_ret ?_ | refine inb_ret ?_
    exact (ret_tup2 FF11 1 0 Tryd.results18 rfl rfl (by rw [hE]; exact ⟨rfl, MM11.turn (O := []) (fun i x hx => by simp at hx) 0 rfl (fun x hx => (nomatch hx))⟩))
set_option maxRecDepth 100000 in
theorem rbelow_lo (g : Nat) (z t : Int) (hz : z < 1) (w0 : World) :
    Calls Tryd.prog 18 #[.pointer (some ⟨g, 0, none⟩), .int .i64 z, .int .i64 t] w0 fun e w' => e = .returned (.tuple #[.int .i64 (0 : Nat), .int .i64 (1 : Nat)]) ∧ Below w0.heap.size w0 w' := by
  refine enter_fr Tryd.func18 rfl Tryd.ntmps18 (by simp) fun ac (FF : Fr 45 ac [(0, .pointer (some ⟨g, 0, none⟩)), (1, .int .i64 (z : Int)), (2, .int .i64 (t : Int))]) => ?_
  have MM := MemS.start w0
  refine wp_seq (rg_seq FF MM [o_, o_] [0, 1, 2, 6, 7] (fun Kt => Kt [(7, .int .i64 (0 : Nat)), (6, .int .i64 (0 : Nat)), (0, .pointer (some ⟨g, 0, none⟩)), (1, .int .i64 (z : Int)), (2, .int .i64 (t : Int))] []) (by kernel_rfl) (fun _ => by kernel_rfl) (fun ac1 wd1 FF1 MM1 => then_n ?_))
  refine wp_seq ?_
  refine wp_seq (rg_seq FF1 MM1 [o_, w_ 6, o_, o_, o_, o_, o_, o_, o_, o_, o_] [7, 6, 0, 1, 2, 21] (fun Kt => z < ((1 : Nat) : Int) ∧ Kt [(21, .bool true), (7, .int .i64 (0 : Nat)), (6, .int .i64 (0 : Nat)), (0, .pointer (some ⟨g, 0, none⟩)), (1, .int .i64 (z : Int)), (2, .int .i64 (t : Int))] []) (by kernel_rfl) (fun _ => by kernel_rfl) (⟨hz, fun ac2 wd2 FF2 MM2 => then_n ?_⟩))
  refine wp_cond_true (FF2.ev 0 rfl) ?_
  refine wp_seq (rg_seq FF2 MM2 [o_, o_] [7, 6, 0, 1, 2] (fun Kt => Kt [(7, .int .i64 (1 : Nat)), (6, .int .i64 (0 : Nat)), (0, .pointer (some ⟨g, 0, none⟩)), (1, .int .i64 (z : Int)), (2, .int .i64 (t : Int))] []) (by kernel_rfl) (fun _ => by kernel_rfl) (fun ac3 wd3 FF3 MM3 => then_n ?_))
  refine wp_ret ?_
  repeat first | refine then_ret ?_ | refine inb_ret ?_
  exact (ret_tup2 FF3 1 0 Tryd.results18 rfl rfl ⟨rfl, MM3.below⟩)
set_option maxRecDepth 100000 in
theorem rbelow_hi (g : Nat) (z t : Int) (hz : z > 65536) (w0 : World) :
    Calls Tryd.prog 18 #[.pointer (some ⟨g, 0, none⟩), .int .i64 z, .int .i64 t] w0 fun e w' => e = .returned (.tuple #[.int .i64 (0 : Nat), .int .i64 (1 : Nat)]) ∧ Below w0.heap.size w0 w' := by
  refine enter_fr Tryd.func18 rfl Tryd.ntmps18 (by simp) fun ac (FF : Fr 45 ac [(0, .pointer (some ⟨g, 0, none⟩)), (1, .int .i64 (z : Int)), (2, .int .i64 (t : Int))]) => ?_
  have MM := MemS.start w0
  refine wp_seq (rg_seq FF MM [o_, o_] [0, 1, 2, 6, 7] (fun Kt => Kt [(7, .int .i64 (0 : Nat)), (6, .int .i64 (0 : Nat)), (0, .pointer (some ⟨g, 0, none⟩)), (1, .int .i64 (z : Int)), (2, .int .i64 (t : Int))] []) (by kernel_rfl) (fun _ => by kernel_rfl) (fun ac1 wd1 FF1 MM1 => then_n ?_))
  refine wp_seq ?_
  refine wp_seq (rg_seq FF1 MM1 [o_, u_ 4 (.bool false), o_, o_, w_ 6, o_, o_, o_, o_, o_, o_] [7, 6, 0, 1, 2, 21] (fun Kt => Value.bool (decide (z < ((1 : Nat) : Int))) = .bool false ∧ z > ((65536 : Nat) : Int) ∧ Kt [(21, .bool true), (7, .int .i64 (0 : Nat)), (6, .int .i64 (0 : Nat)), (0, .pointer (some ⟨g, 0, none⟩)), (1, .int .i64 (z : Int)), (2, .int .i64 (t : Int))] []) (by kernel_rfl) (fun _ => by kernel_rfl) (⟨(dec_f (by omega)), hz, fun ac2 wd2 FF2 MM2 => then_n ?_⟩))
  refine wp_cond_true (FF2.ev 0 rfl) ?_
  refine wp_seq (rg_seq FF2 MM2 [o_, o_] [7, 6, 0, 1, 2] (fun Kt => Kt [(7, .int .i64 (1 : Nat)), (6, .int .i64 (0 : Nat)), (0, .pointer (some ⟨g, 0, none⟩)), (1, .int .i64 (z : Int)), (2, .int .i64 (t : Int))] []) (by kernel_rfl) (fun _ => by kernel_rfl) (fun ac3 wd3 FF3 MM3 => then_n ?_))
  refine wp_ret ?_
  repeat first | refine then_ret ?_ | refine inb_ret ?_
  exact (ret_tup2 FF3 1 0 Tryd.results18 rfl rfl ⟨rfl, MM3.below⟩)
set_option maxRecDepth 100000 in
theorem rbelow_tlo (g : Nat) (z t : Int) (h1 : 1 ≤ z) (hn : z ≤ 65536) (hz : t < 1) (w0 : World) :
    Calls Tryd.prog 18 #[.pointer (some ⟨g, 0, none⟩), .int .i64 z, .int .i64 t] w0 fun e w' => e = .returned (.tuple #[.int .i64 (0 : Nat), .int .i64 (1 : Nat)]) ∧ Below w0.heap.size w0 w' := by
  refine enter_fr Tryd.func18 rfl Tryd.ntmps18 (by simp) fun ac (FF : Fr 45 ac [(0, .pointer (some ⟨g, 0, none⟩)), (1, .int .i64 (z : Int)), (2, .int .i64 (t : Int))]) => ?_
  have MM := MemS.start w0
  refine wp_seq (rg_seq FF MM [o_, o_] [0, 1, 2, 6, 7] (fun Kt => Kt [(7, .int .i64 (0 : Nat)), (6, .int .i64 (0 : Nat)), (0, .pointer (some ⟨g, 0, none⟩)), (1, .int .i64 (z : Int)), (2, .int .i64 (t : Int))] []) (by kernel_rfl) (fun _ => by kernel_rfl) (fun ac1 wd1 FF1 MM1 => then_n ?_))
  refine wp_seq ?_
  refine wp_seq (rg_seq FF1 MM1 [o_, u_ 4 (.bool false), o_, o_, u_ 4 (.bool false), o_, o_, o_, t_ (.bool false), o_, o_] [7, 6, 0, 1, 2, 21] (fun Kt => Value.bool (decide (z < ((1 : Nat) : Int))) = .bool false ∧ Value.bool (decide (z > ((65536 : Nat) : Int))) = .bool false ∧ CallP Tryd.prog 32 [.int .i64 (t : Int)] [] (.bool false) ∧ Kt [(21, .bool true), (7, .int .i64 (0 : Nat)), (6, .int .i64 (0 : Nat)), (0, .pointer (some ⟨g, 0, none⟩)), (1, .int .i64 (z : Int)), (2, .int .i64 (t : Int))] []) (by kernel_rfl) (fun _ => by kernel_rfl) (⟨(dec_f (by omega)), (dec_f (by omega)), (callP_of en_tries (tries_lo t hz) _), fun ac2 wd2 FF2 MM2 => then_n ?_⟩))
  refine wp_cond_true (FF2.ev 0 rfl) ?_
  refine wp_seq (rg_seq FF2 MM2 [o_, o_] [7, 6, 0, 1, 2] (fun Kt => Kt [(7, .int .i64 (1 : Nat)), (6, .int .i64 (0 : Nat)), (0, .pointer (some ⟨g, 0, none⟩)), (1, .int .i64 (z : Int)), (2, .int .i64 (t : Int))] []) (by kernel_rfl) (fun _ => by kernel_rfl) (fun ac3 wd3 FF3 MM3 => then_n ?_))
  refine wp_ret ?_
  repeat first | refine then_ret ?_ | refine inb_ret ?_
  exact (ret_tup2 FF3 1 0 Tryd.results18 rfl rfl ⟨rfl, MM3.below⟩)
set_option maxRecDepth 100000 in
theorem rbelow_thi (g : Nat) (z t : Int) (h1 : 1 ≤ z) (hn : z ≤ 65536) (hz : t > 16) (w0 : World) :
    Calls Tryd.prog 18 #[.pointer (some ⟨g, 0, none⟩), .int .i64 z, .int .i64 t] w0 fun e w' => e = .returned (.tuple #[.int .i64 (0 : Nat), .int .i64 (1 : Nat)]) ∧ Below w0.heap.size w0 w' := by
  refine enter_fr Tryd.func18 rfl Tryd.ntmps18 (by simp) fun ac (FF : Fr 45 ac [(0, .pointer (some ⟨g, 0, none⟩)), (1, .int .i64 (z : Int)), (2, .int .i64 (t : Int))]) => ?_
  have MM := MemS.start w0
  refine wp_seq (rg_seq FF MM [o_, o_] [0, 1, 2, 6, 7] (fun Kt => Kt [(7, .int .i64 (0 : Nat)), (6, .int .i64 (0 : Nat)), (0, .pointer (some ⟨g, 0, none⟩)), (1, .int .i64 (z : Int)), (2, .int .i64 (t : Int))] []) (by kernel_rfl) (fun _ => by kernel_rfl) (fun ac1 wd1 FF1 MM1 => then_n ?_))
  refine wp_seq ?_
  refine wp_seq (rg_seq FF1 MM1 [o_, u_ 4 (.bool false), o_, o_, u_ 4 (.bool false), o_, o_, o_, t_ (.bool false), o_, o_] [7, 6, 0, 1, 2, 21] (fun Kt => Value.bool (decide (z < ((1 : Nat) : Int))) = .bool false ∧ Value.bool (decide (z > ((65536 : Nat) : Int))) = .bool false ∧ CallP Tryd.prog 32 [.int .i64 (t : Int)] [] (.bool false) ∧ Kt [(21, .bool true), (7, .int .i64 (0 : Nat)), (6, .int .i64 (0 : Nat)), (0, .pointer (some ⟨g, 0, none⟩)), (1, .int .i64 (z : Int)), (2, .int .i64 (t : Int))] []) (by kernel_rfl) (fun _ => by kernel_rfl) (⟨(dec_f (by omega)), (dec_f (by omega)), (callP_of en_tries (tries_hi t hz) _), fun ac2 wd2 FF2 MM2 => then_n ?_⟩))
  refine wp_cond_true (FF2.ev 0 rfl) ?_
  refine wp_seq (rg_seq FF2 MM2 [o_, o_] [7, 6, 0, 1, 2] (fun Kt => Kt [(7, .int .i64 (1 : Nat)), (6, .int .i64 (0 : Nat)), (0, .pointer (some ⟨g, 0, none⟩)), (1, .int .i64 (z : Int)), (2, .int .i64 (t : Int))] []) (by kernel_rfl) (fun _ => by kernel_rfl) (fun ac3 wd3 FF3 MM3 => then_n ?_))
  refine wp_ret ?_
  repeat first | refine then_ret ?_ | refine inb_ret ?_
  exact (ret_tup2 FF3 1 0 Tryd.results18 rfl rfl ⟨rfl, MM3.below⟩)

end Go.Proofs.YtdeiodcfblldgaaDoor
namespace Go.Proofs.YtdeiodcfblldgaaDoor
open Go.RowKit

theorem minB_zero : minB 0 = [] := by decide
theorem sz_bits {N : Nat} (h : bsz N ≤ 1024) : sz N ≤ 128 := sz_le (Nat.lt_of_lt_of_le (bsz_ok N).1 (Nat.le_trans (Nat.pow_le_pow_right (by decide) h) (by decide +kernel)))
theorem sz_bit {b : Nat} (X : List Nat) (h : b ≤ 1024) : sz (bitN b X) ≤ 128 := sz_le (Nat.lt_of_lt_of_le (bitN_lt b X) (Nat.le_trans (Nat.pow_le_pow_right (by decide) h) (by decide +kernel)))
set_option maxRecDepth 100000 in
theorem runder_any (g : Nat) (X : List Nat) (u : Nat) (hX : ∀ i, X.getD i 0 < 256) (hu : u < 4611686018427000000) (N k : Nat) (h1 : 1 ≤ bsz N) (hb : bsz N ≤ 1024) (hk1 : 1 ≤ k) (hk : k ≤ 16) (w0 : World) (hg : w0.heap[g]? = some (RB X u)) :
    Calls Tryd.prog 21 #[.pointer (some ⟨g, 0, none⟩), .string (bs (minB N)), .int .i64 (k : Nat)] w0 fun e w' => e = .returned (.tuple #[.string (bs (minB (undN N (bsz N) k (X.drop u)).1)), .int .i64 ((undN N (bsz N) k (X.drop u)).2.1 : Nat)]) ∧ Turn g (RB X (u + (undN N (bsz N) k (X.drop u)).2.2)) w0 w' := by
  refine enter_fr Tryd.func21 rfl Tryd.ntmps21 (by simp) fun ac (FF : Fr 59 ac [(0, .pointer (some ⟨g, 0, none⟩)), (1, .string (bs (minB N))), (2, .int .i64 (k : Nat))]) => ?_
  have MM : MemS (fun k => k < w0.heap.size ∧ ∀ x ∈ (g, Obj.cells (#[.string (bs X), .int .i64 (u : Nat)] : Array Value) 29) :: ([] : Blks), x.1 ≠ k) w0 w0 ((g, .cells (#[.string (bs X), .int .i64 (u : Nat)] : Array Value) 29) :: ([] : Blks)) [] := MemS.startN (one_has hg) ⟨fun y hy => (nomatch hy), trivial⟩
  have hsN := sz_bits hb
  refine wp_seq (rg_seq FF MM [o_, o_] [0, 1, 2, 6, 7] (fun Kt => Kt [(7, .int .i64 (0 : Nat)), (6, .string (bs [])), (0, .pointer (some ⟨g, 0, none⟩)), (1, .string (bs (minB N))), (2, .int .i64 (k : Nat))] ((g, .cells (#[.string (bs X), .int .i64 (u : Nat)] : Array Value) 29) :: ([] : Blks))) (by kernel_rfl) (fun _ => by kernel_rfl) (fun ac1 wd1 FF1 MM1 => then_n ?_))
  refine wp_seq (rg_seq FF1 MM1 [o_, t_ (.int .i64 (bsz N : Nat)), o_] [7, 6, 0, 1, 2, 8] (fun Kt => CallP Tryd.prog 35 [.string (bs (minB N))] [] (.int .i64 (bsz N : Nat)) ∧ Kt [(8, .int .i64 (bsz N : Nat)), (7, .int .i64 (0 : Nat)), (6, .string (bs [])), (0, .pointer (some ⟨g, 0, none⟩)), (1, .string (bs (minB N))), (2, .int .i64 (k : Nat))] ((g, .cells (#[.string (bs X), .int .i64 (u : Nat)] : Array Value) 29) :: ([] : Blks))) (by kernel_rfl) (fun _ => by kernel_rfl) (⟨(callP_of en_rbits (bits8_any N (by omega)) _), fun ac2 wd2 FF2 MM2 => then_n ?_⟩))
  refine wp_seq ?_
  refine wp_seq (rg_seq FF2 MM2 [o_, w_ 3, o_, o_, w_ 3, o_, o_, o_, t_ (.bool true), o_, o_] [8, 7, 6, 0, 1, 2, 24] (fun Kt => ¬ ((bsz N) < 1) ∧ ¬ ((bsz N) > 1024) ∧ CallP Tryd.prog 32 [.int .i64 (k : Nat)] [] (.bool true) ∧ Kt [(24, .bool false), (8, .int .i64 (bsz N : Nat)), (7, .int .i64 (0 : Nat)), (6, .string (bs [])), (0, .pointer (some ⟨g, 0, none⟩)), (1, .string (bs (minB N))), (2, .int .i64 (k : Nat))] ((g, .cells (#[.string (bs X), .int .i64 (u : Nat)] : Array Value) 29) :: ([] : Blks))) (by kernel_rfl) (fun _ => by kernel_rfl) (⟨(by omega), (by omega), (callP_of en_tries (tries_yes k (by omega) (by omega)) _), fun ac3 wd3 FF3 MM3 => then_n ?_⟩))
  refine wp_cond_false (FF3.ev 0 rfl) ?_
  refine wp_skip ?_
  refine then_n ?_
  refine wp_seq ?_
  refine wp_seq (rg_seq FF3 MM3 [o_] [8, 7, 6, 0, 1, 2, 9] (fun Kt => Kt [(9, .int .i64 (0 : Nat)), (8, .int .i64 (bsz N : Nat)), (7, .int .i64 (0 : Nat)), (6, .string (bs [])), (0, .pointer (some ⟨g, 0, none⟩)), (1, .string (bs (minB N))), (2, .int .i64 (k : Nat))] ((g, .cells (#[.string (bs X), .int .i64 (u : Nat)] : Array Value) 29) :: ([] : Blks))) (by kernel_rfl) (fun _ => by kernel_rfl) (fun ac4 wd4 FF4 MM4 => then_n ?_))
  refine wp_for2 (fun a' w' => ∃ i : Nat, i ≤ k ∧ UndI N (bsz N) k (X.drop u) i ∧ Fr 59 a' [(9, .int .i64 (i : Nat)), (8, .int .i64 (bsz N : Nat)), (0, .pointer (some ⟨g, 0, none⟩)), (1, .string (bs (minB N))), (2, .int .i64 (k : Nat))] ∧ MemS (fun k => k < w0.heap.size ∧ ∀ x ∈ (g, Obj.cells (#[.string (bs X), .int .i64 (u : Nat)] : Array Value) 29) :: ([] : Blks), x.1 ≠ k) w0 w' ((g, .cells (#[.string (bs X), .int .i64 (u + (bsz N + 7) / 8 * i : Nat)] : Array Value) 29) :: ([] : Blks)) []) (fun a' _ => (k - cnt 9 a').toNat) ⟨0, Nat.zero_le _, und_start _ _ _ _, FF4.pick [0, 1, 4, 5, 6], MM4⟩ ?_
  rintro ac5 wd5 ⟨i, hi, hI, FF5, MM5⟩
  have hc := cnt_of (FF5.get 0 rfl)
  refine rg_seq FF5 MM5 [o_, o_, o_] [9, 8, 0, 1, 2, 27] (fun Kt => Kt [(27, .bool (decide (i < k))), (9, .int .i64 (i : Nat)), (8, .int .i64 (bsz N : Nat)), (0, .pointer (some ⟨g, 0, none⟩)), (1, .string (bs (minB N))), (2, .int .i64 (k : Nat))] ((g, .cells (#[.string (bs X), .int .i64 (u + (bsz N + 7) / 8 * i : Nat)] : Array Value) 29) :: ([] : Blks))) (by kernel_rfl) (fun _ => by kernel_rfl) (fun ac6 wd6 FF6 MM6 => ?_)
  by_cases hlt : i < k
  · skip
    refine then_n (.inl ⟨(FF6.ev 0 rfl).trans (dec_t hlt), ?_⟩)
    have hmi : (bsz N + 7) / 8 * i ≤ 129 * 16 := Nat.mul_le_mul (by omega) (by omega)
    have hXi := dropX_lt hX (u + (bsz N + 7) / 8 * i)
    have hmk : (takN ((bsz N + 7) / 8) (X.drop (u + (bsz N + 7) / 8 * i))).getD ((bsz N + 7) / 8 - 1) 0 &&& ((1 * 2 ^ (bsz N % 8) % 256 + (256 - 1)) % 256) < 256 := Nat.lt_of_le_of_lt Nat.and_le_left (takN_lt hXi _ _)
    have hY2 := setY_lt (i := (bsz N + 7) / 8 - 1) (takN_lt hXi ((bsz N + 7) / 8)) hmk
    refine wp_seq (wp_region_list ?_)
    refine rg_part 5 FF6 MM6 [o_, o_, o_, o_, c_ (.string (bs (takN (((bsz N) + 7) / 8) (X.drop (u + (bsz N + 7) / 8 * i))))) [(0, .cells (#[.string (bs X), .int .i64 (u + (bsz N + 7) / 8 * (i + 1) : Nat)] : Array Value) 29)]] [9, 8, 0, 1, 2, 34] (fun Kt => (bsz N) + 7 < 9223372036854775808 ∧ 8 ≠ 0 ∧ ((bsz N) + 7) / 8 < 9223372036854775808 ∧ CallU Tryd.prog 12 [.pointer (some ⟨g, 0, none⟩), .int .i64 (((bsz N) + 7) / 8 : Nat)] ((g, .cells (#[.string (bs X), .int .i64 (u + (bsz N + 7) / 8 * i : Nat)] : Array Value) 29) :: ([] : Blks)) (.string (bs (takN (((bsz N) + 7) / 8) (X.drop (u + (bsz N + 7) / 8 * i))))) [(0, .cells (#[.string (bs X), .int .i64 (u + (bsz N + 7) / 8 * (i + 1) : Nat)] : Array Value) 29)] ∧ Kt [(34, .string (bs (takN (((bsz N) + 7) / 8) (X.drop (u + (bsz N + 7) / 8 * i))))), (9, .int .i64 (i : Nat)), (8, .int .i64 (bsz N : Nat)), (0, .pointer (some ⟨g, 0, none⟩)), (1, .string (bs (minB N))), (2, .int .i64 (k : Nat))] ((g, .cells (#[.string (bs X), .int .i64 (u + (bsz N + 7) / 8 * (i + 1) : Nat)] : Array Value) 29) :: ([] : Blks))) (by kernel_rfl) (fun _ => by kernel_rfl) (⟨(by have := hb; omega), (by decide), (by have := hb; omega), (callU_turn en_rtake (g := g) (ob := RB X (u + (bsz N + 7) / 8 * i)) rfl fun w hg => by have h0 := rtake_any g (((bsz N) + 7) / 8) X (u + (bsz N + 7) / 8 * i) hX (by omega) (by omega) w hg; rw [Nat.add_assoc, ← Nat.mul_succ] at h0; exact h0), fun ac7 wd7 FF7 MM7 => ?_⟩)
    refine st_new [9, 8, 0, 1, 2, 35] FF7 MM7 (d := 35) (bytes_ok (e := 5) (x := (.tmp 34)) (by kernel_rfl) rfl (takN_lt (dropX_lt hX (u + (bsz N + 7) / 8 * i)) (((bsz N) + 7) / 8)) Tryd.underlying9 Tryd.underlying63 Tryd.underlying5) rfl rfl (by decide) fun ac8 wd8 bs_ cz (FF8 : Fr 59 ac8 [(35, .slice (some ⟨bs_, 0, none⟩) ((takN (((bsz N) + 7) / 8) (X.drop (u + (bsz N + 7) / 8 * i))).length) ((takN (((bsz N) + 7) / 8) (X.drop (u + (bsz N + 7) / 8 * i))).length + cz)), (9, .int .i64 (i : Nat)), (8, .int .i64 (bsz N : Nat)), (0, .pointer (some ⟨g, 0, none⟩)), (1, .string (bs (minB N))), (2, .int .i64 (k : Nat))]) (MM8 : MemS (fun k => k < w0.heap.size ∧ ∀ x ∈ (g, Obj.cells (#[.string (bs X), .int .i64 (u : Nat)] : Array Value) 29) :: ([] : Blks), x.1 ≠ k) w0 wd8 ((bs_, .cells (cn .u8 ((takN (((bsz N) + 7) / 8) (X.drop (u + (bsz N + 7) / 8 * i))) ++ List.replicate cz 0)) 5 ((takN (((bsz N) + 7) / 8) (X.drop (u + (bsz N + 7) / 8 * i))).length + cz, (takN (((bsz N) + 7) / 8) (X.drop (u + (bsz N + 7) / 8 * i))).length + cz + 1)) :: (g, .cells (#[.string (bs X), .int .i64 (u + (bsz N + 7) / 8 * (i + 1) : Nat)] : Array Value) 29) :: ([] : Blks)) []) => ?_
    refine rg_part 1 FF8 MM8 [o_] [9, 8, 0, 1, 2, 10] (fun Kt => Kt [(10, .slice (some ⟨bs_, 0, none⟩) ((takN (((bsz N) + 7) / 8) (X.drop (u + (bsz N + 7) / 8 * i))).length) ((takN (((bsz N) + 7) / 8) (X.drop (u + (bsz N + 7) / 8 * i))).length + cz)), (9, .int .i64 (i : Nat)), (8, .int .i64 (bsz N : Nat)), (0, .pointer (some ⟨g, 0, none⟩)), (1, .string (bs (minB N))), (2, .int .i64 (k : Nat))] ((bs_, .cells (cn .u8 ((takN (((bsz N) + 7) / 8) (X.drop (u + (bsz N + 7) / 8 * i))) ++ List.replicate cz 0)) 5 ((takN (((bsz N) + 7) / 8) (X.drop (u + (bsz N + 7) / 8 * i))).length + cz, (takN (((bsz N) + 7) / 8) (X.drop (u + (bsz N + 7) / 8 * i))).length + cz + 1)) :: (g, .cells (#[.string (bs X), .int .i64 (u + (bsz N + 7) / 8 * (i + 1) : Nat)] : Array Value) 29) :: ([] : Blks))) (by kernel_rfl) (fun _ => by kernel_rfl) (fun ac9 wd9 FF9 MM9 => ?_)
    refine wpl_nil (then_n ?_)
    refine wp_mid (fun a' w' => ∃ Z : List Nat, Z.length = (takN ((bsz N + 7) / 8) (X.drop (u + (bsz N + 7) / 8 * i))).length ∧ (∀ i, Z.getD i 0 < 256) ∧ leV Z = bitN (bsz N) (X.drop (u + (bsz N + 7) / 8 * i)) ∧ Fr 59 a' [(10, .slice (some ⟨bs_, 0, none⟩) ((takN (((bsz N) + 7) / 8) (X.drop (u + (bsz N + 7) / 8 * i))).length) ((takN (((bsz N) + 7) / 8) (X.drop (u + (bsz N + 7) / 8 * i))).length + cz)), (9, .int .i64 (i : Nat)), (8, .int .i64 (bsz N : Nat)), (0, .pointer (some ⟨g, 0, none⟩)), (1, .string (bs (minB N))), (2, .int .i64 (k : Nat))] ∧ MemS (fun k => k < w0.heap.size ∧ ∀ x ∈ (g, Obj.cells (#[.string (bs X), .int .i64 (u : Nat)] : Array Value) 29) :: ([] : Blks), x.1 ≠ k) w0 w' ((bs_, .cells (cn .u8 (Z ++ List.replicate cz 0)) 5 ((takN ((bsz N + 7) / 8) (X.drop (u + (bsz N + 7) / 8 * i))).length + cz, (takN ((bsz N + 7) / 8) (X.drop (u + (bsz N + 7) / 8 * i))).length + cz + 1)) :: (g, .cells (#[.string (bs X), .int .i64 (u + (bsz N + 7) / 8 * (i + 1) : Nat)] : Array Value) 29) :: ([] : Blks)) []) ?_ ?_
    · skip
      refine wp_seq (rg_seq FF9 MM9 [o_, o_, o_] [10, 9, 8, 0, 1, 2, 38] (fun Kt => 8 ≠ 0 ∧ Kt [(38, .bool (decide (((bsz N) % 8) ≠ 0))), (10, .slice (some ⟨bs_, 0, none⟩) ((takN (((bsz N) + 7) / 8) (X.drop (u + (bsz N + 7) / 8 * i))).length) ((takN (((bsz N) + 7) / 8) (X.drop (u + (bsz N + 7) / 8 * i))).length + cz)), (9, .int .i64 (i : Nat)), (8, .int .i64 (bsz N : Nat)), (0, .pointer (some ⟨g, 0, none⟩)), (1, .string (bs (minB N))), (2, .int .i64 (k : Nat))] ((bs_, .cells (cn .u8 ((takN (((bsz N) + 7) / 8) (X.drop (u + (bsz N + 7) / 8 * i))) ++ List.replicate cz 0)) 5 ((takN (((bsz N) + 7) / 8) (X.drop (u + (bsz N + 7) / 8 * i))).length + cz, (takN (((bsz N) + 7) / 8) (X.drop (u + (bsz N + 7) / 8 * i))).length + cz + 1)) :: (g, .cells (#[.string (bs X), .int .i64 (u + (bsz N + 7) / 8 * (i + 1) : Nat)] : Array Value) 29) :: ([] : Blks))) (by kernel_rfl) (fun _ => by kernel_rfl) (⟨(by decide), fun ac10 wd10 FF10 MM10 => then_n ?_⟩))
      by_cases hs38 : ((bsz N) % 8) ≠ 0
      · refine wp_cond_true ((FF10.ev 0 rfl).trans (dec_t hs38)) ?_
        refine rg_draw FF10 MM10 [.inl (.slice (some ⟨bs_, 0, none⟩) ((takN (((bsz N) + 7) / 8) (X.drop (u + (bsz N + 7) / 8 * i))).length) ((takN (((bsz N) + 7) / 8) (X.drop (u + (bsz N + 7) / 8 * i))).length + cz)), .inl (.slice (some ⟨bs_, 0, none⟩) ((takN (((bsz N) + 7) / 8) (X.drop (u + (bsz N + 7) / 8 * i))).length) ((takN (((bsz N) + 7) / 8) (X.drop (u + (bsz N + 7) / 8 * i))).length + cz)), .inl (.int .i64 ((bsz N + 7) / 8 : Nat)), .inl (.int .i64 (((bsz N + 7) / 8) - 1 : Nat)), .inl (.pointer (some ⟨bs_, ((bsz N + 7) / 8) - 1, none⟩)), .inl (.int .u8 ((takN ((bsz N + 7) / 8) (X.drop (u + (bsz N + 7) / 8 * i))).getD ((bsz N + 7) / 8 - 1) 0 : Nat)), .inl (.int .i64 (bsz N : Nat)), .inl (.int .i64 ((bsz N) % 8 : Nat)), .inl (.int .u8 (1 * (2 ^ ((bsz N) % 8)) % 256 : Nat)), .inl (.int .u8 (((1 * (2 ^ ((bsz N) % 8)) % 256) + (256 - 1)) % 256 : Nat)), .inl (.int .u8 (((takN ((bsz N + 7) / 8) (X.drop (u + (bsz N + 7) / 8 * i))).getD ((bsz N + 7) / 8 - 1) 0) &&& (((1 * (2 ^ ((bsz N) % 8)) % 256) + (256 - 1)) % 256) : Nat)), .inl (.pointer (some ⟨bs_, ((bsz N + 7) / 8) - 1, none⟩))] [] [o_, o_, t_ (.int .i64 ((bsz N + 7) / 8 : Nat)), o_, w_ 1, l_ 0 (.int .u8 ((takN ((bsz N + 7) / 8) (X.drop (u + (bsz N + 7) / 8 * i))).getD ((bsz N + 7) / 8 - 1) 0 : Nat)), o_, o_, o_, o_, o_, w_ 1] [s_ 0 (.cells (cn .u8 ((takN ((bsz N + 7) / 8) (X.drop (u + (bsz N + 7) / 8 * i))).set ((bsz N + 7) / 8 - 1) ((takN ((bsz N + 7) / 8) (X.drop (u + (bsz N + 7) / 8 * i))).getD ((bsz N + 7) / 8 - 1) 0 &&& ((1 * 2 ^ (bsz N % 8) % 256 + (256 - 1)) % 256)) ++ List.replicate cz 0)) 5)] [10, 9, 8, 0, 1, 2] (fun nb => [Value.int .i64 ((takN (((bsz N) + 7) / 8) (X.drop (u + (bsz N + 7) / 8 * i))).length : Nat) = .int .i64 ((bsz N + 7) / 8 : Nat), 1 ≤ ((bsz N + 7) / 8), ((bsz N + 7) / 8) - 1 < 9223372036854775808, (((bsz N + 7) / 8) - 1) < ((takN (((bsz N) + 7) / 8) (X.drop (u + (bsz N + 7) / 8 * i))).length), bs_ = bs_, (cn .u8 ((takN (((bsz N) + 7) / 8) (X.drop (u + (bsz N + 7) / 8 * i))) ++ List.replicate cz 0))[((bsz N + 7) / 8) - 1]? = some (.int .u8 ((takN ((bsz N + 7) / 8) (X.drop (u + (bsz N + 7) / 8 * i))).getD ((bsz N + 7) / 8 - 1) 0 : Nat)), 8 ≠ 0, 1 ≤ 256, ((takN ((bsz N + 7) / 8) (X.drop (u + (bsz N + 7) / 8 * i))).getD ((bsz N + 7) / 8 - 1) 0) < 256, (((1 * (2 ^ ((bsz N) % 8)) % 256) + (256 - 1)) % 256) < 256, (((bsz N + 7) / 8) - 1) < ((takN (((bsz N) + 7) / 8) (X.drop (u + (bsz N + 7) / 8 * i))).length)]) (fun nb Kt => bs_ = bs_ ∧ ((bsz N + 7) / 8) - 1 < (cn .u8 ((takN (((bsz N) + 7) / 8) (X.drop (u + (bsz N + 7) / 8 * i))) ++ List.replicate cz 0)).size ∧ ((((takN (((bsz N) + 7) / 8) (X.drop (u + (bsz N + 7) / 8 * i))).length + cz, (takN (((bsz N) + 7) / 8) (X.drop (u + (bsz N + 7) / 8 * i))).length + cz + 1)).2 = 0 ∨ ((bsz N + 7) / 8) - 1 < (((takN (((bsz N) + 7) / 8) (X.drop (u + (bsz N + 7) / 8 * i))).length + cz, (takN (((bsz N) + 7) / 8) (X.drop (u + (bsz N + 7) / 8 * i))).length + cz + 1)).1) ∧ (cn .u8 ((takN (((bsz N) + 7) / 8) (X.drop (u + (bsz N + 7) / 8 * i))) ++ List.replicate cz 0)).setIfInBounds (((bsz N + 7) / 8) - 1) (.int .u8 (((takN ((bsz N + 7) / 8) (X.drop (u + (bsz N + 7) / 8 * i))).getD ((bsz N + 7) / 8 - 1) 0) &&& (((1 * (2 ^ ((bsz N) % 8)) % 256) + (256 - 1)) % 256) : Nat)) = cn .u8 ((takN ((bsz N + 7) / 8) (X.drop (u + (bsz N + 7) / 8 * i))).set ((bsz N + 7) / 8 - 1) ((takN ((bsz N + 7) / 8) (X.drop (u + (bsz N + 7) / 8 * i))).getD ((bsz N + 7) / 8 - 1) 0 &&& ((1 * 2 ^ (bsz N % 8) % 256 + (256 - 1)) % 256)) ++ List.replicate cz 0) ∧ Kt [(10, .slice (some ⟨bs_, 0, none⟩) ((takN (((bsz N) + 7) / 8) (X.drop (u + (bsz N + 7) / 8 * i))).length) ((takN (((bsz N) + 7) / 8) (X.drop (u + (bsz N + 7) / 8 * i))).length + cz)), (9, .int .i64 (i : Nat)), (8, .int .i64 (bsz N : Nat)), (0, .pointer (some ⟨g, 0, none⟩)), (1, .string (bs (minB N))), (2, .int .i64 (k : Nat))] ((bs_, .cells (cn .u8 ((takN ((bsz N + 7) / 8) (X.drop (u + (bsz N + 7) / 8 * i))).set ((bsz N + 7) / 8 - 1) ((takN ((bsz N + 7) / 8) (X.drop (u + (bsz N + 7) / 8 * i))).getD ((bsz N + 7) / 8 - 1) 0 &&& ((1 * 2 ^ (bsz N % 8) % 256 + (256 - 1)) % 256)) ++ List.replicate cz 0)) 5 ((takN (((bsz N) + 7) / 8) (X.drop (u + (bsz N + 7) / 8 * i))).length + cz, (takN (((bsz N) + 7) / 8) (X.drop (u + (bsz N + 7) / 8 * i))).length + cz + 1)) :: (g, .cells (#[.string (bs X), .int .i64 (u + (bsz N + 7) / 8 * (i + 1) : Nat)] : Array Value) 29) :: ([] : Blks))) (by kernel_rfl) (by kernel_rfl) (by kernel_rfl) (fun _ => by kernel_rfl) (fun _ _ => by kernel_rfl) trivial (fun nb => ⟨(vI (takN_len _ _)), (by omega), (by omega), (by rw [takN_len]; omega), rfl, ((cn_get _ _ _ (by rw [List.length_append, takN_len]; omega)).trans (congrArg some (vI (getD_app_l _ _ _ (by rw [takN_len]; omega))))), (by decide), (by decide), (takN_lt hXi _ _), (Nat.mod_lt _ (by decide)), (by rw [takN_len]; omega), trivial⟩) (fun nb => ⟨rfl, (by rw [cn_size, List.length_append, takN_len]; omega), (.inr (by rw [takN_len]; show _ < _; omega)), ((cn_set _ _ _ _).trans (congrArg _ (setY_rep (by rw [takN_len]; omega)))), fun ac11 wd11 FF11 MM11 => ?_⟩)
        refine then_n ?_
        exact ⟨(takN ((bsz N + 7) / 8) (X.drop (u + (bsz N + 7) / 8 * i))).set ((bsz N + 7) / 8 - 1) ((takN ((bsz N + 7) / 8) (X.drop (u + (bsz N + 7) / 8 * i))).getD ((bsz N + 7) / 8 - 1) 0 &&& ((1 * 2 ^ (bsz N % 8) % 256 + (256 - 1)) % 256)), (by rw [List.length_set]), hY2, (bit_ref hXi hs38), FF11.pick [0, 1, 2, 3, 4, 5], MM11⟩
      · refine wp_cond_false ((FF10.ev 0 rfl).trans (dec_f hs38)) ?_
        refine wp_skip ?_
        refine then_n ?_
        exact ⟨takN ((bsz N + 7) / 8) (X.drop (u + (bsz N + 7) / 8 * i)), rfl, (takN_lt hXi _), (bit_ref0 hXi (Classical.byContradiction hs38)), FF10.pick [1, 2, 3, 4, 5, 6], MM10⟩
    · rintro ac12 wd12 ⟨Z, hZl, hZb, hZv, FF12, MM12⟩
      refine wp_seq (rg_seq FF12 MM12 [o_, l_ 0 (.string (bs Z)), t_ (.string (bs (minB (bitN (bsz N) (X.drop (u + (bsz N + 7) / 8 * i)))))), o_] [10, 9, 8, 0, 1, 2, 11] (fun Kt => bs_ = bs_ ∧ StrAt (cn .u8 (Z ++ List.replicate cz 0)) 0 ((takN (((bsz N) + 7) / 8) (X.drop (u + (bsz N + 7) / 8 * i))).length) (bs Z) ∧ CallP Tryd.prog 22 [.string (bs Z)] [] (.string (bs (minB (bitN (bsz N) (X.drop (u + (bsz N + 7) / 8 * i)))))) ∧ Kt [(11, .string (bs (minB (bitN (bsz N) (X.drop (u + (bsz N + 7) / 8 * i)))))), (10, .slice (some ⟨bs_, 0, none⟩) ((takN (((bsz N) + 7) / 8) (X.drop (u + (bsz N + 7) / 8 * i))).length) ((takN (((bsz N) + 7) / 8) (X.drop (u + (bsz N + 7) / 8 * i))).length + cz)), (9, .int .i64 (i : Nat)), (8, .int .i64 (bsz N : Nat)), (0, .pointer (some ⟨g, 0, none⟩)), (1, .string (bs (minB N))), (2, .int .i64 (k : Nat))] ((bs_, .cells (cn .u8 (Z ++ List.replicate cz 0)) 5 ((takN ((bsz N + 7) / 8) (X.drop (u + (bsz N + 7) / 8 * i))).length + cz, (takN ((bsz N + 7) / 8) (X.drop (u + (bsz N + 7) / 8 * i))).length + cz + 1)) :: (g, .cells (#[.string (bs X), .int .i64 (u + (bsz N + 7) / 8 * (i + 1) : Nat)] : Array Value) 29) :: ([] : Blks))) (by kernel_rfl) (fun _ => by kernel_rfl) (⟨rfl, (strY_rep hZl hZb), (by have h0 := callP_of en_rbytes (bytes_any Z hZb (by rw [hZl, takN_len]; omega)) []; rw [hZv] at h0; exact h0), fun ac13 wd13 FF13 MM13 => then_n ?_⟩))
      have hsb := sz_bit (X.drop (u + (bsz N + 7) / 8 * i)) hb
      refine wp_seq (rg_seq FF13 MM13 [o_, o_, t_ (.int .i64 (cmpN (bitN (bsz N) (X.drop (u + (bsz N + 7) / 8 * i))) N : Int)), w_ 4] [11, 10, 9, 8, 0, 1, 2, 57] (fun Kt => CallP Tryd.prog 36 [.string (bs (minB (bitN (bsz N) (X.drop (u + (bsz N + 7) / 8 * i))))), .string (bs (minB N))] [] (.int .i64 (cmpN (bitN (bsz N) (X.drop (u + (bsz N + 7) / 8 * i))) N : Int)) ∧ Kt [(57, .bool (decide ((cmpN (bitN (bsz N) (X.drop (u + (bsz N + 7) / 8 * i))) N) < ((0 : Nat) : Int)))), (11, .string (bs (minB (bitN (bsz N) (X.drop (u + (bsz N + 7) / 8 * i)))))), (10, .slice (some ⟨bs_, 0, none⟩) ((takN (((bsz N) + 7) / 8) (X.drop (u + (bsz N + 7) / 8 * i))).length) ((takN (((bsz N) + 7) / 8) (X.drop (u + (bsz N + 7) / 8 * i))).length + cz)), (9, .int .i64 (i : Nat)), (8, .int .i64 (bsz N : Nat)), (0, .pointer (some ⟨g, 0, none⟩)), (1, .string (bs (minB N))), (2, .int .i64 (k : Nat))] ((bs_, .cells (cn .u8 (Z ++ List.replicate cz 0)) 5 ((takN ((bsz N + 7) / 8) (X.drop (u + (bsz N + 7) / 8 * i))).length + cz, (takN ((bsz N + 7) / 8) (X.drop (u + (bsz N + 7) / 8 * i))).length + cz + 1)) :: (g, .cells (#[.string (bs X), .int .i64 (u + (bsz N + 7) / 8 * (i + 1) : Nat)] : Array Value) 29) :: ([] : Blks))) (by kernel_rfl) (fun _ => by kernel_rfl) (⟨(callP_of en_rcmp (cmp_any (bitN (bsz N) (X.drop (u + (bsz N + 7) / 8 * i))) N (by omega)) _), fun ac14 wd14 FF14 MM14 => then_n ?_⟩))
      by_cases hs57 : (cmpN (bitN (bsz N) (X.drop (u + (bsz N + 7) / 8 * i))) N) < ((0 : Nat) : Int)
      · refine wp_cond_true ((FF14.ev 0 rfl).trans (dec_t hs57)) ?_
        have hE := und_yes hI hlt (by rw [List.drop_drop]; exact (cmp_neg _ _).1 hs57)
        refine wp_seq (rg_seq FF14 MM14 [o_, o_, o_] [11, 10, 9, 8, 0, 1, 2, 6, 7] (fun Kt => Kt [(7, .int .i64 (0 : Nat)), (6, .string (bs (minB (bitN (bsz N) (X.drop (u + (bsz N + 7) / 8 * i)))))), (11, .string (bs (minB (bitN (bsz N) (X.drop (u + (bsz N + 7) / 8 * i)))))), (10, .slice (some ⟨bs_, 0, none⟩) ((takN (((bsz N) + 7) / 8) (X.drop (u + (bsz N + 7) / 8 * i))).length) ((takN (((bsz N) + 7) / 8) (X.drop (u + (bsz N + 7) / 8 * i))).length + cz)), (9, .int .i64 (i : Nat)), (8, .int .i64 (bsz N : Nat)), (0, .pointer (some ⟨g, 0, none⟩)), (1, .string (bs (minB N))), (2, .int .i64 (k : Nat))] ((bs_, .cells (cn .u8 (Z ++ List.replicate cz 0)) 5 ((takN ((bsz N + 7) / 8) (X.drop (u + (bsz N + 7) / 8 * i))).length + cz, (takN ((bsz N + 7) / 8) (X.drop (u + (bsz N + 7) / 8 * i))).length + cz + 1)) :: (g, .cells (#[.string (bs X), .int .i64 (u + (bsz N + 7) / 8 * (i + 1) : Nat)] : Array Value) 29) :: ([] : Blks))) (by kernel_rfl) (fun _ => by kernel_rfl) (fun ac15 wd15 FF15 MM15 => then_n ?_))
        refine wp_ret ?_
        repeat first | refine then_ret ?_ | refine inb_ret ?_
        exact (ret_tup2 FF15 1 0 Tryd.results21 rfl rfl (by rw [hE]; exact ⟨by rw [List.drop_drop], MM15.turn (O := []) (fun i x hx => by simp at hx) 1 rfl (fun x hx => (nomatch hx))⟩))
      · refine wp_cond_false ((FF14.ev 0 rfl).trans (dec_f hs57)) ?_
        have hno := fun h => hs57 ((cmp_neg _ _).2 h)
        refine wp_skip ?_
        refine inb_n (then_n ?_)
        refine rg_seq FF14 MM14 [o_, o_, o_] [11, 10, 9, 8, 0, 1, 2] (fun Kt => i + 1 < 9223372036854775808 ∧ Kt [(9, .int .i64 (i + 1 : Nat)), (11, .string (bs (minB (bitN (bsz N) (X.drop (u + (bsz N + 7) / 8 * i)))))), (10, .slice (some ⟨bs_, 0, none⟩) ((takN (((bsz N) + 7) / 8) (X.drop (u + (bsz N + 7) / 8 * i))).length) ((takN (((bsz N) + 7) / 8) (X.drop (u + (bsz N + 7) / 8 * i))).length + cz)), (8, .int .i64 (bsz N : Nat)), (0, .pointer (some ⟨g, 0, none⟩)), (1, .string (bs (minB N))), (2, .int .i64 (k : Nat))] ((bs_, .cells (cn .u8 (Z ++ List.replicate cz 0)) 5 ((takN ((bsz N + 7) / 8) (X.drop (u + (bsz N + 7) / 8 * i))).length + cz, (takN ((bsz N + 7) / 8) (X.drop (u + (bsz N + 7) / 8 * i))).length + cz + 1)) :: (g, .cells (#[.string (bs X), .int .i64 (u + (bsz N + 7) / 8 * (i + 1) : Nat)] : Array Value) 29) :: ([] : Blks))) (by kernel_rfl) (fun _ => by kernel_rfl) (⟨(by omega), fun ac16 wd16 FF16 MM16 => ?_⟩)
        have hd := cnt_of (FF16.get 0 rfl)
        refine then_n ⟨⟨i + 1, by omega, und_no hI hlt (by rw [List.drop_drop]; exact hno), FF16.pick [0, 3, 4, 5, 6], (MM16.dropAt 0)⟩, ?_⟩
        rw [hc, hd]; omega
  · skip
    refine then_n (.inr ⟨(FF6.ev 0 rfl).trans (dec_f hlt), ?_⟩)
    have hik : i = k := by omega
    subst hik
    have hE := und_end hI
    refine then_n ?_
    refine wp_seq (rg_seq FF6 MM6 [o_, o_] [9, 8, 0, 1, 2, 6, 7] (fun Kt => Kt [(7, .int .i64 (3 : Nat)), (6, .string (bs [])), (9, .int .i64 (i : Nat)), (8, .int .i64 (bsz N : Nat)), (0, .pointer (some ⟨g, 0, none⟩)), (1, .string (bs (minB N))), (2, .int .i64 (i : Nat))] ((g, .cells (#[.string (bs X), .int .i64 (u + (bsz N + 7) / 8 * i : Nat)] : Array Value) 29) :: ([] : Blks))) (by kernel_rfl) (fun _ => by kernel_rfl) (fun ac17 wd17 FF17 MM17 => then_n ?_))
    refine wp_ret ?_
    repeat first | refine then_ret ?_ | refine inb_ret ?_
    exact (ret_tup2 FF17 1 0 Tryd.results21 rfl rfl (by rw [hE]; exact ⟨by rw [minB_zero], MM17.turn (O := []) (fun i x hx => by simp at hx) 0 rfl (fun x hx => (nomatch hx))⟩))
set_option maxRecDepth 100000 in
theorem runder_zero (g : Nat) (N : Nat) (hs : sz N < 1000000) (t : Int) (hz : bsz N < 1)  (w0 : World) :
    Calls Tryd.prog 21 #[.pointer (some ⟨g, 0, none⟩), .string (bs (minB N)), .int .i64 t] w0 fun e w' => e = .returned (.tuple #[.string (bs []), .int .i64 (1 : Nat)]) ∧ Below w0.heap.size w0 w' := by
  refine enter_fr Tryd.func21 rfl Tryd.ntmps21 (by simp) fun ac (FF : Fr 59 ac [(0, .pointer (some ⟨g, 0, none⟩)), (1, .string (bs (minB N))), (2, .int .i64 (t : Int))]) => ?_
  have MM := MemS.start w0
  refine wp_seq (rg_seq FF MM [o_, o_] [0, 1, 2, 6, 7] (fun Kt => Kt [(7, .int .i64 (0 : Nat)), (6, .string (bs [])), (0, .pointer (some ⟨g, 0, none⟩)), (1, .string (bs (minB N))), (2, .int .i64 (t : Int))] []) (by kernel_rfl) (fun _ => by kernel_rfl) (fun ac1 wd1 FF1 MM1 => then_n ?_))
  refine wp_seq (rg_seq FF1 MM1 [o_, t_ (.int .i64 (bsz N : Nat)), o_] [7, 6, 0, 1, 2, 8] (fun Kt => CallP Tryd.prog 35 [.string (bs (minB N))] [] (.int .i64 (bsz N : Nat)) ∧ Kt [(8, .int .i64 (bsz N : Nat)), (7, .int .i64 (0 : Nat)), (6, .string (bs [])), (0, .pointer (some ⟨g, 0, none⟩)), (1, .string (bs (minB N))), (2, .int .i64 (t : Int))] []) (by kernel_rfl) (fun _ => by kernel_rfl) (⟨(callP_of en_rbits (bits8_any N hs) _), fun ac2 wd2 FF2 MM2 => then_n ?_⟩))
  refine wp_seq ?_
  refine wp_seq (rg_seq FF2 MM2 [o_, w_ 2, o_, o_, o_, o_, o_, o_, o_, o_, o_] [8, 7, 6, 0, 1, 2, 24] (fun Kt => (bsz N) < 1 ∧ Kt [(24, .bool true), (8, .int .i64 (bsz N : Nat)), (7, .int .i64 (0 : Nat)), (6, .string (bs [])), (0, .pointer (some ⟨g, 0, none⟩)), (1, .string (bs (minB N))), (2, .int .i64 (t : Int))] []) (by kernel_rfl) (fun _ => by kernel_rfl) (⟨hz, fun ac3 wd3 FF3 MM3 => then_n ?_⟩))
  refine wp_cond_true (FF3.ev 0 rfl) ?_
  refine wp_seq (rg_seq FF3 MM3 [o_, o_] [8, 7, 6, 0, 1, 2] (fun Kt => Kt [(7, .int .i64 (1 : Nat)), (6, .string (bs [])), (8, .int .i64 (bsz N : Nat)), (0, .pointer (some ⟨g, 0, none⟩)), (1, .string (bs (minB N))), (2, .int .i64 (t : Int))] []) (by kernel_rfl) (fun _ => by kernel_rfl) (fun ac4 wd4 FF4 MM4 => then_n ?_))
  refine wp_ret ?_
  repeat first | refine then_ret ?_ | refine inb_ret ?_
  exact (ret_tup2 FF4 1 0 Tryd.results21 rfl rfl ⟨rfl, MM4.below⟩)
set_option maxRecDepth 100000 in
theorem runder_big (g : Nat) (N : Nat) (hs : sz N < 1000000) (t : Int) (hz : bsz N > 1024)  (w0 : World) :
    Calls Tryd.prog 21 #[.pointer (some ⟨g, 0, none⟩), .string (bs (minB N)), .int .i64 t] w0 fun e w' => e = .returned (.tuple #[.string (bs []), .int .i64 (1 : Nat)]) ∧ Below w0.heap.size w0 w' := by
  refine enter_fr Tryd.func21 rfl Tryd.ntmps21 (by simp) fun ac (FF : Fr 59 ac [(0, .pointer (some ⟨g, 0, none⟩)), (1, .string (bs (minB N))), (2, .int .i64 (t : Int))]) => ?_
  have MM := MemS.start w0
  refine wp_seq (rg_seq FF MM [o_, o_] [0, 1, 2, 6, 7] (fun Kt => Kt [(7, .int .i64 (0 : Nat)), (6, .string (bs [])), (0, .pointer (some ⟨g, 0, none⟩)), (1, .string (bs (minB N))), (2, .int .i64 (t : Int))] []) (by kernel_rfl) (fun _ => by kernel_rfl) (fun ac1 wd1 FF1 MM1 => then_n ?_))
  refine wp_seq (rg_seq FF1 MM1 [o_, t_ (.int .i64 (bsz N : Nat)), o_] [7, 6, 0, 1, 2, 8] (fun Kt => CallP Tryd.prog 35 [.string (bs (minB N))] [] (.int .i64 (bsz N : Nat)) ∧ Kt [(8, .int .i64 (bsz N : Nat)), (7, .int .i64 (0 : Nat)), (6, .string (bs [])), (0, .pointer (some ⟨g, 0, none⟩)), (1, .string (bs (minB N))), (2, .int .i64 (t : Int))] []) (by kernel_rfl) (fun _ => by kernel_rfl) (⟨(callP_of en_rbits (bits8_any N hs) _), fun ac2 wd2 FF2 MM2 => then_n ?_⟩))
  refine wp_seq ?_
  refine wp_seq (rg_seq FF2 MM2 [o_, w_ 3, o_, o_, w_ 2, o_, o_, o_, o_, o_, o_] [8, 7, 6, 0, 1, 2, 24] (fun Kt => ¬ ((bsz N) < 1) ∧ (bsz N) > 1024 ∧ Kt [(24, .bool true), (8, .int .i64 (bsz N : Nat)), (7, .int .i64 (0 : Nat)), (6, .string (bs [])), (0, .pointer (some ⟨g, 0, none⟩)), (1, .string (bs (minB N))), (2, .int .i64 (t : Int))] []) (by kernel_rfl) (fun _ => by kernel_rfl) (⟨(by omega), hz, fun ac3 wd3 FF3 MM3 => then_n ?_⟩))
  refine wp_cond_true (FF3.ev 0 rfl) ?_
  refine wp_seq (rg_seq FF3 MM3 [o_, o_] [8, 7, 6, 0, 1, 2] (fun Kt => Kt [(7, .int .i64 (1 : Nat)), (6, .string (bs [])), (8, .int .i64 (bsz N : Nat)), (0, .pointer (some ⟨g, 0, none⟩)), (1, .string (bs (minB N))), (2, .int .i64 (t : Int))] []) (by kernel_rfl) (fun _ => by kernel_rfl) (fun ac4 wd4 FF4 MM4 => then_n ?_))
  refine wp_ret ?_
  repeat first | refine then_ret ?_ | refine inb_ret ?_
  exact (ret_tup2 FF4 1 0 Tryd.results21 rfl rfl ⟨rfl, MM4.below⟩)
set_option maxRecDepth 100000 in
theorem runder_tlo (g : Nat) (N : Nat) (hs : sz N < 1000000) (t : Int) (h1 : 1 ≤ bsz N) (hb : bsz N ≤ 1024) (hz : t < 1)  (w0 : World) :
    Calls Tryd.prog 21 #[.pointer (some ⟨g, 0, none⟩), .string (bs (minB N)), .int .i64 t] w0 fun e w' => e = .returned (.tuple #[.string (bs []), .int .i64 (1 : Nat)]) ∧ Below w0.heap.size w0 w' := by
  refine enter_fr Tryd.func21 rfl Tryd.ntmps21 (by simp) fun ac (FF : Fr 59 ac [(0, .pointer (some ⟨g, 0, none⟩)), (1, .string (bs (minB N))), (2, .int .i64 (t : Int))]) => ?_
  have MM := MemS.start w0
  refine wp_seq (rg_seq FF MM [o_, o_] [0, 1, 2, 6, 7] (fun Kt => Kt [(7, .int .i64 (0 : Nat)), (6, .string (bs [])), (0, .pointer (some ⟨g, 0, none⟩)), (1, .string (bs (minB N))), (2, .int .i64 (t : Int))] []) (by kernel_rfl) (fun _ => by kernel_rfl) (fun ac1 wd1 FF1 MM1 => then_n ?_))
  refine wp_seq (rg_seq FF1 MM1 [o_, t_ (.int .i64 (bsz N : Nat)), o_] [7, 6, 0, 1, 2, 8] (fun Kt => CallP Tryd.prog 35 [.string (bs (minB N))] [] (.int .i64 (bsz N : Nat)) ∧ Kt [(8, .int .i64 (bsz N : Nat)), (7, .int .i64 (0 : Nat)), (6, .string (bs [])), (0, .pointer (some ⟨g, 0, none⟩)), (1, .string (bs (minB N))), (2, .int .i64 (t : Int))] []) (by kernel_rfl) (fun _ => by kernel_rfl) (⟨(callP_of en_rbits (bits8_any N hs) _), fun ac2 wd2 FF2 MM2 => then_n ?_⟩))
  refine wp_seq ?_
  refine wp_seq (rg_seq FF2 MM2 [o_, w_ 3, o_, o_, w_ 3, o_, o_, o_, t_ (.bool false), o_, o_] [8, 7, 6, 0, 1, 2, 24] (fun Kt => ¬ ((bsz N) < 1) ∧ ¬ ((bsz N) > 1024) ∧ CallP Tryd.prog 32 [.int .i64 (t : Int)] [] (.bool false) ∧ Kt [(24, .bool true), (8, .int .i64 (bsz N : Nat)), (7, .int .i64 (0 : Nat)), (6, .string (bs [])), (0, .pointer (some ⟨g, 0, none⟩)), (1, .string (bs (minB N))), (2, .int .i64 (t : Int))] []) (by kernel_rfl) (fun _ => by kernel_rfl) (⟨(by omega), (by omega), (callP_of en_tries (tries_lo t hz) _), fun ac3 wd3 FF3 MM3 => then_n ?_⟩))
  refine wp_cond_true (FF3.ev 0 rfl) ?_
  refine wp_seq (rg_seq FF3 MM3 [o_, o_] [8, 7, 6, 0, 1, 2] (fun Kt => Kt [(7, .int .i64 (1 : Nat)), (6, .string (bs [])), (8, .int .i64 (bsz N : Nat)), (0, .pointer (some ⟨g, 0, none⟩)), (1, .string (bs (minB N))), (2, .int .i64 (t : Int))] []) (by kernel_rfl) (fun _ => by kernel_rfl) (fun ac4 wd4 FF4 MM4 => then_n ?_))
  refine wp_ret ?_
  repeat first | refine then_ret ?_ | refine inb_ret ?_
  exact (ret_tup2 FF4 1 0 Tryd.results21 rfl rfl ⟨rfl, MM4.below⟩)
set_option maxRecDepth 100000 in
theorem runder_thi (g : Nat) (N : Nat) (hs : sz N < 1000000) (t : Int) (h1 : 1 ≤ bsz N) (hb : bsz N ≤ 1024) (hz : t > 16)  (w0 : World) :
    Calls Tryd.prog 21 #[.pointer (some ⟨g, 0, none⟩), .string (bs (minB N)), .int .i64 t] w0 fun e w' => e = .returned (.tuple #[.string (bs []), .int .i64 (1 : Nat)]) ∧ Below w0.heap.size w0 w' := by
  refine enter_fr Tryd.func21 rfl Tryd.ntmps21 (by simp) fun ac (FF : Fr 59 ac [(0, .pointer (some ⟨g, 0, none⟩)), (1, .string (bs (minB N))), (2, .int .i64 (t : Int))]) => ?_
  have MM := MemS.start w0
  refine wp_seq (rg_seq FF MM [o_, o_] [0, 1, 2, 6, 7] (fun Kt => Kt [(7, .int .i64 (0 : Nat)), (6, .string (bs [])), (0, .pointer (some ⟨g, 0, none⟩)), (1, .string (bs (minB N))), (2, .int .i64 (t : Int))] []) (by kernel_rfl) (fun _ => by kernel_rfl) (fun ac1 wd1 FF1 MM1 => then_n ?_))
  refine wp_seq (rg_seq FF1 MM1 [o_, t_ (.int .i64 (bsz N : Nat)), o_] [7, 6, 0, 1, 2, 8] (fun Kt => CallP Tryd.prog 35 [.string (bs (minB N))] [] (.int .i64 (bsz N : Nat)) ∧ Kt [(8, .int .i64 (bsz N : Nat)), (7, .int .i64 (0 : Nat)), (6, .string (bs [])), (0, .pointer (some ⟨g, 0, none⟩)), (1, .string (bs (minB N))), (2, .int .i64 (t : Int))] []) (by kernel_rfl) (fun _ => by kernel_rfl) (⟨(callP_of en_rbits (bits8_any N hs) _), fun ac2 wd2 FF2 MM2 => then_n ?_⟩))
  refine wp_seq ?_
  refine wp_seq (rg_seq FF2 MM2 [o_, w_ 3, o_, o_, w_ 3, o_, o_, o_, t_ (.bool false), o_, o_] [8, 7, 6, 0, 1, 2, 24] (fun Kt => ¬ ((bsz N) < 1) ∧ ¬ ((bsz N) > 1024) ∧ CallP Tryd.prog 32 [.int .i64 (t : Int)] [] (.bool false) ∧ Kt [(24, .bool true), (8, .int .i64 (bsz N : Nat)), (7, .int .i64 (0 : Nat)), (6, .string (bs [])), (0, .pointer (some ⟨g, 0, none⟩)), (1, .string (bs (minB N))), (2, .int .i64 (t : Int))] []) (by kernel_rfl) (fun _ => by kernel_rfl) (⟨(by omega), (by omega), (callP_of en_tries (tries_hi t hz) _), fun ac3 wd3 FF3 MM3 => then_n ?_⟩))
  refine wp_cond_true (FF3.ev 0 rfl) ?_
  refine wp_seq (rg_seq FF3 MM3 [o_, o_] [8, 7, 6, 0, 1, 2] (fun Kt => Kt [(7, .int .i64 (1 : Nat)), (6, .string (bs [])), (8, .int .i64 (bsz N : Nat)), (0, .pointer (some ⟨g, 0, none⟩)), (1, .string (bs (minB N))), (2, .int .i64 (t : Int))] []) (by kernel_rfl) (fun _ => by kernel_rfl) (fun ac4 wd4 FF4 MM4 => then_n ?_))
  refine wp_ret ?_
  repeat first | refine then_ret ?_ | refine inb_ret ?_
  exact (ret_tup2 FF4 1 0 Tryd.results21 rfl rfl ⟨rfl, MM4.below⟩)

end Go.Proofs.YtdeiodcfblldgaaDoor
namespace Go.Proofs.YtdeiodcfblldgaaDoor
open Go.RowKit

theorem en_wakes : Enters Tryd.prog 9 := fun args w => by simp [go_sem]
theorem en_kmod : Enters Tryd.prog 25 := fun args w => by simp [go_sem]
theorem en_knat : Enters Tryd.prog 23 := fun args w => by simp [go_sem]
theorem en_Fair : Enters Tryd.prog 8 := fun args w => by simp [go_sem]
theorem qok {N : Nat} (h : N < 18446744073709551616 ^ 100) : qsz N < 1000000 := Nat.lt_of_le_of_lt (qsz_le h) (by decide)
theorem ntext_nil (w0 : World) (hT : TabIn w0) : Calls Tryd.prog 27 #[.agg #[.slice none 0 0]] w0 fun e w' => e = .returned (.string (bs [48])) ∧ Below w0.heap.size w0 w' :=
  ntext_any 0 (.slice none 0 0) (by decide) w0 hT (natNew_nil 0 w0).1
theorem bsz_is {N n : Nat} (h : N < 2 ^ n) (h2 : 2 ^ (n - 1) ≤ N) : bsz N = n := (bsz_of h (.inr h2)).symm
theorem MemS.apartO {S : Nat → Prop} {w0 w : World} {K O : Blks} {R : List Row} {g : Nat} {ob : Obj} (M : MemS S w0 w (K ++ O) R) (i : Nat) (hi : K[i]? = some (g, ob)) : ∀ x ∈ O, x.1 ≠ g := fun x hx => by
  obtain ⟨j, hj⟩ := List.mem_iff_getElem?.1 hx
  have hl : i < K.length := by
    rcases Nat.lt_or_ge i K.length with h | h
    · exact h
    · rw [List.getElem?_eq_none h] at hi; cases hi
  exact M.apart (K.length + j) i x (g, ob) (by rw [List.getElem?_append_right (Nat.le_add_right _ _), Nat.add_sub_cancel_left]; exact hj) (by rw [List.getElem?_append_left hl]; exact hi) (by omega)
theorem natO_ne {O : Blks} {N g : Nat} {y : Value} (h : NatO O (nv N y) N) (hg : ∀ x ∈ O, x.1 ≠ g) : ∀ g', (nv N y).ownBlock = some g' → g' ≠ g := fun g' hg' => by
  obtain ⟨p, c, h1, h2, _, _, h4⟩ := h
  rw [h1] at hg'
  rcases h4 with h4 | ⟨b, cs, T, fr, rfl, h5, h6⟩
  · have := (h2 (qz0 h4)).1
    subst this
    cases hg'
  · obtain rfl : b = g' := by simpa [Value.ownBlock] using hg'
    exact hg _ h5
theorem MemS.headNe {S : Nat → Prop} {w0 w : World} {g : Nat} {ob : Obj} {L : Blks} {R : List Row} (M : MemS S w0 w ((g, ob) :: L) R) : ∀ x ∈ L, x.1 ≠ g := fun x hx => by
  obtain ⟨i, hi⟩ := List.mem_iff_getElem?.1 hx
  exact M.apart (i + 1) 0 x (g, ob) (by simpa using hi) rfl (by omega)
theorem leV_100 {X : List Nat} (hX : ∀ i, X.getD i 0 < 256) (h : X.length ≤ 140) : leV X < 18446744073709551616 ^ 100 := Nat.lt_of_lt_of_le (leV_lt X hX) (Nat.le_trans (Nat.pow_le_pow_right (by decide) h) (by decide +kernel))
theorem qsz_un {N b k : Nat} {X : List Nat} (hN : N < 2 ^ b) (hb : b ≤ 1024) : qsz (undN N b k X).1 < 1000000 := qok (Nat.lt_of_lt_of_le (und_lt hN k X) (Nat.le_trans (Nat.pow_le_pow_right (by decide) hb) (by decide +kernel)))
/-- A whole number as one from 0 below m. -/
def modZ (z : Int) (m : Nat) : Nat := if 0 ≤ z then z.toNat % m else (18446744073709551616 - (-z).toNat) % m
theorem modZ_lt (z : Int) {m : Nat} (h : 0 < m) : modZ z m < m := by unfold modZ; split <;> exact Nat.mod_lt _ h
set_option maxRecDepth 100000 in
theorem kmod_pos (n m : Nat) (hn : n < 9223372036854775808) (h1 : 0 < m) (hm : m ≤ 65536) (w0 : World) :
    Calls Tryd.prog 25 #[.int .i64 (n : Nat), .int .i64 (m : Nat)] w0 fun e w' => e = .returned (.int .i64 ((n) % m : Nat)) ∧ Below w0.heap.size w0 w' := by
  refine enter_fr Tryd.func25 rfl Tryd.ntmps25 (by simp) fun ac (FF : Fr 11 ac [(0, .int .i64 (n : Nat)), (1, .int .i64 (m : Nat))]) => ?_
  have MM := MemS.start w0
  refine wp_seq (rg_seq FF MM [o_] [0, 1, 4] (fun Kt => Kt [(4, .int .i64 (0 : Nat)), (0, .int .i64 (n : Nat)), (1, .int .i64 (m : Nat))] []) (by kernel_rfl) (fun _ => by kernel_rfl) (fun ac1 wd1 FF1 MM1 => then_n ?_))
  refine wp_seq (rg_seq FF1 MM1 [o_, w_ 1, o_, w_ 1, o_, w_ 1, o_] [4] (fun Kt => n < 18446744073709551616 ∧ m < 18446744073709551616 ∧ m ≠ 0 ∧ (n % m) < 9223372036854775808 ∧ Kt [(4, .int .i64 (n % m : Nat))] []) (by kernel_rfl) (fun _ => by kernel_rfl) (⟨(by have := hn; omega), (by have := hm; omega), (by have := hn; have := hm; omega), (Nat.lt_trans (Nat.mod_lt _ h1) (by omega)), fun ac2 wd2 FF2 MM2 => then_n ?_⟩))
  refine wp_ret ?_
  repeat first | refine then_ret ?_ | refine inb_ret ?_
  exact (ret_fr FF2 0 Tryd.results25 rfl ⟨rfl, MM2.below⟩)
set_option maxRecDepth 100000 in
theorem kmod_neg (n m : Nat) (h0 : 0 < n) (hn : n ≤ 9223372036854775808) (h1 : 0 < m) (hm : m ≤ 65536) (w0 : World) :
    Calls Tryd.prog 25 #[.int .i64 (-((n : Nat) : Int)), .int .i64 (m : Nat)] w0 fun e w' => e = .returned (.int .i64 ((18446744073709551616 - n) % m : Nat)) ∧ Below w0.heap.size w0 w' := by
  refine enter_fr Tryd.func25 rfl Tryd.ntmps25 (by simp) fun ac (FF : Fr 11 ac [(0, .int .i64 (-((n : Nat) : Int) : Int)), (1, .int .i64 (m : Nat))]) => ?_
  have MM := MemS.start w0
  refine wp_seq (rg_seq FF MM [o_] [0, 1, 4] (fun Kt => Kt [(4, .int .i64 (0 : Nat)), (0, .int .i64 (-((n : Nat) : Int) : Int)), (1, .int .i64 (m : Nat))] []) (by kernel_rfl) (fun _ => by kernel_rfl) (fun ac1 wd1 FF1 MM1 => then_n ?_))
  refine wp_seq (rg_seq FF1 MM1 [o_, f_ (.int .u64 (18446744073709551616 - n : Nat)), o_, w_ 1, o_, w_ 1, o_] [4] (fun Kt => RunV Tryd.prog [(5, .int .i64 (-((n : Nat) : Int) : Int)), (4, .int .i64 (0 : Nat)), (0, .int .i64 (-((n : Nat) : Int) : Int)), (1, .int .i64 (m : Nat))] [] (opAt Tryd.f25 1 1) (.int .u64 (18446744073709551616 - n : Nat)) ∧ m < 18446744073709551616 ∧ m ≠ 0 ∧ ((18446744073709551616 - n) % m) < 9223372036854775808 ∧ Kt [(4, .int .i64 ((18446744073709551616 - n) % m : Nat))] []) (by kernel_rfl) (fun _ => by kernel_rfl) (⟨(negconv_ok (src := 3) (dst := 62) (x := (.tmp 5)) (n := n) (by kernel_rfl) rfl Tryd.underlying3 Tryd.underlying62 h0 (by omega)), (by have := hm; omega), (by have := hm; omega), (Nat.lt_trans (Nat.mod_lt _ h1) (by omega)), fun ac2 wd2 FF2 MM2 => then_n ?_⟩))
  refine wp_ret ?_
  repeat first | refine then_ret ?_ | refine inb_ret ?_
  exact (ret_fr FF2 0 Tryd.results25 rfl ⟨rfl, MM2.below⟩)
theorem kmod_any (z : Int) (m : Nat) (h1 : -9223372036854775808 ≤ z) (h2 : z < 9223372036854775808) (hm1 : 0 < m) (hm : m ≤ 65536) (w : World) : Calls Tryd.prog 25 #[.int .i64 z, .int .i64 (m : Nat)] w fun e w' => e = .returned (.int .i64 (modZ z m : Nat)) ∧ Below w.heap.size w w' := by
  unfold modZ
  split
  · obtain ⟨n, rfl⟩ := Int.eq_ofNat_of_zero_le (by assumption)
    exact kmod_pos n m (by omega) hm1 hm w
  · obtain ⟨n, hn⟩ := Int.eq_ofNat_of_zero_le (a := -z) (by omega)
    obtain rfl : z = -((n : Nat) : Int) := by omega
    rw [show (- -((n : Nat) : Int)).toNat = n by omega]
    exact kmod_neg n m (by omega) (by omega) hm1 hm w
set_option maxRecDepth 100000 in
theorem wakes_any (O : Blks) (hD : Distinct O) (hT : TabO O) (w0 : World) (H : Has w0 O) :
    Calls Tryd.prog 9 #[] w0 fun e w' => e = .returned (.bool true) ∧ Below w0.heap.size w0 w' := by
  refine enter_fr Tryd.func9 rfl Tryd.ntmps9 (by simp) fun ac (FF : Fr 56 ac []) => ?_
  have MM : MemS (fun k => k < w0.heap.size ∧ ∀ x ∈ O, x.1 ≠ k) w0 w0 O [] := MemS.startN H hD
  refine wp_seq (rg_seq FF MM [o_] [0] (fun Kt => Kt [(0, .bool false)] O) (by kernel_rfl) (fun _ => by kernel_rfl) (fun ac1 wd1 FF1 MM1 => then_n ?_))
  refine wp_seq (wp_region_list ?_)
  refine st_callE [0, 9] FF1 (d := 9) (mk := fun v => v) en_tnew rfl rfl (tnew_any ([255, 255, 7, 0, 97, 98]) _) rfl (by kernel_rfl) (by decide) fun ac3 wd3 lv2 (FF3 : Fr 56 ac3 [(9, lv2), (0, .bool false)]) hr4 => ?_
  obtain ⟨gt, rfl, hB_gt, hf_gt, hb_gt⟩ := hr4
  have MM5 := MM1.keep hB_gt
  have MM6 : MemS (fun k => k < w0.heap.size ∧ ∀ x ∈ O, x.1 ≠ k) w0 wd3 ((gt, .cells (#[.string (bs ([255, 255, 7, 0, 97, 98])), .int .i64 (0 : Nat)] : Array Value) 73) :: O) [] := MM1.addFresh MM5 hb_gt hf_gt
  refine rg_part 1 FF3 MM6 [o_] [0, 1] (fun Kt => Kt [(1, .pointer (some ⟨gt, 0, none⟩)), (0, .bool false)] ((gt, .cells (#[.string (bs ([255, 255, 7, 0, 97, 98])), .int .i64 (0 : Nat)] : Array Value) 73) :: O)) (by kernel_rfl) (fun _ => by kernel_rfl) (fun ac7 wd7 FF7 MM7 => ?_)
  refine wpl_nil (then_n ?_)
  refine wp_seq (rg_seq FF7 MM7 [o_, c_ (.tuple #[.int .i64 (7 : Nat), .int .i64 (0 : Nat)]) [(0, .cells (#[.string (bs ([97, 98])), .int .i64 (4 : Nat)] : Array Value) 73)], o_, o_, o_, o_, o_] [1, 0, 2, 3] (fun Kt => CallU Tryd.prog 17 [.pointer (some ⟨gt, 0, none⟩), .int .i64 (10 : Nat), .int .i64 (2 : Nat)] ((gt, .cells (#[.string (bs ([255, 255, 7, 0, 97, 98])), .int .i64 (0 : Nat)] : Array Value) 73) :: O) (.tuple #[.int .i64 (7 : Nat), .int .i64 (0 : Nat)]) [(0, .cells (#[.string (bs ([97, 98])), .int .i64 (4 : Nat)] : Array Value) 73)] ∧ Kt [(3, .int .i64 (0 : Nat)), (2, .int .i64 (7 : Nat)), (1, .pointer (some ⟨gt, 0, none⟩)), (0, .bool false)] ((gt, .cells (#[.string (bs ([97, 98])), .int .i64 (4 : Nat)] : Array Value) 73) :: O)) (by kernel_rfl) (fun _ => by kernel_rfl) (⟨(callU_turn en_tbelow (g := gt) (ob := TB ([255, 255, 7, 0, 97, 98]) 0) rfl fun w hg => by have h0 := tbelow_any gt ([255, 255, 7, 0, 97, 98]) 0 (lit_lt (by kernel_rfl)) (by decide) 10 2 (by decide) (by decide) (by decide) (by decide) w hg; rw [show belN 10 2 [255, 255, 7, 0, 97, 98] = (7, 0, 4) by decide +kernel] at h0; exact h0), fun ac8 wd8 FF8 MM8 => then_n ?_⟩))
  refine wp_seq (rg_seq FF8 MM8 [o_, c_ (.string (bs ([97, 98, 0]))) [(0, .cells (#[.string (bs []), .int .i64 (7 : Nat)] : Array Value) 73)], o_] [3, 2, 1, 0, 4] (fun Kt => CallU Tryd.prog 11 [.pointer (some ⟨gt, 0, none⟩), .int .i64 (3 : Nat)] ((gt, .cells (#[.string (bs ([97, 98])), .int .i64 (4 : Nat)] : Array Value) 73) :: O) (.string (bs ([97, 98, 0]))) [(0, .cells (#[.string (bs []), .int .i64 (7 : Nat)] : Array Value) 73)] ∧ Kt [(4, .string (bs ([97, 98, 0]))), (3, .int .i64 (0 : Nat)), (2, .int .i64 (7 : Nat)), (1, .pointer (some ⟨gt, 0, none⟩)), (0, .bool false)] ((gt, .cells (#[.string (bs []), .int .i64 (7 : Nat)] : Array Value) 73) :: O)) (by kernel_rfl) (fun _ => by kernel_rfl) (⟨(callU_turn en_take (g := gt) (ob := TB ([97, 98]) 4) rfl fun w hg => by have h0 := take_any gt 3 ([97, 98]) 4 (lit_lt (by kernel_rfl)) (by decide) (by decide) w hg; rw [show takN 3 [97, 98] = [97, 98, 0] by decide] at h0; exact h0), fun ac9 wd9 FF9 MM9 => then_n ?_⟩))
  refine wp_seq (rg_seq FF9 MM9 [o_, t_ (.tuple #[.int .i64 (0 : Nat), .int .i64 (1 : Nat)]), o_, o_, o_, o_, o_] [4, 3, 2, 1, 0, 6] (fun Kt => CallP Tryd.prog 17 [.pointer (some ⟨gt, 0, none⟩), .int .i64 (0 : Nat), .int .i64 (1 : Nat)] [] (.tuple #[.int .i64 (0 : Nat), .int .i64 (1 : Nat)]) ∧ Kt [(6, .int .i64 (1 : Nat)), (4, .string (bs ([97, 98, 0]))), (3, .int .i64 (0 : Nat)), (2, .int .i64 (7 : Nat)), (1, .pointer (some ⟨gt, 0, none⟩)), (0, .bool false)] ((gt, .cells (#[.string (bs []), .int .i64 (7 : Nat)] : Array Value) 73) :: O)) (by kernel_rfl) (fun _ => by kernel_rfl) (⟨(callP_of en_tbelow (tbelow_lo gt ((0 : Nat) : Int) ((1 : Nat) : Int)  (by decide)) _), fun ac10 wd10 FF10 MM10 => then_n ?_⟩))
  refine wp_seq (wp_region_list ?_)
  refine rg_part 1 FF10 MM10 [o_] [6, 4, 3, 2, 1, 0, 23] (fun Kt => Kt [(23, .pointer (some ⟨gt, 0, none⟩)), (6, .int .i64 (1 : Nat)), (4, .string (bs ([97, 98, 0]))), (3, .int .i64 (0 : Nat)), (2, .int .i64 (7 : Nat)), (1, .pointer (some ⟨gt, 0, none⟩)), (0, .bool false)] ((gt, .cells (#[.string (bs []), .int .i64 (7 : Nat)] : Array Value) 73) :: O)) (by kernel_rfl) (fun _ => by kernel_rfl) (fun ac11 wd11 FF11 MM11 => ?_)
  refine st_callE [23, 6, 4, 3, 2, 1, 0, 24] FF11 (d := 24) (mk := fun v => .agg #[nv (3) v]) en_nof rfl rfl (nof_any 3 (by decide) _) rfl (by kernel_rfl) (by decide) fun ac13 wd13 lv12 (FF13 : Fr 56 ac13 [(24, .agg (#[nv 3 lv12] : Array Value)), (23, .pointer (some ⟨gt, 0, none⟩)), (6, .int .i64 (1 : Nat)), (4, .string (bs ([97, 98, 0]))), (3, .int .i64 (0 : Nat)), (2, .int .i64 (7 : Nat)), (1, .pointer (some ⟨gt, 0, none⟩)), (0, .bool false)]) hr14 => ?_
  obtain ⟨O15, MM160, hN17, hs18⟩ := MemS.addNats (K := [(gt, .cells (#[.string (bs []), .int .i64 (7 : Nat)] : Array Value) 73)]) (O := O) MM11 hr14.1 hr14.2 (Nats.nil O)
  have MM16 : MemS (fun k => k < w0.heap.size ∧ ∀ x ∈ O, x.1 ≠ k) w0 wd13 ((gt, .cells (#[.string (bs []), .int .i64 (7 : Nat)] : Array Value) 73) :: O15) [] := MM160
  have hT_19 := hT.mono hs18
  refine st_callE [6, 4, 3, 2, 1, 0, 25] FF13 (d := 25) (mk := fun v => .tuple #[.agg #[nv 0 v], .int .i64 (0 : Nat)]) en_tunder rfl rfl (by have h0 := tunder_any gt [] 7 (lit_lt (by kernel_rfl)) (by decide) 3 lv12 1 (by decide +kernel) (by decide +kernel) (by decide) (by decide) wd13 (MM16.get 0 rfl) ((hN17.get 0 rfl).at (Has.tl MM16.hasL)) (natO_ne (hN17.get 0 rfl) (MemS.apartO (K := [(gt, .cells (#[.string (bs []), .int .i64 (7 : Nat)] : Array Value) 73)]) MM16 0 rfl)); rw [show undN 3 (bsz 3) 1 [] = (0, 0, 1) by decide +kernel] at h0; exact h0) rfl (by kernel_rfl) (by decide) fun ac21 wd21 lv20 (FF21 : Fr 56 ac21 [(25, .tuple #[.agg (#[nv 0 lv20] : Array Value), .int .i64 (0 : Nat)]), (6, .int .i64 (1 : Nat)), (4, .string (bs ([97, 98, 0]))), (3, .int .i64 (0 : Nat)), (2, .int .i64 (7 : Nat)), (1, .pointer (some ⟨gt, 0, none⟩)), (0, .bool false)]) hr22 => ?_
  obtain ⟨ht9, hn9⟩ := hr22
  have MM23 : MemS (fun k => k < w0.heap.size ∧ ∀ x ∈ O, x.1 ≠ k) w0 wd21 ((gt, .cells (#[.string (bs []), .int .i64 (8 : Nat)] : Array Value) 73) :: O15) [] := MM16.turnAt ht9 0 rfl
  obtain ⟨O24, MM250, hN26, hs27⟩ := MemS.addNatsT (K := [(gt, .cells (#[.string (bs []), .int .i64 (8 : Nat)] : Array Value) 73)]) (O := O15) MM16 MM23 rfl hn9 hN17
  have MM25 : MemS (fun k => k < w0.heap.size ∧ ∀ x ∈ O, x.1 ≠ k) w0 wd21 ((gt, .cells (#[.string (bs []), .int .i64 (8 : Nat)] : Array Value) 73) :: O24) [] := MM250
  have hT_28 := hT_19.mono hs27
  have hz29 : ∀ x ∈ O, x ∈ O24 := fun x hx => hs27 x (hs18 x hx)
  refine rg_part 6 FF21 MM25 [o_, o_, o_, o_, b_ 0, o_] [6, 4, 3, 2, 1, 0, 7, 8] (fun Kt => ∀ bv, bv = bv ∧ (#[.slice none 0 0] : Array Value).size = 1 ∧ (#[nv 0 lv20] : Array Value).size = 1 ∧ (#[nv 0 lv20] : Array Value).all (·.oneCell') = true ∧ (0, 0).2 = 0 ∧ Kt [(8, .int .i64 (0 : Nat)), (7, .pointer (some ⟨bv, 0, none⟩)), (6, .int .i64 (1 : Nat)), (4, .string (bs ([97, 98, 0]))), (3, .int .i64 (0 : Nat)), (2, .int .i64 (7 : Nat)), (1, .pointer (some ⟨gt, 0, none⟩)), (0, .bool false)] ((bv, .cells (#[nv 0 lv20] : Array Value) 49) :: (gt, .cells (#[.string (bs []), .int .i64 (8 : Nat)] : Array Value) 73) :: O24)) (by kernel_rfl) (fun _ => by kernel_rfl) (fun bv => ⟨rfl, rfl, rfl, (by kernel_rfl), rfl, fun ac30 wd30 FF30 MM30 => ?_⟩)
  refine wpl_nil (then_n ?_)
  refine wp_seq (rg_seq FF30 MM30 [o_, w_ 2, o_, o_, w_ 2, o_, o_, o_, w_ 2, o_, o_, o_, w_ 2, o_, o_, b_ 0, u_ 1 (.string (bs (decN 0))), w_ 2, o_, o_, o_, w_ 2, o_, o_, o_, u_ 1 (.int .i64 (8 : Nat)), w_ 2, o_, o_] [7, 1, 0] (fun Kt => 7 = 7 ∧ 0 = 0 ∧ bs ([97, 98, 0]) = bs ([97, 98, 0]) ∧ 1 = 1 ∧ bv = bv ∧ (#[nv 0 lv20] : Array Value).size = 1 ∧ CallP Tryd.prog 27 [.agg (#[nv 0 lv20] : Array Value)] ((bv, .cells (#[nv 0 lv20] : Array Value) 49) :: (gt, .cells (#[.string (bs []), .int .i64 (8 : Nat)] : Array Value) 73) :: O24) (.string (bs (decN 0))) ∧ bs (decN 0) = bs [48] ∧ 0 = 0 ∧ CallP Tryd.prog 24 [.pointer (some ⟨gt, 0, none⟩)] ((bv, .cells (#[nv 0 lv20] : Array Value) 49) :: (gt, .cells (#[.string (bs []), .int .i64 (8 : Nat)] : Array Value) 73) :: O24) (.int .i64 (8 : Nat)) ∧ 8 = 8 ∧ Kt [(0, .bool true), (7, .pointer (some ⟨bv, 0, none⟩)), (1, .pointer (some ⟨gt, 0, none⟩))] ((bv, .cells (#[nv 0 lv20] : Array Value) 49) :: (gt, .cells (#[.string (bs []), .int .i64 (8 : Nat)] : Array Value) 73) :: O24)) (by kernel_rfl) (fun _ => by kernel_rfl) (⟨(by decide), (by decide), rfl, (by decide), rfl, rfl, ⟨en_ntext, fun w Hw => ntext_any 0 lv20 (by decide) w (hT_28.at (Has.tl (Has.tl Hw))) ((hN26.get 0 rfl).at (Has.tl (Has.tl Hw)))⟩, rfl, (by decide), ⟨en_tused, fun w Hw => tused_any gt [] 8 w (Hw 1 _ rfl)⟩, (by decide), fun ac31 wd31 FF31 MM31 => then_n ?_⟩))
  refine wp_ret ?_
  repeat first | refine then_ret ?_ | refine inb_ret ?_
  exact (ret_fr FF31 0 Tryd.results9 rfl ⟨rfl, MM31.belowN H (fun _ hx => List.mem_cons_of_mem _ (List.mem_cons_of_mem _ (hz29 _ hx)))⟩)
theorem wakes_w (w : World) (hT : TabIn w) : Calls Tryd.prog 9 #[] w fun e w' => e = .returned (.bool true) ∧ Below w.heap.size w w' := by
  obtain ⟨O, g1, g2, g3⟩ := tab_O hT
  exact wakes_any O (distinct_of g2) g3 w g1

end Go.Proofs.YtdeiodcfblldgaaDoor
namespace Go.Proofs.YtdeiodcfblldgaaDoor
open Go.RowKit

set_option maxRecDepth 100000 in
theorem none_any (O : Blks) (hD : Distinct O) (hT : TabO O) (z t : Int) (X : List Nat) (hX : ∀ i, X.getD i 0 < 256) (w0 : World) (H : Has w0 O) :
    Calls Tryd.prog 7 #[.int .i64 z, .int .i64 t, .string (bs X)] w0 fun e w' => e = .returned (.bool true) ∧ Below w0.heap.size w0 w' := by
  refine enter_fr Tryd.func7 rfl Tryd.ntmps7 (by simp) fun ac (FF : Fr 72 ac [(0, .int .i64 (z : Int)), (1, .int .i64 (t : Int)), (2, .string (bs X))]) => ?_
  have MM : MemS (fun k => k < w0.heap.size ∧ ∀ x ∈ O, x.1 ≠ k) w0 w0 O [] := MemS.startN H hD
  refine wp_seq (rg_seq FF MM [o_] [0, 1, 2, 6] (fun Kt => Kt [(6, .bool false), (0, .int .i64 (z : Int)), (1, .int .i64 (t : Int)), (2, .string (bs X))] O) (by kernel_rfl) (fun _ => by kernel_rfl) (fun ac1 wd1 FF1 MM1 => then_n ?_))
  refine wp_seq ?_
  refine wp_seq (rg_seq FF1 MM1 [o_, t_ (.int .i64 (X.length : Nat)), o_] [6, 0, 1, 2, 14] (fun Kt => Value.int .i64 ((bs X).size : Nat) = .int .i64 (X.length : Nat) ∧ Kt [(14, .bool (decide (X.length > 100))), (6, .bool false), (0, .int .i64 (z : Int)), (1, .int .i64 (t : Int)), (2, .string (bs X))] O) (by kernel_rfl) (fun _ => by kernel_rfl) (⟨(vI (bs_size _)), fun ac2 wd2 FF2 MM2 => then_n ?_⟩))
  by_cases hs14 : X.length > 100
  · refine wp_cond_true ((FF2.ev 0 rfl).trans (dec_t hs14)) ?_
    refine wp_seq (rg_seq FF2 MM2 [u_ 1 (.bool true), o_] [6, 0, 1, 2] (fun Kt => CallP Tryd.prog 9 [] O (.bool true) ∧ Kt [(6, .bool true), (0, .int .i64 (z : Int)), (1, .int .i64 (t : Int)), (2, .string (bs X))] O) (by kernel_rfl) (fun _ => by kernel_rfl) (⟨⟨en_wakes, fun w Hw => wakes_w w (hT.at Hw)⟩, fun ac3 wd3 FF3 MM3 => then_n ?_⟩))
    refine wp_ret ?_
    repeat first | refine then_ret ?_ | refine inb_ret ?_
    exact (ret_fr FF3 0 Tryd.results7 rfl ⟨rfl, MM3.belowN H (fun _ hx => hx)⟩)
  · refine wp_cond_false ((FF2.ev 0 rfl).trans (dec_f hs14)) ?_
    have hq := qok (leV_100 hX (by omega))
    refine wp_skip ?_
    refine then_n ?_
    refine wp_seq (rg_seq FF2 MM2 [o_] [6, 0, 1, 2, 7] (fun Kt => Kt [(7, .pointer none), (6, .bool false), (0, .int .i64 (z : Int)), (1, .int .i64 (t : Int)), (2, .string (bs X))] O) (by kernel_rfl) (fun _ => by kernel_rfl) (fun ac4 wd4 FF4 MM4 => then_n ?_))
    refine wp_seq (rg_seq FF4 MM4 [o_, o_, o_, t_ (.tuple #[.int .i64 (0 : Nat), .int .i64 (1 : Nat)]), o_, o_, o_, o_, o_] [7, 6, 0, 1, 2, 8, 9] (fun Kt => CallP Tryd.prog 17 [.pointer none, .int .i64 (z : Int), .int .i64 (t : Int)] [] (.tuple #[.int .i64 (0 : Nat), .int .i64 (1 : Nat)]) ∧ Kt [(9, .int .i64 (1 : Nat)), (8, .int .i64 (0 : Nat)), (7, .pointer none), (6, .bool false), (0, .int .i64 (z : Int)), (1, .int .i64 (t : Int)), (2, .string (bs X))] O) (by kernel_rfl) (fun _ => by kernel_rfl) (⟨(callP_of en_tbelow (tbelow_nil z t) _), fun ac5 wd5 FF5 MM5 => then_n ?_⟩))
    refine wp_seq (wp_region_list ?_)
    refine rg_part 2 FF5 MM5 [o_, o_] [9, 8, 7, 6, 0, 1, 2, 24, 25] (fun Kt => Kt [(25, .string (bs X)), (24, .pointer none), (9, .int .i64 (1 : Nat)), (8, .int .i64 (0 : Nat)), (7, .pointer none), (6, .bool false), (0, .int .i64 (z : Int)), (1, .int .i64 (t : Int)), (2, .string (bs X))] O) (by kernel_rfl) (fun _ => by kernel_rfl) (fun ac6 wd6 FF6 MM6 => ?_)
    refine st_callE [24, 9, 8, 7, 6, 0, 1, 2, 26] FF6 (d := 26) (mk := fun v => .agg #[nv (leV X) v]) en_nbytes rfl rfl (nbytes_any X hX (by omega) _) rfl (by kernel_rfl) (by decide) fun ac8 wd8 lv7 (FF8 : Fr 72 ac8 [(26, .agg (#[nv (leV X) lv7] : Array Value)), (24, .pointer none), (9, .int .i64 (1 : Nat)), (8, .int .i64 (0 : Nat)), (7, .pointer none), (6, .bool false), (0, .int .i64 (z : Int)), (1, .int .i64 (t : Int)), (2, .string (bs X))]) hr9 => ?_
    obtain ⟨O10, MM110, hN12, hs13⟩ := MemS.addNats (K := []) (O := O) MM6 hr9.1 hr9.2 (Nats.nil O)
    have MM11 : MemS (fun k => k < w0.heap.size ∧ ∀ x ∈ O, x.1 ≠ k) w0 wd8 O10 [] := MM110
    have hT_14 := hT.mono hs13
    refine rg_part 8 FF8 MM11 [o_, u_ 1 (.tuple #[.agg (#[.slice none 0 0] : Array Value), .int .i64 (1 : Nat)]), o_, o_, o_, o_, b_ 0, o_] [9, 8, 7, 6, 0, 1, 2, 10, 11] (fun Kt => CallP Tryd.prog 19 [.pointer none, .agg (#[nv (leV X) lv7] : Array Value), .int .i64 (t : Int)] O10 (.tuple #[.agg (#[.slice none 0 0] : Array Value), .int .i64 (1 : Nat)]) ∧ ∀ bb, bb = bb ∧ (#[.slice none 0 0] : Array Value).size = 1 ∧ (#[.slice none 0 0] : Array Value).size = 1 ∧ (#[.slice none 0 0] : Array Value).all (·.oneCell') = true ∧ (0, 0).2 = 0 ∧ Kt [(11, .int .i64 (1 : Nat)), (10, .pointer (some ⟨bb, 0, none⟩)), (9, .int .i64 (1 : Nat)), (8, .int .i64 (0 : Nat)), (7, .pointer none), (6, .bool false), (0, .int .i64 (z : Int)), (1, .int .i64 (t : Int)), (2, .string (bs X))] ((bb, .cells (#[.slice none 0 0] : Array Value) 49) :: O10)) (by kernel_rfl) (fun _ => by kernel_rfl) (⟨⟨en_tunder, fun w Hw => tunder_nil (leV X) lv7 hq t w ((hN12.get 0 rfl).at Hw)⟩, fun bb => ⟨rfl, rfl, rfl, (by kernel_rfl), rfl, fun ac15 wd15 FF15 MM15 => ?_⟩⟩)
    refine wpl_nil (then_n ?_)
    refine wp_seq (rg_seq FF15 MM15 [o_, o_, t_ (.string (bs [])), w_ 2, o_, o_, t_ (.int .i64 (0 : Nat)), w_ 2, o_, o_, o_, t_ (.agg (cn .u8 (List.replicate 32 0))), o_, f_ (.bool true), o_, o_, o_, t_ (.agg (cn .u8 (List.replicate 16 0))), o_, f_ (.bool true), o_, o_, o_, w_ 2, o_, o_, o_, w_ 2, o_, o_, b_ 0, u_ 1 (.string (bs [48])), w_ 2, o_, o_, o_, w_ 2, o_, o_, u_ 1 (.bool true), o_, o_] [10, 7, 6, 0, 1, 2] (fun Kt => CallP Tryd.prog 11 [.pointer none, .int .i64 (z : Int)] [] (.string (bs [])) ∧ bs [] = bs [] ∧ CallP Tryd.prog 24 [.pointer none] [] (.int .i64 (0 : Nat)) ∧ 0 = 0 ∧ CallP Tryd.prog 13 [.pointer none] [] (.agg (cn .u8 (List.replicate 32 0))) ∧ RunV Tryd.prog [(43, .agg (cn .u8 (List.replicate 32 0))), (42, .agg (cn .u8 (List.replicate 32 0))), (41, .pointer none), (40, .bool true), (39, .bool true), (38, .bool true), (37, .int .i64 (0 : Nat)), (36, .pointer none), (35, .bool true), (34, .bool true), (33, .string (bs [])), (32, .int .i64 (z : Int)), (31, .pointer none), (11, .int .i64 (1 : Nat)), (10, .pointer (some ⟨bb, 0, none⟩)), (9, .int .i64 (1 : Nat)), (8, .int .i64 (0 : Nat)), (7, .pointer none), (6, .bool false), (0, .int .i64 (z : Int)), (1, .int .i64 (t : Int)), (2, .string (bs X))] ((bb, .cells (#[.slice none 0 0] : Array Value) 49) :: O10) (opAt Tryd.f7 6 13) (.bool true) ∧ CallP Tryd.prog 15 [.pointer none] [] (.agg (cn .u8 (List.replicate 16 0))) ∧ RunV Tryd.prog [(49, .agg (cn .u8 (List.replicate 16 0))), (48, .agg (cn .u8 (List.replicate 16 0))), (47, .pointer none), (46, .bool true), (45, .bool true), (44, .bool true), (43, .agg (cn .u8 (List.replicate 32 0))), (42, .agg (cn .u8 (List.replicate 32 0))), (41, .pointer none), (40, .bool true), (39, .bool true), (38, .bool true), (37, .int .i64 (0 : Nat)), (36, .pointer none), (35, .bool true), (34, .bool true), (33, .string (bs [])), (32, .int .i64 (z : Int)), (31, .pointer none), (11, .int .i64 (1 : Nat)), (10, .pointer (some ⟨bb, 0, none⟩)), (9, .int .i64 (1 : Nat)), (8, .int .i64 (0 : Nat)), (7, .pointer none), (6, .bool false), (0, .int .i64 (z : Int)), (1, .int .i64 (t : Int)), (2, .string (bs X))] ((bb, .cells (#[.slice none 0 0] : Array Value) 49) :: O10) (opAt Tryd.f7 6 19) (.bool true) ∧ 0 = 0 ∧ 1 = 1 ∧ bb = bb ∧ (#[.slice none 0 0] : Array Value).size = 1 ∧ CallP Tryd.prog 27 [.agg (#[.slice none 0 0] : Array Value)] ((bb, .cells (#[.slice none 0 0] : Array Value) 49) :: O10) (.string (bs [48])) ∧ bs [48] = bs [48] ∧ 1 = 1 ∧ CallP Tryd.prog 9 [] ((bb, .cells (#[.slice none 0 0] : Array Value) 49) :: O10) (.bool true) ∧ Kt [(6, .bool true), (10, .pointer (some ⟨bb, 0, none⟩)), (7, .pointer none), (0, .int .i64 (z : Int)), (1, .int .i64 (t : Int)), (2, .string (bs X))] ((bb, .cells (#[.slice none 0 0] : Array Value) 49) :: O10)) (by kernel_rfl) (fun _ => by kernel_rfl) (⟨(callP_of en_take (take_nil z) _), rfl, (callP_of en_tused tused_nil _), (by decide), (callP_of en_tkey tkey_nil _), (eqA_ok (t := 34) (t' := 34) (e := 5) (m := 32) (k := .u8) (x := (.tmp 42)) (y := (.tmp 43)) (by kernel_rfl) Tryd.underlying34 Tryd.underlying5 (by kernel_rfl) (by kernel_rfl) (by kernel_rfl) rfl rfl (List.length_replicate ..) (List.length_replicate ..) rfl), (callP_of en_tid tid_nil _), (eqA_ok (t := 38) (t' := 38) (e := 5) (m := 16) (k := .u8) (x := (.tmp 48)) (y := (.tmp 49)) (by kernel_rfl) Tryd.underlying38 Tryd.underlying5 (by kernel_rfl) (by kernel_rfl) (by kernel_rfl) rfl rfl (List.length_replicate ..) (List.length_replicate ..) rfl), (by decide), (by decide), rfl, rfl, ⟨en_ntext, fun w Hw => ntext_nil w (hT_14.at (Has.tl Hw))⟩, rfl, (by decide), ⟨en_wakes, fun w Hw => wakes_w w (hT_14.at (Has.tl Hw))⟩, fun ac16 wd16 FF16 MM16 => then_n ?_⟩))
    refine wp_ret ?_
    repeat first | refine then_ret ?_ | refine inb_ret ?_
    exact (ret_fr FF16 0 Tryd.results7 rfl ⟨rfl, MM16.belowN H (fun _ hx => List.mem_cons_of_mem _ (hs13 _ hx))⟩)

end Go.Proofs.YtdeiodcfblldgaaDoor
namespace Go.Proofs.YtdeiodcfblldgaaDoor
open Go.RowKit

def pw10 : List Nat := [1, 10, 100, 1000, 10000, 100000, 1000000, 10000000, 100000000, 1000000000, 10000000000, 100000000000, 1000000000000, 10000000000000, 100000000000000, 1000000000000000, 10000000000000000, 100000000000000000, 1000000000000000000, 10000000000000000000]
theorem pw10_at : ∀ i : Fin 20, pw10[i.val]? = some (10 ^ i.val) := by decide +kernel
theorem tab_in {w : World} {T : TypeId} {fr : Nat × Nat} (h : w.heap[2]? = some (.cells (cn .u64 pw10) T fr)) : TabIn w := .inr ⟨2, _, T, fr, rfl, h, fun j hj => by
  have := pw10_at ⟨j, hj⟩
  simp [cn, this]⟩

end Go.Proofs.YtdeiodcfblldgaaDoor
namespace Go.Proofs.YtdeiodcfblldgaaDoor
open Go.ChangeShapes Go.WideShapes Go.ChangeAt Go.RowKit

theorem Tryd.own : ownKnob Tryd.prog.godebug = Option.none := by kernel_rfl
theorem Tryd.laidOut : laidOutB Tryd.prog = true := by kernel_rfl

section
variable {H : Type} {enc : TypeId × Value → H} {P : Program}

theorem trodAll_below (hl : laidOutB P = true) {W W' : World} (hb : Below W.heap.size W W') : ∀ (ts : List TypeId) (vs : List Value) (ds : List (DataW H)) (ps : List MemPlace), (∀ t ∈ ts, P.readableRec t = true ∧ t < P.types.size) →
    DataW.TrodAll enc P W 0 (fun _ => true) true ts vs ds ps → (∀ x ∈ ps, x.block < W.heap.size) → DataW.TrodAll enc P W' 0 (fun b => decide (b < W.heap.size)) true ts vs ds ps
  | [], [], [], _, _, h, _ => h
  | t :: ts, v :: vs, d :: ds, ps, hr, ⟨p, q, h1, h2, e⟩, hlt => by
    subst e
    obtain ⟨r1, r2⟩ := hr t (by simp)
    exact ⟨p, q, Below.trod hl r1 r2 h1 hb (fun x hx => hlt x (by simp [hx])), trodAll_below hl hb ts vs ds q (fun t ht => hr t (by simp [ht])) h2 (fun x hx => hlt x (by simp [hx])), rfl⟩
  | [], [], _ :: _, _, _, h, _ => h.elim
  | [], _ :: _, _, _, _, h, _ => by cases h
  | _ :: _, [], _, _, _, h, _ => by cases h
  | _ :: _, _ :: _, [], _, _, h, _ => h.elim

/-- What is asked behind a law's walk. -/
theorem post_true {f : Func} {s : ChangeSpec} {W W' : World} {args : Array Value} {ds : List (DataW H)} {before : List MemPlace} {T : TypeId} (hl : laidOutB P = true) (hr : ∀ t ∈ f.params.toList, P.readableRec t = true ∧ t < P.types.size) (hv : s.vars = [])
    (hW : DataW.Whole enc P f.params.toList s.vars false W args.toList ds [] before) (hres : (s.fn H (ds ++ [])).results = [.lit (.bool true)]) (hargs : (s.fn H (ds ++ [])).args = ds) (hvs : (s.fn H (ds ++ [])).vars = [])
    (hT : f.resultTypes = #[T]) (hu : P.underlying T = some .bool) (hb : Below W.heap.size W W') : s.post enc P f false true false false W args (.bool true) W' := by
  have hlt := hW.lt
  have hW' := hW
  obtain ⟨p, q, hA, hV, rfl, _, _⟩ := hW'
  refine ⟨ds, [], p ++ q, [], p, [], hW, ?_, ?_, ?_, hb.frame _, fun h => by cases h⟩
  · rw [hres, hT]
    exact trodAll_cons_mk (shut_bool hu _) rfl
  · rw [hargs]
    exact trodAll_below hl hb _ _ _ _ hr hA (fun x hx => hlt x (by simp [hx]))
  · rw [hvs, hv]
    exact rfl

theorem okWide_arr {w : World} {r : Reach} {base : Nat} {t : TypeId} {v : Value} {n : Nat} {e : TypeId} (ht : P.underlying t = some (.array n e)) (h : Value.okWide P w r base t v) : ∃ cs, v = .agg cs ∧ cs.size = P.cellsOf t := by
  simp only [Value.okWide, ht] at h
  obtain ⟨cs, h1, h2, _⟩ := h
  exact ⟨cs, h1, h2⟩
end

section
variable {H : Type} {enc : TypeId × Value → H} {P : Program}
/-- Bytes that come in within something greater. -/
theorem bytes_in {W : World} {base' : Nat} {spare : Nat → Bool} {held : Bool} {fuel n : Nat} {t e : TypeId} {L : List Value} {x : DataW H × List MemPlace} (hu : P.underlying t = some (.array n e)) (he : P.underlying e = some (.int .u8)) (hc : P.cellsOf e = 1) (hf : DataW.trod enc P W base' spare held fuel t L = some x) :
    ∃ ks : List Nat, Bytes n ks ∧ ∀ (j : Nat) (v : Value), (cn .u8 ks)[j]? = some v → L[j]? = some v := by
  obtain ⟨xs, m, _, _, _, hl, hel⟩ := DataW.trod_array hu hf
  rw [hc] at hel
  have key : ∀ i, i < n → ∃ k : Nat, L[i]? = some (.int .u8 (k : Int)) ∧ k < 256 := fun i hi => by
    have h1 := hel i hi
    have h2 : xs[i]? = some (xs[i]'(by omega)) := by simp
    rw [h2] at h1
    obtain ⟨k, e, _, wf⟩ := DataW.trod_int he h1
    obtain ⟨b0, b1⟩ := bounds_u8 wf
    obtain ⟨k, rfl⟩ := Int.eq_ofNat_of_zero_le b0
    refine ⟨k, ?_, by omega⟩
    rw [Nat.mul_one] at e
    have h3 := congrArg (fun l => l[0]?) e
    simpa using h3
  have hk : ∃ f : Nat → Nat, ∀ i, i < n → L[i]? = some (.int .u8 (f i : Int)) ∧ f i < 256 :=
    ⟨fun i => if h : i < n then (key i h).choose else 0, fun i hi => by simp only [hi, dif_pos]; exact (key i hi).choose_spec⟩
  obtain ⟨f, hf⟩ := hk
  refine ⟨(List.range n).map f, ⟨by simp, fun i => ?_⟩, fun j v hv => ?_⟩
  · rcases Nat.lt_or_ge i n with h | h
    · simp [h]; exact (hf i h).2
    · simp [h]
  · rcases Nat.lt_or_ge j n with h | h
    · rw [(hf j h).1, ← hv, cn_get _ _ _ (by simpa using h)]; simp [h]
    · rw [Array.getElem?_eq_none (by rw [cn_size]; simpa using h)] at hv; cases hv
theorem part_in {ks : List Nat} {cs : Array Value} {k off : Nat} (h : ∀ (j : Nat) (v : Value), (cn .u8 ks)[j]? = some v → (List.take k (List.drop off (Value.agg cs).cells.toList))[j]? = some v) : ∀ (j : Nat) (v : Value), (cn .u8 ks)[j]? = some v → cs[off + j]? = some v := fun j v hv => by
  have := h j v hv
  rw [List.getElem?_take] at this
  split at this
  · simpa [Value.cells] using this
  · cases this
/-- An array of bytes that comes in alone. -/
theorem open_bytes {W : World} {r : Reach} {base base' : Nat} {spare : Nat → Bool} {held : Bool} {v : Value} {d : DataW H} {p : List MemPlace} {t e : TypeId} {n : Nat} (hu : P.underlying t = some (.array n e)) (he : P.underlying e = some (.int .u8)) (hc : P.cellsOf e = 1) (ht : P.cellsOf t = n)
    (hv : Value.okWide P W r base t v) (h : DataW.Trod enc P W base' spare held t v d p) : ∃ ks : List Nat, Bytes n ks ∧ v = .agg (cn .u8 ks) := by
  obtain ⟨cs, rfl, hsz⟩ := okWide_arr hu hv
  rw [ht] at hsz
  obtain ⟨fuel, hf⟩ := h
  obtain ⟨ks, bk, pk⟩ := bytes_in hu he hc hf
  refine ⟨ks, bk, ?_⟩
  congr 1
  refine Array.ext_getElem? fun i => ?_
  rcases Nat.lt_or_ge i n with hi | hi
  · have h1 := cn_get .u8 ks i (by rw [bk.len]; exact hi)
    have h2 := pk i _ h1
    rw [h1]
    simpa [Value.cells] using h2
  · rw [Array.getElem?_eq_none (by omega), Array.getElem?_eq_none (by rw [cn_size, bk.len]; exact hi)]
/-- An array of strings that comes in alone. -/
theorem open_strs {W : World} {r : Reach} {base base' : Nat} {spare : Nat → Bool} {held : Bool} {v : Value} {d : DataW H} {p : List MemPlace} {t e : TypeId} {n : Nat} (hu : P.underlying t = some (.array n e)) (he : P.underlying e = some .string) (hc : P.cellsOf e = 1) (ht : P.cellsOf t = n)
    (hv : Value.okWide P W r base t v) (h : DataW.Trod enc P W base' spare held t v d p) : ∃ Ts : List (List Nat), Ts.length = n ∧ (∀ X ∈ Ts, (∀ i, X.getD i 0 < 256) ∧ X.length ≤ maxLen) ∧ v = .agg (Ts.map fun X => Value.string (bs X)).toArray := by
  obtain ⟨cs, rfl, hsz⟩ := okWide_arr hu hv
  rw [ht] at hsz
  obtain ⟨fuel, hf⟩ := h
  obtain ⟨xs, m, _, _, _, hl, hel⟩ := DataW.trod_array hu hf
  rw [hc] at hel
  have key : ∀ i, i < n → ∃ s : ByteArray, cs[i]? = some (.string s) ∧ s.size ≤ maxLen := fun i hi => by
    have h1 := hel i hi
    have h2 : xs[i]? = some (xs[i]'(by omega)) := by simp
    rw [h2] at h1
    obtain ⟨s, e, _, hm⟩ := DataW.trod_string he h1
    refine ⟨s, ?_, hm⟩
    rw [Nat.mul_one] at e
    have h3 := congrArg (fun l => l[0]?) e
    simpa [Value.cells] using h3
  have hk : ∃ f : Nat → ByteArray, ∀ i, i < n → cs[i]? = some (.string (f i)) ∧ (f i).size ≤ maxLen :=
    ⟨fun i => if h : i < n then (key i h).choose else ByteArray.empty, fun i hi => by simp only [hi, dif_pos]; exact (key i hi).choose_spec⟩
  obtain ⟨f, hf⟩ := hk
  refine ⟨(List.range n).map fun i => nl (f i), by simp, fun X hX => ?_, ?_⟩
  · obtain ⟨i, hi, rfl⟩ := List.mem_map.1 hX
    exact ⟨nl_lt _, by rw [nl_len]; exact (hf i (by simpa using hi)).2⟩
  · congr 1
    refine Array.ext_getElem? fun i => ?_
    rcases Nat.lt_or_ge i n with hi | hi
    · rw [(hf i hi).1]; simp [hi, bs_nl]
    · rw [Array.getElem?_eq_none (by omega), Array.getElem?_eq_none (by simp; omega)]
end
end Go.Proofs.YtdeiodcfblldgaaDoor
namespace Go.Proofs.YtdeiodcfblldgaaDoor
open Go.ChangeShapes Go.WideShapes Go.ChangeAt Go.RowKit
section
variable {P : Program} {H : Type} {enc : TypeId × Value → H} {W : World} {r : Reach} {base base' : Nat} {spare : Nat → Bool} {held : Bool}
theorem strs_cells {t e : TypeId} {fuel : Nat} {cs0 : List Value} {x : DataW H × List MemPlace} (ht : P.underlying t = some (.slice e)) (he : P.underlying e = some .string) (hc : P.cellsOf e = 1) (hf : DataW.trod enc P W base' spare held fuel t cs0 = some x) :
    ∃ (q : Option Addr) (Ps : List (List Nat)) (c : Nat), cs0 = [.slice q Ps.length c] ∧ (∀ X ∈ Ps, ∀ i, X.getD i 0 < 256) ∧ StrsIn W q Ps ∧ Ps.length ≤ maxLen := by
  rcases Go.ChangeShapes.open_strings ht he hc hf with ⟨e, _⟩ | ⟨a, n, cap, ss, e, hb, hl, hm, hss, hx, hcell, hmax⟩
  · exact ⟨none, [], 0, e, fun X hX => (nomatch hX), .inl rfl, Nat.zero_le _⟩
  · rcases Nat.eq_zero_or_pos n with rfl | hn
    · exact ⟨some a, [], cap, e, fun X hX => (nomatch hX), .inl rfl, Nat.zero_le _⟩
    · have hle : n ≤ ss.length := by rw [hss]; split <;> omega
      have h0 := hcell 0 (by omega)
      rw [show a.add 0 = a from rfl] at h0
      have hsp : a.spot = none ∧ ∃ cs T9 fr, W.heap[a.block]? = some (.cells cs T9 fr) := by
        unfold World.cell? at h0
        split at h0
        · rename_i cs T9 fr hblk
          split at h0
          · cases h0
          · rename_i hs
            exact ⟨by cases hq : a.spot with | none => rfl | some x => (rw [hq] at hs; simp at hs), cs, T9, fr, hblk⟩
        · cases h0
      obtain ⟨hs, cs, T9, fr, hblk⟩ := hsp
      obtain ⟨ab, ao, asp⟩ := a
      simp only at hs hblk
      subst hs
      have hlen : ((ss.take n).map nl).length = n := by simp; omega
      refine ⟨some ⟨ab, ao, none⟩, (ss.take n).map nl, cap, by rw [e, hlen], fun X hX => ?_, .inr ⟨ab, ao, cs, T9, fr, rfl, hblk, fun j hj => ?_⟩, by omega⟩
      · obtain ⟨s, _, rfl⟩ := List.mem_map.1 hX
        exact nl_lt s
      · rw [hlen] at hj
        have := hcell j (by omega)
        rw [add_off, cell_of hblk] at this
        rw [this]
        congr 1
        rw [List.getD_eq_getElem?_getD, List.getD_eq_getElem?_getD, List.getElem?_map, List.getElem?_take, if_pos hj, List.getElem?_eq_getElem (show j < ss.length by omega)]
        simp [bs_nl]
theorem strs_param {t e : TypeId} {v : Value} {d : DataW H} {p : List MemPlace} (ht : P.underlying t = some (.slice e)) (he : P.underlying e = some .string) (hc : P.cellsOf e = 1) (hv : Value.okWide P W r base t v) (h : DataW.Trod enc P W base' spare held t v d p) :
    ∃ (q : Option Addr) (Ps : List (List Nat)) (c : Nat), v = .slice q Ps.length c ∧ (∀ X ∈ Ps, ∀ i, X.getD i 0 < 256) ∧ StrsIn W q Ps ∧ Ps.length ≤ maxLen := by
  obtain ⟨q, n, c, rfl⟩ := okWide_slice ht hv
  obtain ⟨fuel, hf⟩ := h
  obtain ⟨q', Ps, c', e, h1, h2, h3⟩ := strs_cells ht he hc hf
  exact ⟨q', Ps, c', by simpa [Value.cells] using e, h1, h2, h3⟩
end
end Go.Proofs.YtdeiodcfblldgaaDoor
namespace Go.Proofs.YtdeiodcfblldgaaDoor
open Go.RowKit

theorem laid_mem {P : Program} {W : World} : ∀ (laid : List (String × DataW Unit)) (ps : List MemPlace), DataW.LaidVars P W laid ps → ∀ x ∈ laid, ∃ g t cs fuel p, P.globalNamed x.1 = some g ∧ (P.globals[g]?).map (·.type) = some t ∧ W.var? P x.1 = some cs ∧ DataW.trod (fun _ => ()) P W 0 (fun _ => true) false fuel t cs.toList = some (x.2, p)
  | [], _, _, _, hx => by cases hx
  | (n, d) :: r, ps, h, x, hx => by
    obtain ⟨g, t, cs, fuel, p, q, h1, h2, h3, h4, h5, _⟩ := h
    rcases List.mem_cons.1 hx with rfl | hx
    · exact ⟨g, t, cs, fuel, p, h1, h2, h3, h4⟩
    · exact laid_mem r q h5 x hx
/-- A table of numbers that is laid lies in its block. -/
theorem tab_of {P : Program} {W : World} {laid : List (String × DataW Unit)} {n : String} {D : DataW Unit} {g : Nat} {t e : TypeId} {m : Nat} {k : IntKind} {K : List Nat} (h : laidMetH P laid W) (hH : (laid.all fun x => x.2.handleName?.isNone) = true) (hx : (n, D) ∈ laid)
    (hg : P.globalNamed n = some g) (ht : (P.globals[g]?).map (·.type) = some t) (hu : P.underlying t = some (.array m e)) (he : P.underlying e = some (.int k)) (hc : P.cellsOf e = 1) (hct : P.cellsOf t = m) (hD : D = .agg (K.map fun (x : Nat) => .lit (.int k (x : Int)))) (hK : K.length = m) :
    ∃ T fr, W.heap[g]? = some (.cells (cn k K) T fr) := by
  rw [MakeChecks.laidMetH_plain _ _ _ hH] at h
  obtain ⟨ps, hl, _⟩ := h
  obtain ⟨g', t', cs, fuel, p, h1, h2, h3, h4⟩ := laid_mem laid ps hl _ hx
  obtain rfl := Option.some.inj (hg.symm.trans h1)
  obtain rfl := Option.some.inj (ht.symm.trans h2)
  have hb : ∃ T fr, W.heap[g]? = some (.cells cs T fr) := by
    simp only [World.var?, hg, Option.bind_some] at h3
    split at h3
    · rename_i c T fr hb
      cases h3
      exact ⟨T, fr, hb⟩
    · cases h3
  obtain ⟨T, fr, hb⟩ := hb
  refine ⟨T, fr, ?_⟩
  rw [hb]
  obtain ⟨xs, m1, _, hx1, hlen, hn, hel⟩ := DataW.trod_array hu h4
  have hx2 : D = .agg (xs.map fun x => x.1) := (Prod.mk.inj hx1).1
  rw [hD] at hx2
  have hx3 : (K.map fun (x : Nat) => (DataW.lit (.int k (x : Int)) : DataW Unit)) = xs.map fun x => x.1 := by injection hx2
  have hcs : cs = cn k K := by
    refine Array.ext_getElem? fun i => ?_
    rcases Nat.lt_or_ge i m with hi | hi
    · have e1 := hel i hi
      have e2 : xs[i]? = some (xs[i]'(by omega)) := by simp
      rw [e2, hc] at e1
      obtain ⟨z, e3, e4, _⟩ := DataW.trod_int he e1
      have e5 := congrArg (fun l => l[i]?) hx3
      simp only [List.getElem?_map, e2, e4, List.getElem?_eq_getElem (show i < K.length by omega), Option.map_some, Option.some.injEq, DataW.lit.injEq, Lit.int.injEq] at e5
      have e6 := congrArg (fun l => l[0]?) e3
      rw [Nat.mul_one] at e6
      have e7 : cs[i]? = some (.int k z) := by simpa using e6
      rw [e7, cn_get k K i (by omega), ← e5.2]
      simp [show i < K.length by omega]
    · rw [Array.getElem?_eq_none (by rw [← Array.length_toList, hlen, hct]; exact hi), Array.getElem?_eq_none (by rw [cn_size, hK]; exact hi)]
  rw [hcs]
end Go.Proofs.YtdeiodcfblldgaaDoor
