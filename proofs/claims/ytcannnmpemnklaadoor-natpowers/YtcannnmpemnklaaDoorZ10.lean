/- Several texts in one: The law NatPowers. The table of the powers of ten, as the text lays it. From a walk to a row: a law that returns true and writes nothing that was there; arrays of bytes that come in. A row of texts that comes in. Package-level tables of numbers: what the row says that they hold, as a block. -/
import Derived.Test.YtcannnmpemnklaaDoorZ9
import Derived.Test.YtcannnmpemnklaaDoorZ5
import Derived.Test.YtcannnmpemnklaaDoorRows
import Derived.WalkKit
import Derived.Test.YtcannnmpemnklaaDoorZ1
import Derived.Below
import Derived.ProofKit
import Derived.OpenShut
import Derived.ChangeOld
import Derived.Test.YtcannnmpemnklaaDoorZ3
import Derived.SliceStrings
import Derived.MakeChecks
import Derived.LaidMore
import Derived.LaidHandle
import Derived.Stop.Joined
namespace Go.Proofs.YtcannnmpemnklaaDoor
open Go.RowKit

theorem leV_20 {X : List Nat} (hX : ∀ i, X.getD i 0 < 256) (h : ¬ X.length > 20) : leV X < 256 ^ 20 := Nat.lt_of_lt_of_le (leV_lt X hX) (Nat.pow_le_pow_right (by decide) (Nat.not_lt.1 h))
theorem lt20_60 {N : Nat} (h : N < 256 ^ 20) : N < 256 ^ 60 := Nat.lt_of_lt_of_le h (by decide +kernel)
theorem pow_bits_gt {N n : Nat} (h : 1 < bsz N) : bsz (N ^ n) > n := by
  have h2 : 2 ≤ N := Nat.le_of_not_lt fun q => by
    have := bsz_le (N := N) (n := 1) (by simpa using q)
    omega
  refine Nat.lt_of_not_le fun q => ?_
  have h3 := blt_sz q
  have h4 : 2 ^ n ≤ N ^ n := Nat.pow_le_pow_left h2 n
  omega
theorem pow_bits_le {N n : Nat} (h : 0 < n) : bsz (N ^ n) ≤ n * bsz N := by
  refine bsz_le ?_
  rw [Nat.mul_comm, Nat.pow_mul]
  exact Nat.pow_lt_pow_left (bsz_ok N).1 (by omega)
theorem pow_prod {N n : Nat} (h : PowOk N n) : n * bsz N ≤ 65536 := by
  rcases h with h | h
  · rw [h]; omega
  · exact Nat.le_trans (Nat.mul_le_mul_right _ h) (Nat.div_mul_le_self _ _)
theorem pow_qsz {N n : Nat} (h : PowOk N n) : qsz (N ^ n) < 1000000 := Nat.lt_of_le_of_lt (pow_sz h (Nat.le_refl n)) (by decide)
theorem small_of {N n : Nat} (h : ¬ (bsz N > 1 ∧ n > 300)) : ¬ 1 < N ∨ n ≤ 300 := by
  by_cases h1 : n ≤ 300
  · exact .inr h1
  · refine .inl fun q => h ⟨?_, by omega⟩
    refine Nat.lt_of_not_le fun q2 => ?_
    have := blt_sz q2
    omega
theorem sz_powers {N n : Nat} (hM : sz N ≤ 20) (h : ¬ 1 < N ∨ n ≤ 300) : sz (N ^ n) < 100000 := by
  rcases h with h | h
  · have h1 : N ^ n ≤ 1 := by
      rcases Nat.eq_zero_or_pos N with e | e
      · rw [e]; rcases Nat.eq_zero_or_pos n with q | q
        · rw [q]; decide
        · rw [Nat.zero_pow q]; decide
      · rw [show N = 1 by omega, Nat.one_pow]; decide
    have := sz_le (N := N ^ n) (n := 1) (by omega)
    omega
  · have := sz_pow8 hM n
    omega
set_option maxRecDepth 100000 in
theorem natpowers_len (O : Blks) (hD : Distinct O) (hT : TabO O) (X : List Nat) (_hX : ∀ i, X.getD i 0 < 256) (_hl : X.length < 9223372036854775808) (hL : X.length > 20) (z : Int) (w0 : World) (H : Has w0 O) :
    Calls Tryd.prog 5 #[.string (bs X), .int .i64 (z : Int)] w0 fun e w' => e = .returned (.bool true) ∧ Below w0.heap.size w0 w' := by
  refine enter_fr Tryd.func5 rfl Tryd.ntmps5 (by simp) fun ac (FF : Fr 95 ac [(0, .string (bs X)), (1, .int .i64 (z : Int))]) => ?_
  have MM : MemS (fun k => k < w0.heap.size ∧ ∀ x ∈ O, x.1 ≠ k) w0 w0 O [] := MemS.startN H hD
  refine wp_seq (rg_seq FF MM [o_] [0, 1, 4] (fun Kt => Kt [(4, .bool false), (0, .string (bs X)), (1, .int .i64 (z : Int))] O) (by kernel_rfl) (fun _ => by kernel_rfl) (fun ac1 wd1 FF1 MM1 => then_n ?_))
  refine wp_seq ?_
  refine wp_seq (rg_seq FF1 MM1 [o_, t_ (.int .i64 (X.length : Nat)), w_ 2] [4, 0, 1, 10] (fun Kt => Value.int .i64 ((bs X).size : Nat) = .int .i64 (X.length : Nat) ∧ X.length > 20 ∧ Kt [(10, .bool true), (4, .bool false), (0, .string (bs X)), (1, .int .i64 (z : Int))] O) (by kernel_rfl) (fun _ => by kernel_rfl) (⟨(vI (bs_size _)), hL, fun ac2 wd2 FF2 MM2 => then_n ?_⟩))
  refine wp_cond_true (FF2.ev 0 rfl) ?_
  refine wp_seq (rg_seq FF2 MM2 [u_ 1 (.bool true), o_] [4, 0, 1] (fun Kt => CallP Tryd.prog 8 [] O (.bool true) ∧ Kt [(4, .bool true), (0, .string (bs X)), (1, .int .i64 (z : Int))] O) (by kernel_rfl) (fun _ => by kernel_rfl) (⟨⟨en_wakes, fun w Hw => wakes_w w (hT.at Hw)⟩, fun ac3 wd3 FF3 MM3 => then_n ?_⟩))
  refine wp_ret ?_
  repeat first | refine then_ret ?_ | refine inb_ret ?_
  exact (ret_fr FF3 0 Tryd.results5 rfl ⟨rfl, MM3.belowN H (fun _ hx => hx)⟩)
set_option maxRecDepth 100000 in
theorem natpowers_neg (O : Blks) (hD : Distinct O) (hT : TabO O) (X : List Nat) (hX : ∀ i, X.getD i 0 < 256) (hl : X.length < 9223372036854775808) (hL : ¬ X.length > 20) (n : Int) (hn : n < 0) (hn2 : -9223372036854775808 ≤ n) (w0 : World) (H : Has w0 O) :
    Calls Tryd.prog 5 #[.string (bs X), .int .i64 (n : Int)] w0 fun e w' => e = .returned (.bool true) ∧ Below w0.heap.size w0 w' := by
  refine enter_fr Tryd.func5 rfl Tryd.ntmps5 (by simp) fun ac (FF : Fr 95 ac [(0, .string (bs X)), (1, .int .i64 (n : Int))]) => ?_
  have MM : MemS (fun k => k < w0.heap.size ∧ ∀ x ∈ O, x.1 ≠ k) w0 w0 O [] := MemS.startN H hD
  refine wp_seq (rg_seq FF MM [o_] [0, 1, 4] (fun Kt => Kt [(4, .bool false), (0, .string (bs X)), (1, .int .i64 (n : Int))] O) (by kernel_rfl) (fun _ => by kernel_rfl) (fun ac1 wd1 FF1 MM1 => then_n ?_))
  refine wp_seq ?_
  refine wp_seq (rg_seq FF1 MM1 [o_, t_ (.int .i64 (X.length : Nat)), w_ 3] [4, 0, 1, 10] (fun Kt => Value.int .i64 ((bs X).size : Nat) = .int .i64 (X.length : Nat) ∧ ¬ (X.length > 20) ∧ Kt [(10, .bool false), (4, .bool false), (0, .string (bs X)), (1, .int .i64 (n : Int))] O) (by kernel_rfl) (fun _ => by kernel_rfl) (⟨(vI (bs_size _)), hL, fun ac2 wd2 FF2 MM2 => then_n ?_⟩))
  have hN := leV_20 hX hL
  have hB := big60 (lt20_60 hN)
  have hb := bsz_60 (lt20_60 hN)
  have zN := sz_le hN
  refine wp_cond_false (FF2.ev 0 rfl) ?_
  refine wp_skip ?_
  refine then_n ?_
  refine wp_seq (wp_region_list ?_)
  refine rg_part 1 FF2 MM2 [o_] [4, 0, 1, 13] (fun Kt => Kt [(13, .string (bs X)), (4, .bool false), (0, .string (bs X)), (1, .int .i64 (n : Int))] O) (by kernel_rfl) (fun _ => by kernel_rfl) (fun ac3 wd3 FF3 MM3 => ?_)
  refine st_callE [4, 0, 1, 14] FF3 (d := 14) (mk := fun v => .agg #[nv (leV X) v]) en_nbytes rfl rfl (nbytes_any X hX (by omega) _) rfl (by kernel_rfl) (by decide) fun ac5 wd5 lv4 (FF5 : Fr 95 ac5 [(14, .agg (#[nv (leV X) lv4] : Array Value)), (4, .bool false), (0, .string (bs X)), (1, .int .i64 (n : Int))]) hr6 => ?_
  obtain ⟨O7, MM80, hN9, hs10⟩ := MemS.addNats (K := []) (O := O) MM3 hr6.1 hr6.2 (Nats.nil O)
  have MM8 : MemS (fun k => k < w0.heap.size ∧ ∀ x ∈ O, x.1 ≠ k) w0 wd5 O7 [] := MM80
  have hT_11 := hT.mono hs10
  refine rg_part 1 FF5 MM8 [o_] [14, 4, 0, 1, 15] (fun Kt => Kt [(15, .int .i64 (n : Int)), (14, .agg (#[nv (leV X) lv4] : Array Value)), (4, .bool false), (0, .string (bs X)), (1, .int .i64 (n : Int))] O7) (by kernel_rfl) (fun _ => by kernel_rfl) (fun ac12 wd12 FF12 MM12 => ?_)
  refine st_callE [4, 0, 1, 16] FF12 (d := 16) (mk := fun v => .tuple #[.agg #[nv (0) v], .int .i64 (1 : Nat)]) en_npow rfl rfl (npow_neg (leV X) lv4 (qok4 hB) n hn hn2 _ ((hN9.get 0 rfl).at MM12.hasL)) rfl (by kernel_rfl) (by decide) fun ac14 wd14 lv13 (FF14 : Fr 95 ac14 [(16, .tuple #[.agg (#[nv 0 lv13] : Array Value), .int .i64 (1 : Nat)]), (4, .bool false), (0, .string (bs X)), (1, .int .i64 (n : Int))]) hr15 => ?_
  obtain ⟨O16, MM170, hN18, hs19⟩ := MemS.addNats (K := []) (O := O7) MM12 hr15.1 hr15.2 hN9
  have MM17 : MemS (fun k => k < w0.heap.size ∧ ∀ x ∈ O, x.1 ≠ k) w0 wd14 O16 [] := MM170
  have hT_20 := hT_11.mono hs19
  have hz21 : ∀ x ∈ O, x ∈ O16 := fun x hx => hs19 x (hs10 x hx)
  refine rg_part 6 FF14 MM17 [o_, o_, o_, o_, b_ 0, o_] [4, 0, 1, 5, 6] (fun Kt => ∀ bp, bp = bp ∧ (#[.slice none 0 0] : Array Value).size = 1 ∧ (#[nv 0 lv13] : Array Value).size = 1 ∧ (#[nv 0 lv13] : Array Value).all (·.oneCell') = true ∧ (0, 0).2 = 0 ∧ Kt [(6, .int .i64 (1 : Nat)), (5, .pointer (some ⟨bp, 0, none⟩)), (4, .bool false), (0, .string (bs X)), (1, .int .i64 (n : Int))] ((bp, .cells (#[nv 0 lv13] : Array Value) 27) :: O16)) (by kernel_rfl) (fun _ => by kernel_rfl) (fun bp => ⟨rfl, rfl, rfl, (by kernel_rfl), rfl, fun ac22 wd22 FF22 MM22 => ?_⟩)
  refine wpl_nil (then_n ?_)
  refine wp_seq (rg_seq FF22 MM22 [o_, t_ (.string (bs (minB (leV X)))), t_ (.int .i64 (bsz (leV X) : Nat)), o_] [6, 5, 4, 0, 1, 7] (fun Kt => CallP Tryd.prog 10 [.string (bs X)] [] (.string (bs (minB (leV X)))) ∧ CallP Tryd.prog 16 [.string (bs (minB (leV X)))] [] (.int .i64 (bsz (leV X) : Nat)) ∧ Kt [(7, .int .i64 (bsz (leV X) : Nat)), (6, .int .i64 (1 : Nat)), (5, .pointer (some ⟨bp, 0, none⟩)), (4, .bool false), (0, .string (bs X)), (1, .int .i64 (n : Int))] ((bp, .cells (#[nv 0 lv13] : Array Value) 27) :: O16)) (by kernel_rfl) (fun _ => by kernel_rfl) (⟨(callP_of en_rbytes (bytes_any X hX (by omega)) _), (callP_of en_rbits (bits8_any (leV X) (by omega)) _), fun ac23 wd23 FF23 MM23 => then_n ?_⟩))
  refine wp_seq ?_
  refine wp_block ?_
  refine wp_seq (rg_seq FF23 MM23 [o_, w_ 6, o_] [7, 6, 5, 4, 0, 1, 22] (fun Kt => n < ((0 : Nat) : Int) ∧ Kt [(22, .bool true), (7, .int .i64 (bsz (leV X) : Nat)), (6, .int .i64 (1 : Nat)), (5, .pointer (some ⟨bp, 0, none⟩)), (4, .bool false), (0, .string (bs X)), (1, .int .i64 (n : Int))] ((bp, .cells (#[nv 0 lv13] : Array Value) 27) :: O16)) (by kernel_rfl) (fun _ => by kernel_rfl) (⟨hn, fun ac24 wd24 FF24 MM24 => then_n ?_⟩))
  refine wp_cond_true (FF24.ev 0 rfl) ?_
  refine wp_seq (rg_seq FF24 MM24 [o_, w_ 2, o_, b_ 0, u_ 1 (.string (bs (decN 0))), w_ 2, o_, o_, u_ 1 (.bool true), o_, o_] [7, 6, 5, 4, 0, 1] (fun Kt => 1 = 1 ∧ bp = bp ∧ (#[nv 0 lv13] : Array Value).size = 1 ∧ CallP Tryd.prog 13 [.agg (#[nv 0 lv13] : Array Value)] ((bp, .cells (#[nv 0 lv13] : Array Value) 27) :: O16) (.string (bs (decN 0))) ∧ bs (decN 0) = bs [48] ∧ CallP Tryd.prog 8 [] ((bp, .cells (#[nv 0 lv13] : Array Value) 27) :: O16) (.bool true) ∧ Kt [(4, .bool true), (7, .int .i64 (bsz (leV X) : Nat)), (6, .int .i64 (1 : Nat)), (5, .pointer (some ⟨bp, 0, none⟩)), (0, .string (bs X)), (1, .int .i64 (n : Int))] ((bp, .cells (#[nv 0 lv13] : Array Value) 27) :: O16)) (by kernel_rfl) (fun _ => by kernel_rfl) (⟨(by decide), rfl, rfl, ⟨en_ntext, fun w Hw => ntext_any 0 lv13 (by decide) w (hT_20.at (Has.tl Hw)) ((hN18.get 0 rfl).at (Has.tl Hw))⟩, (congrArg bs rfl), ⟨en_wakes, fun w Hw => wakes_w w (hT_20.at (Has.tl Hw))⟩, fun ac25 wd25 FF25 MM25 => then_n ?_⟩))
  refine wp_ret ?_
  repeat first | refine then_ret ?_ | refine inb_ret ?_
  exact (ret_fr FF25 0 Tryd.results5 rfl ⟨rfl, MM25.belowN H (fun _ hx => List.mem_cons_of_mem _ (hz21 _ hx))⟩)
set_option maxRecDepth 100000 in
theorem natpowers_long (O : Blks) (hD : Distinct O) (hT : TabO O) (X : List Nat) (hX : ∀ i, X.getD i 0 < 256) (hl : X.length < 9223372036854775808) (hL : ¬ X.length > 20) (n : Nat) (h0 : 0 < bsz (leV X)) (hg : n > 65536 / bsz (leV X)) (hn2 : n < 9223372036854775808) (w0 : World) (H : Has w0 O) :
    Calls Tryd.prog 5 #[.string (bs X), .int .i64 (n : Nat)] w0 fun e w' => e = .returned (.bool true) ∧ Below w0.heap.size w0 w' := by
  refine enter_fr Tryd.func5 rfl Tryd.ntmps5 (by simp) fun ac (FF : Fr 95 ac [(0, .string (bs X)), (1, .int .i64 (n : Nat))]) => ?_
  have MM : MemS (fun k => k < w0.heap.size ∧ ∀ x ∈ O, x.1 ≠ k) w0 w0 O [] := MemS.startN H hD
  refine wp_seq (rg_seq FF MM [o_] [0, 1, 4] (fun Kt => Kt [(4, .bool false), (0, .string (bs X)), (1, .int .i64 (n : Nat))] O) (by kernel_rfl) (fun _ => by kernel_rfl) (fun ac1 wd1 FF1 MM1 => then_n ?_))
  refine wp_seq ?_
  refine wp_seq (rg_seq FF1 MM1 [o_, t_ (.int .i64 (X.length : Nat)), w_ 3] [4, 0, 1, 10] (fun Kt => Value.int .i64 ((bs X).size : Nat) = .int .i64 (X.length : Nat) ∧ ¬ (X.length > 20) ∧ Kt [(10, .bool false), (4, .bool false), (0, .string (bs X)), (1, .int .i64 (n : Nat))] O) (by kernel_rfl) (fun _ => by kernel_rfl) (⟨(vI (bs_size _)), hL, fun ac2 wd2 FF2 MM2 => then_n ?_⟩))
  have hN := leV_20 hX hL
  have hB := big60 (lt20_60 hN)
  have hb := bsz_60 (lt20_60 hN)
  have zN := sz_le hN
  refine wp_cond_false (FF2.ev 0 rfl) ?_
  refine wp_skip ?_
  refine then_n ?_
  refine wp_seq (wp_region_list ?_)
  refine rg_part 1 FF2 MM2 [o_] [4, 0, 1, 13] (fun Kt => Kt [(13, .string (bs X)), (4, .bool false), (0, .string (bs X)), (1, .int .i64 (n : Nat))] O) (by kernel_rfl) (fun _ => by kernel_rfl) (fun ac3 wd3 FF3 MM3 => ?_)
  refine st_callE [4, 0, 1, 14] FF3 (d := 14) (mk := fun v => .agg #[nv (leV X) v]) en_nbytes rfl rfl (nbytes_any X hX (by omega) _) rfl (by kernel_rfl) (by decide) fun ac5 wd5 lv4 (FF5 : Fr 95 ac5 [(14, .agg (#[nv (leV X) lv4] : Array Value)), (4, .bool false), (0, .string (bs X)), (1, .int .i64 (n : Nat))]) hr6 => ?_
  obtain ⟨O7, MM80, hN9, hs10⟩ := MemS.addNats (K := []) (O := O) MM3 hr6.1 hr6.2 (Nats.nil O)
  have MM8 : MemS (fun k => k < w0.heap.size ∧ ∀ x ∈ O, x.1 ≠ k) w0 wd5 O7 [] := MM80
  have hT_11 := hT.mono hs10
  refine rg_part 1 FF5 MM8 [o_] [14, 4, 0, 1, 15] (fun Kt => Kt [(15, .int .i64 (n : Nat)), (14, .agg (#[nv (leV X) lv4] : Array Value)), (4, .bool false), (0, .string (bs X)), (1, .int .i64 (n : Nat))] O7) (by kernel_rfl) (fun _ => by kernel_rfl) (fun ac12 wd12 FF12 MM12 => ?_)
  refine st_callE [4, 0, 1, 16] FF12 (d := 16) (mk := fun v => .tuple #[.agg #[nv (0) v], .int .i64 (4 : Nat)]) en_npow rfl rfl (npow_long (leV X) lv4 (qok4 hB) n h0 hg hn2 _ ((hN9.get 0 rfl).at MM12.hasL)) rfl (by kernel_rfl) (by decide) fun ac14 wd14 lv13 (FF14 : Fr 95 ac14 [(16, .tuple #[.agg (#[nv 0 lv13] : Array Value), .int .i64 (4 : Nat)]), (4, .bool false), (0, .string (bs X)), (1, .int .i64 (n : Nat))]) hr15 => ?_
  obtain ⟨O16, MM170, hN18, hs19⟩ := MemS.addNats (K := []) (O := O7) MM12 hr15.1 hr15.2 hN9
  have MM17 : MemS (fun k => k < w0.heap.size ∧ ∀ x ∈ O, x.1 ≠ k) w0 wd14 O16 [] := MM170
  have hT_20 := hT_11.mono hs19
  have hz21 : ∀ x ∈ O, x ∈ O16 := fun x hx => hs19 x (hs10 x hx)
  refine rg_part 6 FF14 MM17 [o_, o_, o_, o_, b_ 0, o_] [4, 0, 1, 5, 6] (fun Kt => ∀ bp, bp = bp ∧ (#[.slice none 0 0] : Array Value).size = 1 ∧ (#[nv 0 lv13] : Array Value).size = 1 ∧ (#[nv 0 lv13] : Array Value).all (·.oneCell') = true ∧ (0, 0).2 = 0 ∧ Kt [(6, .int .i64 (4 : Nat)), (5, .pointer (some ⟨bp, 0, none⟩)), (4, .bool false), (0, .string (bs X)), (1, .int .i64 (n : Nat))] ((bp, .cells (#[nv 0 lv13] : Array Value) 27) :: O16)) (by kernel_rfl) (fun _ => by kernel_rfl) (fun bp => ⟨rfl, rfl, rfl, (by kernel_rfl), rfl, fun ac22 wd22 FF22 MM22 => ?_⟩)
  refine wpl_nil (then_n ?_)
  refine wp_seq (rg_seq FF22 MM22 [o_, t_ (.string (bs (minB (leV X)))), t_ (.int .i64 (bsz (leV X) : Nat)), o_] [6, 5, 4, 0, 1, 7] (fun Kt => CallP Tryd.prog 10 [.string (bs X)] [] (.string (bs (minB (leV X)))) ∧ CallP Tryd.prog 16 [.string (bs (minB (leV X)))] [] (.int .i64 (bsz (leV X) : Nat)) ∧ Kt [(7, .int .i64 (bsz (leV X) : Nat)), (6, .int .i64 (4 : Nat)), (5, .pointer (some ⟨bp, 0, none⟩)), (4, .bool false), (0, .string (bs X)), (1, .int .i64 (n : Nat))] ((bp, .cells (#[nv 0 lv13] : Array Value) 27) :: O16)) (by kernel_rfl) (fun _ => by kernel_rfl) (⟨(callP_of en_rbytes (bytes_any X hX (by omega)) _), (callP_of en_rbits (bits8_any (leV X) (by omega)) _), fun ac23 wd23 FF23 MM23 => then_n ?_⟩))
  refine wp_seq ?_
  refine wp_block ?_
  refine wp_seq (rg_seq FF23 MM23 [o_, w_ 3, o_] [7, 6, 5, 4, 0, 1, 22] (fun Kt => ¬ (n < 0) ∧ Kt [(22, .bool false), (7, .int .i64 (bsz (leV X) : Nat)), (6, .int .i64 (4 : Nat)), (5, .pointer (some ⟨bp, 0, none⟩)), (4, .bool false), (0, .string (bs X)), (1, .int .i64 (n : Nat))] ((bp, .cells (#[nv 0 lv13] : Array Value) 27) :: O16)) (by kernel_rfl) (fun _ => by kernel_rfl) (⟨(by omega), fun ac24 wd24 FF24 MM24 => then_n ?_⟩))
  refine wp_cond_false (FF24.ev 0 rfl) ?_
  refine wp_seq (rg_seq FF24 MM24 [o_, w_ 2, o_, o_, o_, o_, w_ 2, o_, o_] [7, 6, 5, 4, 0, 1, 35] (fun Kt => (bsz (leV X)) > 0 ∧ (bsz (leV X)) ≠ 0 ∧ 65536 / (bsz (leV X)) < 9223372036854775808 ∧ n > (65536 / (bsz (leV X))) ∧ Kt [(35, .bool true), (7, .int .i64 (bsz (leV X) : Nat)), (6, .int .i64 (4 : Nat)), (5, .pointer (some ⟨bp, 0, none⟩)), (4, .bool false), (0, .string (bs X)), (1, .int .i64 (n : Nat))] ((bp, .cells (#[nv 0 lv13] : Array Value) 27) :: O16)) (by kernel_rfl) (fun _ => by kernel_rfl) (⟨h0, (by omega), (Nat.lt_of_le_of_lt (Nat.div_le_self _ _) (by decide)), hg, fun ac25 wd25 FF25 MM25 => then_n ?_⟩))
  refine wp_cond_true (FF25.ev 0 rfl) ?_
  refine wp_seq (rg_seq FF25 MM25 [o_, w_ 2, o_, b_ 0, u_ 1 (.string (bs (decN 0))), w_ 2, o_, o_, u_ 1 (.bool true), o_, o_] [7, 6, 5, 4, 0, 1] (fun Kt => 4 = 4 ∧ bp = bp ∧ (#[nv 0 lv13] : Array Value).size = 1 ∧ CallP Tryd.prog 13 [.agg (#[nv 0 lv13] : Array Value)] ((bp, .cells (#[nv 0 lv13] : Array Value) 27) :: O16) (.string (bs (decN 0))) ∧ bs (decN 0) = bs [48] ∧ CallP Tryd.prog 8 [] ((bp, .cells (#[nv 0 lv13] : Array Value) 27) :: O16) (.bool true) ∧ Kt [(4, .bool true), (7, .int .i64 (bsz (leV X) : Nat)), (6, .int .i64 (4 : Nat)), (5, .pointer (some ⟨bp, 0, none⟩)), (0, .string (bs X)), (1, .int .i64 (n : Nat))] ((bp, .cells (#[nv 0 lv13] : Array Value) 27) :: O16)) (by kernel_rfl) (fun _ => by kernel_rfl) (⟨(by decide), rfl, rfl, ⟨en_ntext, fun w Hw => ntext_any 0 lv13 (by decide) w (hT_20.at (Has.tl Hw)) ((hN18.get 0 rfl).at (Has.tl Hw))⟩, (congrArg bs rfl), ⟨en_wakes, fun w Hw => wakes_w w (hT_20.at (Has.tl Hw))⟩, fun ac26 wd26 FF26 MM26 => then_n ?_⟩))
  refine wp_ret ?_
  repeat first | refine then_ret ?_ | refine inb_ret ?_
  exact (ret_fr FF26 0 Tryd.results5 rfl ⟨rfl, MM26.belowN H (fun _ hx => List.mem_cons_of_mem _ (hz21 _ hx))⟩)
set_option maxRecDepth 100000 in
theorem natpowers_wide (O : Blks) (hD : Distinct O) (hT : TabO O) (X : List Nat) (hX : ∀ i, X.getD i 0 < 256) (hl : X.length < 9223372036854775808) (hL : ¬ X.length > 20) (n : Nat) (hP : PowOk (leV X) n) (h1 : bsz (leV X) > 1) (h3 : n > 300) (hn2 : n < 9223372036854775808) (w0 : World) (H : Has w0 O) :
    Calls Tryd.prog 5 #[.string (bs X), .int .i64 (n : Nat)] w0 fun e w' => e = .returned (.bool true) ∧ Below w0.heap.size w0 w' := by
  refine enter_fr Tryd.func5 rfl Tryd.ntmps5 (by simp) fun ac (FF : Fr 95 ac [(0, .string (bs X)), (1, .int .i64 (n : Nat))]) => ?_
  have MM : MemS (fun k => k < w0.heap.size ∧ ∀ x ∈ O, x.1 ≠ k) w0 w0 O [] := MemS.startN H hD
  refine wp_seq (rg_seq FF MM [o_] [0, 1, 4] (fun Kt => Kt [(4, .bool false), (0, .string (bs X)), (1, .int .i64 (n : Nat))] O) (by kernel_rfl) (fun _ => by kernel_rfl) (fun ac1 wd1 FF1 MM1 => then_n ?_))
  refine wp_seq ?_
  refine wp_seq (rg_seq FF1 MM1 [o_, t_ (.int .i64 (X.length : Nat)), w_ 3] [4, 0, 1, 10] (fun Kt => Value.int .i64 ((bs X).size : Nat) = .int .i64 (X.length : Nat) ∧ ¬ (X.length > 20) ∧ Kt [(10, .bool false), (4, .bool false), (0, .string (bs X)), (1, .int .i64 (n : Nat))] O) (by kernel_rfl) (fun _ => by kernel_rfl) (⟨(vI (bs_size _)), hL, fun ac2 wd2 FF2 MM2 => then_n ?_⟩))
  have hN := leV_20 hX hL
  have hB := big60 (lt20_60 hN)
  have hb := bsz_60 (lt20_60 hN)
  have zN := sz_le hN
  refine wp_cond_false (FF2.ev 0 rfl) ?_
  refine wp_skip ?_
  refine then_n ?_
  refine wp_seq (wp_region_list ?_)
  refine rg_part 1 FF2 MM2 [o_] [4, 0, 1, 13] (fun Kt => Kt [(13, .string (bs X)), (4, .bool false), (0, .string (bs X)), (1, .int .i64 (n : Nat))] O) (by kernel_rfl) (fun _ => by kernel_rfl) (fun ac3 wd3 FF3 MM3 => ?_)
  refine st_callE [4, 0, 1, 14] FF3 (d := 14) (mk := fun v => .agg #[nv (leV X) v]) en_nbytes rfl rfl (nbytes_any X hX (by omega) _) rfl (by kernel_rfl) (by decide) fun ac5 wd5 lv4 (FF5 : Fr 95 ac5 [(14, .agg (#[nv (leV X) lv4] : Array Value)), (4, .bool false), (0, .string (bs X)), (1, .int .i64 (n : Nat))]) hr6 => ?_
  obtain ⟨O7, MM80, hN9, hs10⟩ := MemS.addNats (K := []) (O := O) MM3 hr6.1 hr6.2 (Nats.nil O)
  have MM8 : MemS (fun k => k < w0.heap.size ∧ ∀ x ∈ O, x.1 ≠ k) w0 wd5 O7 [] := MM80
  have hT_11 := hT.mono hs10
  refine rg_part 1 FF5 MM8 [o_] [14, 4, 0, 1, 15] (fun Kt => Kt [(15, .int .i64 (n : Nat)), (14, .agg (#[nv (leV X) lv4] : Array Value)), (4, .bool false), (0, .string (bs X)), (1, .int .i64 (n : Nat))] O7) (by kernel_rfl) (fun _ => by kernel_rfl) (fun ac12 wd12 FF12 MM12 => ?_)
  refine st_callE [4, 0, 1, 16] FF12 (d := 16) (mk := fun v => .tuple #[.agg #[nv ((leV X) ^ n) v], .int .i64 (0 : Nat)]) en_npow rfl rfl (npow_ok (leV X) lv4 (qok4 hB) n hP hn2 _ ((hN9.get 0 rfl).at MM12.hasL)) rfl (by kernel_rfl) (by decide) fun ac14 wd14 lv13 (FF14 : Fr 95 ac14 [(16, .tuple #[.agg (#[nv ((leV X) ^ n) lv13] : Array Value), .int .i64 (0 : Nat)]), (4, .bool false), (0, .string (bs X)), (1, .int .i64 (n : Nat))]) hr15 => ?_
  obtain ⟨O16, MM170, hN18, hs19⟩ := MemS.addNats (K := []) (O := O7) MM12 hr15.1 hr15.2 hN9
  have MM17 : MemS (fun k => k < w0.heap.size ∧ ∀ x ∈ O, x.1 ≠ k) w0 wd14 O16 [] := MM170
  have hT_20 := hT_11.mono hs19
  have hz21 : ∀ x ∈ O, x ∈ O16 := fun x hx => hs19 x (hs10 x hx)
  refine rg_part 6 FF14 MM17 [o_, o_, o_, o_, b_ 0, o_] [4, 0, 1, 5, 6] (fun Kt => ∀ bp, bp = bp ∧ (#[.slice none 0 0] : Array Value).size = 1 ∧ (#[nv ((leV X) ^ n) lv13] : Array Value).size = 1 ∧ (#[nv ((leV X) ^ n) lv13] : Array Value).all (·.oneCell') = true ∧ (0, 0).2 = 0 ∧ Kt [(6, .int .i64 (0 : Nat)), (5, .pointer (some ⟨bp, 0, none⟩)), (4, .bool false), (0, .string (bs X)), (1, .int .i64 (n : Nat))] ((bp, .cells (#[nv ((leV X) ^ n) lv13] : Array Value) 27) :: O16)) (by kernel_rfl) (fun _ => by kernel_rfl) (fun bp => ⟨rfl, rfl, rfl, (by kernel_rfl), rfl, fun ac22 wd22 FF22 MM22 => ?_⟩)
  refine wpl_nil (then_n ?_)
  refine wp_seq (rg_seq FF22 MM22 [o_, t_ (.string (bs (minB (leV X)))), t_ (.int .i64 (bsz (leV X) : Nat)), o_] [6, 5, 4, 0, 1, 7] (fun Kt => CallP Tryd.prog 10 [.string (bs X)] [] (.string (bs (minB (leV X)))) ∧ CallP Tryd.prog 16 [.string (bs (minB (leV X)))] [] (.int .i64 (bsz (leV X) : Nat)) ∧ Kt [(7, .int .i64 (bsz (leV X) : Nat)), (6, .int .i64 (0 : Nat)), (5, .pointer (some ⟨bp, 0, none⟩)), (4, .bool false), (0, .string (bs X)), (1, .int .i64 (n : Nat))] ((bp, .cells (#[nv ((leV X) ^ n) lv13] : Array Value) 27) :: O16)) (by kernel_rfl) (fun _ => by kernel_rfl) (⟨(callP_of en_rbytes (bytes_any X hX (by omega)) _), (callP_of en_rbits (bits8_any (leV X) (by omega)) _), fun ac23 wd23 FF23 MM23 => then_n ?_⟩))
  refine wp_seq ?_
  refine wp_block ?_
  refine wp_seq (rg_seq FF23 MM23 [o_, w_ 3, o_] [7, 6, 5, 4, 0, 1, 22] (fun Kt => ¬ (n < 0) ∧ Kt [(22, .bool false), (7, .int .i64 (bsz (leV X) : Nat)), (6, .int .i64 (0 : Nat)), (5, .pointer (some ⟨bp, 0, none⟩)), (4, .bool false), (0, .string (bs X)), (1, .int .i64 (n : Nat))] ((bp, .cells (#[nv ((leV X) ^ n) lv13] : Array Value) 27) :: O16)) (by kernel_rfl) (fun _ => by kernel_rfl) (⟨(by omega), fun ac24 wd24 FF24 MM24 => then_n ?_⟩))
  refine wp_cond_false (FF24.ev 0 rfl) ?_
  refine wp_seq (rg_seq FF24 MM24 [o_, w_ 2, o_, o_, o_, o_, w_ 3, o_, o_] [7, 6, 5, 4, 0, 1, 35] (fun Kt => (bsz (leV X)) > 0 ∧ (bsz (leV X)) ≠ 0 ∧ 65536 / (bsz (leV X)) < 9223372036854775808 ∧ ¬ (n > (65536 / (bsz (leV X)))) ∧ Kt [(35, .bool false), (7, .int .i64 (bsz (leV X) : Nat)), (6, .int .i64 (0 : Nat)), (5, .pointer (some ⟨bp, 0, none⟩)), (4, .bool false), (0, .string (bs X)), (1, .int .i64 (n : Nat))] ((bp, .cells (#[nv ((leV X) ^ n) lv13] : Array Value) 27) :: O16)) (by kernel_rfl) (fun _ => by kernel_rfl) (⟨(by omega), (by omega), (Nat.lt_of_le_of_lt (Nat.div_le_self _ _) (by decide)), (Nat.not_lt.2 (hP.resolve_left (by omega))), fun ac25 wd25 FF25 MM25 => then_n ?_⟩))
  refine wp_cond_false (FF25.ev 0 rfl) ?_
  refine wp_seq (rg_seq FF25 MM25 [o_, w_ 2, o_, o_, w_ 2, o_, o_] [7, 6, 5, 4, 0, 1, 54] (fun Kt => (bsz (leV X)) > 1 ∧ n > 300 ∧ Kt [(54, .bool true), (7, .int .i64 (bsz (leV X) : Nat)), (6, .int .i64 (0 : Nat)), (5, .pointer (some ⟨bp, 0, none⟩)), (4, .bool false), (0, .string (bs X)), (1, .int .i64 (n : Nat))] ((bp, .cells (#[nv ((leV X) ^ n) lv13] : Array Value) 27) :: O16)) (by kernel_rfl) (fun _ => by kernel_rfl) (⟨h1, h3, fun ac26 wd26 FF26 MM26 => then_n ?_⟩))
  refine wp_cond_true (FF26.ev 0 rfl) ?_
  have hpp := pow_prod hP
  refine wp_seq (rg_seq FF26 MM26 [o_, w_ 2, o_, b_ 0, u_ 1 (.int .i64 (bsz ((leV X) ^ n) : Nat)), o_, w_ 2, o_, o_, b_ 0, u_ 1 (.int .i64 (bsz ((leV X) ^ n) : Nat)), o_, o_, o_, w_ 2, o_, o_, u_ 1 (.bool true), o_, o_] [7, 6, 5, 4, 0, 1] (fun Kt => 0 = 0 ∧ bp = bp ∧ (#[nv ((leV X) ^ n) lv13] : Array Value).size = 1 ∧ CallP Tryd.prog 15 [.agg (#[nv ((leV X) ^ n) lv13] : Array Value)] ((bp, .cells (#[nv ((leV X) ^ n) lv13] : Array Value) 27) :: O16) (.int .i64 (bsz ((leV X) ^ n) : Nat)) ∧ (bsz ((leV X) ^ n)) > n ∧ bp = bp ∧ (#[nv ((leV X) ^ n) lv13] : Array Value).size = 1 ∧ CallP Tryd.prog 15 [.agg (#[nv ((leV X) ^ n) lv13] : Array Value)] ((bp, .cells (#[nv ((leV X) ^ n) lv13] : Array Value) 27) :: O16) (.int .i64 (bsz ((leV X) ^ n) : Nat)) ∧ n * (bsz (leV X)) < 9223372036854775808 ∧ (bsz ((leV X) ^ n)) ≤ (n * (bsz (leV X))) ∧ CallP Tryd.prog 8 [] ((bp, .cells (#[nv ((leV X) ^ n) lv13] : Array Value) 27) :: O16) (.bool true) ∧ Kt [(4, .bool true), (7, .int .i64 (bsz (leV X) : Nat)), (6, .int .i64 (0 : Nat)), (5, .pointer (some ⟨bp, 0, none⟩)), (0, .string (bs X)), (1, .int .i64 (n : Nat))] ((bp, .cells (#[nv ((leV X) ^ n) lv13] : Array Value) 27) :: O16)) (by kernel_rfl) (fun _ => by kernel_rfl) (⟨(by decide), rfl, rfl, ⟨en_nbits, fun w Hw => nbits_any ((leV X) ^ n) lv13 (pow_qsz hP) w ((hN18.get 0 rfl).at (Has.tl Hw))⟩, (pow_bits_gt h1), rfl, rfl, ⟨en_nbits, fun w Hw => nbits_any ((leV X) ^ n) lv13 (pow_qsz hP) w ((hN18.get 0 rfl).at (Has.tl Hw))⟩, (by omega), (pow_bits_le (by omega)), ⟨en_wakes, fun w Hw => wakes_w w (hT_20.at (Has.tl Hw))⟩, fun ac27 wd27 FF27 MM27 => then_n ?_⟩))
  refine wp_ret ?_
  repeat first | refine then_ret ?_ | refine inb_ret ?_
  exact (ret_fr FF27 0 Tryd.results5 rfl ⟨rfl, MM27.belowN H (fun _ hx => List.mem_cons_of_mem _ (hz21 _ hx))⟩)
set_option maxRecDepth 100000 in
theorem natpowers_rest (O : Blks) (hD : Distinct O) (hT : TabO O) (X : List Nat) (hX : ∀ i, X.getD i 0 < 256) (hl : X.length < 9223372036854775808) (hL : ¬ X.length > 20) (n : Nat) (hP : PowOk (leV X) n) (hs : ¬ (bsz (leV X) > 1 ∧ n > 300)) (hn2 : n < 9223372036854775808) (w0 : World) (H : Has w0 O) :
    Calls Tryd.prog 5 #[.string (bs X), .int .i64 (n : Nat)] w0 fun e w' => e = .returned (.bool true) ∧ Below w0.heap.size w0 w' := by
  refine enter_fr Tryd.func5 rfl Tryd.ntmps5 (by simp) fun ac (FF : Fr 95 ac [(0, .string (bs X)), (1, .int .i64 (n : Nat))]) => ?_
  have MM : MemS (fun k => k < w0.heap.size ∧ ∀ x ∈ O, x.1 ≠ k) w0 w0 O [] := MemS.startN H hD
  refine wp_seq (rg_seq FF MM [o_] [0, 1, 4] (fun Kt => Kt [(4, .bool false), (0, .string (bs X)), (1, .int .i64 (n : Nat))] O) (by kernel_rfl) (fun _ => by kernel_rfl) (fun ac1 wd1 FF1 MM1 => then_n ?_))
  refine wp_seq ?_
  refine wp_seq (rg_seq FF1 MM1 [o_, t_ (.int .i64 (X.length : Nat)), w_ 3] [4, 0, 1, 10] (fun Kt => Value.int .i64 ((bs X).size : Nat) = .int .i64 (X.length : Nat) ∧ ¬ (X.length > 20) ∧ Kt [(10, .bool false), (4, .bool false), (0, .string (bs X)), (1, .int .i64 (n : Nat))] O) (by kernel_rfl) (fun _ => by kernel_rfl) (⟨(vI (bs_size _)), hL, fun ac2 wd2 FF2 MM2 => then_n ?_⟩))
  have hN := leV_20 hX hL
  have hB := big60 (lt20_60 hN)
  have hb := bsz_60 (lt20_60 hN)
  have zN := sz_le hN
  refine wp_cond_false (FF2.ev 0 rfl) ?_
  refine wp_skip ?_
  refine then_n ?_
  refine wp_seq (wp_region_list ?_)
  refine rg_part 1 FF2 MM2 [o_] [4, 0, 1, 13] (fun Kt => Kt [(13, .string (bs X)), (4, .bool false), (0, .string (bs X)), (1, .int .i64 (n : Nat))] O) (by kernel_rfl) (fun _ => by kernel_rfl) (fun ac3 wd3 FF3 MM3 => ?_)
  refine st_callE [4, 0, 1, 14] FF3 (d := 14) (mk := fun v => .agg #[nv (leV X) v]) en_nbytes rfl rfl (nbytes_any X hX (by omega) _) rfl (by kernel_rfl) (by decide) fun ac5 wd5 lv4 (FF5 : Fr 95 ac5 [(14, .agg (#[nv (leV X) lv4] : Array Value)), (4, .bool false), (0, .string (bs X)), (1, .int .i64 (n : Nat))]) hr6 => ?_
  obtain ⟨O7, MM80, hN9, hs10⟩ := MemS.addNats (K := []) (O := O) MM3 hr6.1 hr6.2 (Nats.nil O)
  have MM8 : MemS (fun k => k < w0.heap.size ∧ ∀ x ∈ O, x.1 ≠ k) w0 wd5 O7 [] := MM80
  have hT_11 := hT.mono hs10
  refine rg_part 1 FF5 MM8 [o_] [14, 4, 0, 1, 15] (fun Kt => Kt [(15, .int .i64 (n : Nat)), (14, .agg (#[nv (leV X) lv4] : Array Value)), (4, .bool false), (0, .string (bs X)), (1, .int .i64 (n : Nat))] O7) (by kernel_rfl) (fun _ => by kernel_rfl) (fun ac12 wd12 FF12 MM12 => ?_)
  refine st_callE [4, 0, 1, 16] FF12 (d := 16) (mk := fun v => .tuple #[.agg #[nv ((leV X) ^ n) v], .int .i64 (0 : Nat)]) en_npow rfl rfl (npow_ok (leV X) lv4 (qok4 hB) n hP hn2 _ ((hN9.get 0 rfl).at MM12.hasL)) rfl (by kernel_rfl) (by decide) fun ac14 wd14 lv13 (FF14 : Fr 95 ac14 [(16, .tuple #[.agg (#[nv ((leV X) ^ n) lv13] : Array Value), .int .i64 (0 : Nat)]), (4, .bool false), (0, .string (bs X)), (1, .int .i64 (n : Nat))]) hr15 => ?_
  obtain ⟨O16, MM170, hN18, hs19⟩ := MemS.addNats (K := []) (O := O7) MM12 hr15.1 hr15.2 hN9
  have MM17 : MemS (fun k => k < w0.heap.size ∧ ∀ x ∈ O, x.1 ≠ k) w0 wd14 O16 [] := MM170
  have hT_20 := hT_11.mono hs19
  have hz21 : ∀ x ∈ O, x ∈ O16 := fun x hx => hs19 x (hs10 x hx)
  refine rg_part 6 FF14 MM17 [o_, o_, o_, o_, b_ 0, o_] [4, 0, 1, 5, 6] (fun Kt => ∀ bp, bp = bp ∧ (#[.slice none 0 0] : Array Value).size = 1 ∧ (#[nv ((leV X) ^ n) lv13] : Array Value).size = 1 ∧ (#[nv ((leV X) ^ n) lv13] : Array Value).all (·.oneCell') = true ∧ (0, 0).2 = 0 ∧ Kt [(6, .int .i64 (0 : Nat)), (5, .pointer (some ⟨bp, 0, none⟩)), (4, .bool false), (0, .string (bs X)), (1, .int .i64 (n : Nat))] ((bp, .cells (#[nv ((leV X) ^ n) lv13] : Array Value) 27) :: O16)) (by kernel_rfl) (fun _ => by kernel_rfl) (fun bp => ⟨rfl, rfl, rfl, (by kernel_rfl), rfl, fun ac22 wd22 FF22 MM22 => ?_⟩)
  refine wpl_nil (then_n ?_)
  refine wp_seq (rg_seq FF22 MM22 [o_, t_ (.string (bs (minB (leV X)))), t_ (.int .i64 (bsz (leV X) : Nat)), o_] [6, 5, 4, 0, 1, 7] (fun Kt => CallP Tryd.prog 10 [.string (bs X)] [] (.string (bs (minB (leV X)))) ∧ CallP Tryd.prog 16 [.string (bs (minB (leV X)))] [] (.int .i64 (bsz (leV X) : Nat)) ∧ Kt [(7, .int .i64 (bsz (leV X) : Nat)), (6, .int .i64 (0 : Nat)), (5, .pointer (some ⟨bp, 0, none⟩)), (4, .bool false), (0, .string (bs X)), (1, .int .i64 (n : Nat))] ((bp, .cells (#[nv ((leV X) ^ n) lv13] : Array Value) 27) :: O16)) (by kernel_rfl) (fun _ => by kernel_rfl) (⟨(callP_of en_rbytes (bytes_any X hX (by omega)) _), (callP_of en_rbits (bits8_any (leV X) (by omega)) _), fun ac23 wd23 FF23 MM23 => then_n ?_⟩))
  refine wp_seq ?_
  refine wp_block ?_
  refine wp_seq (rg_seq FF23 MM23 [o_, w_ 3, o_] [7, 6, 5, 4, 0, 1, 22] (fun Kt => ¬ (n < 0) ∧ Kt [(22, .bool false), (7, .int .i64 (bsz (leV X) : Nat)), (6, .int .i64 (0 : Nat)), (5, .pointer (some ⟨bp, 0, none⟩)), (4, .bool false), (0, .string (bs X)), (1, .int .i64 (n : Nat))] ((bp, .cells (#[nv ((leV X) ^ n) lv13] : Array Value) 27) :: O16)) (by kernel_rfl) (fun _ => by kernel_rfl) (⟨(by omega), fun ac24 wd24 FF24 MM24 => then_n ?_⟩))
  refine wp_cond_false (FF24.ev 0 rfl) ?_
  by_cases h4 : bsz (leV X) > 0
  · skip
    refine wp_seq (rg_seq FF24 MM24 [o_, w_ 2, o_, o_, o_, o_, w_ 3, o_, o_] [7, 6, 5, 4, 0, 1, 35] (fun Kt => (bsz (leV X)) > 0 ∧ (bsz (leV X)) ≠ 0 ∧ 65536 / (bsz (leV X)) < 9223372036854775808 ∧ ¬ (n > (65536 / (bsz (leV X)))) ∧ Kt [(35, .bool false), (7, .int .i64 (bsz (leV X) : Nat)), (6, .int .i64 (0 : Nat)), (5, .pointer (some ⟨bp, 0, none⟩)), (4, .bool false), (0, .string (bs X)), (1, .int .i64 (n : Nat))] ((bp, .cells (#[nv ((leV X) ^ n) lv13] : Array Value) 27) :: O16)) (by kernel_rfl) (fun _ => by kernel_rfl) (⟨h4, (by omega), (Nat.lt_of_le_of_lt (Nat.div_le_self _ _) (by decide)), (Nat.not_lt.2 (hP.resolve_left (by omega))), fun ac25 wd25 FF25 MM25 => then_n ?_⟩))
    refine wp_cond_false (FF25.ev 0 rfl) ?_
    by_cases h5 : bsz (leV X) > 1
    · skip
      refine wp_seq (rg_seq FF25 MM25 [o_, w_ 2, o_, o_, w_ 3, o_, o_] [7, 6, 5, 4, 0, 1, 54] (fun Kt => (bsz (leV X)) > 1 ∧ ¬ (n > 300) ∧ Kt [(54, .bool false), (7, .int .i64 (bsz (leV X) : Nat)), (6, .int .i64 (0 : Nat)), (5, .pointer (some ⟨bp, 0, none⟩)), (4, .bool false), (0, .string (bs X)), (1, .int .i64 (n : Nat))] ((bp, .cells (#[nv ((leV X) ^ n) lv13] : Array Value) 27) :: O16)) (by kernel_rfl) (fun _ => by kernel_rfl) (⟨h5, (fun q => hs ⟨h5, q⟩), fun ac26 wd26 FF26 MM26 => then_n ?_⟩))
      refine wp_cond_false (FF26.ev 0 rfl) ?_
      refine wp_skip ?_
      refine inb_n ?_
      refine then_n ?_
      refine wp_seq (rg_seq FF26 MM26 [o_, w_ 2, o_, b_ 0, u_ 1 (.string (bs (decN ((leV X) ^ n)))), o_, t_ (.string (bs (minB (leV X)))), o_, t_ (.string (bs (minB ((leV X) ^ n)))), t_ (.string (bs (decN ((leV X) ^ n)))), w_ 2, o_, o_, u_ 1 (.bool true), o_, o_] [7, 6, 5, 4, 0, 1] (fun Kt => 0 = 0 ∧ bp = bp ∧ (#[nv ((leV X) ^ n) lv13] : Array Value).size = 1 ∧ CallP Tryd.prog 13 [.agg (#[nv ((leV X) ^ n) lv13] : Array Value)] ((bp, .cells (#[nv ((leV X) ^ n) lv13] : Array Value) 27) :: O16) (.string (bs (decN ((leV X) ^ n)))) ∧ CallP Tryd.prog 10 [.string (bs X)] [] (.string (bs (minB (leV X)))) ∧ CallP Tryd.prog 29 [.string (bs (minB (leV X))), .int .i64 (n : Nat)] [] (.string (bs (minB ((leV X) ^ n)))) ∧ CallP Tryd.prog 14 [.string (bs (minB ((leV X) ^ n)))] [] (.string (bs (decN ((leV X) ^ n)))) ∧ bs (decN ((leV X) ^ n)) = bs (decN ((leV X) ^ n)) ∧ CallP Tryd.prog 8 [] ((bp, .cells (#[nv ((leV X) ^ n) lv13] : Array Value) 27) :: O16) (.bool true) ∧ Kt [(4, .bool true), (7, .int .i64 (bsz (leV X) : Nat)), (6, .int .i64 (0 : Nat)), (5, .pointer (some ⟨bp, 0, none⟩)), (0, .string (bs X)), (1, .int .i64 (n : Nat))] ((bp, .cells (#[nv ((leV X) ^ n) lv13] : Array Value) 27) :: O16)) (by kernel_rfl) (fun _ => by kernel_rfl) (⟨(by decide), rfl, rfl, ⟨en_ntext, fun w Hw => ntext_any ((leV X) ^ n) lv13 (pow_qsz hP) w (hT_20.at (Has.tl Hw)) ((hN18.get 0 rfl).at (Has.tl Hw))⟩, (callP_of en_rbytes (bytes_any X hX (by omega)) _), (callP_of en_rpow (pow8_any (leV X) n zN hn2 (small_of hs)) _), (callP_of en_rtext (text8_any ((leV X) ^ n) (sz_powers zN (small_of hs))) _), rfl, ⟨en_wakes, fun w Hw => wakes_w w (hT_20.at (Has.tl Hw))⟩, fun ac27 wd27 FF27 MM27 => then_n ?_⟩))
      refine wp_ret ?_
      repeat first | refine then_ret ?_ | refine inb_ret ?_
      exact (ret_fr FF27 0 Tryd.results5 rfl ⟨rfl, MM27.belowN H (fun _ hx => List.mem_cons_of_mem _ (hz21 _ hx))⟩)
    · skip
      refine wp_seq (rg_seq FF25 MM25 [o_, w_ 3, o_, o_, o_, o_, o_] [7, 6, 5, 4, 0, 1, 54] (fun Kt => ¬ ((bsz (leV X)) > 1) ∧ Kt [(54, .bool false), (7, .int .i64 (bsz (leV X) : Nat)), (6, .int .i64 (0 : Nat)), (5, .pointer (some ⟨bp, 0, none⟩)), (4, .bool false), (0, .string (bs X)), (1, .int .i64 (n : Nat))] ((bp, .cells (#[nv ((leV X) ^ n) lv13] : Array Value) 27) :: O16)) (by kernel_rfl) (fun _ => by kernel_rfl) (⟨h5, fun ac28 wd28 FF28 MM28 => then_n ?_⟩))
      refine wp_cond_false (FF28.ev 0 rfl) ?_
      refine wp_skip ?_
      refine inb_n ?_
      refine then_n ?_
      refine wp_seq (rg_seq FF28 MM28 [o_, w_ 2, o_, b_ 0, u_ 1 (.string (bs (decN ((leV X) ^ n)))), o_, t_ (.string (bs (minB (leV X)))), o_, t_ (.string (bs (minB ((leV X) ^ n)))), t_ (.string (bs (decN ((leV X) ^ n)))), w_ 2, o_, o_, u_ 1 (.bool true), o_, o_] [7, 6, 5, 4, 0, 1] (fun Kt => 0 = 0 ∧ bp = bp ∧ (#[nv ((leV X) ^ n) lv13] : Array Value).size = 1 ∧ CallP Tryd.prog 13 [.agg (#[nv ((leV X) ^ n) lv13] : Array Value)] ((bp, .cells (#[nv ((leV X) ^ n) lv13] : Array Value) 27) :: O16) (.string (bs (decN ((leV X) ^ n)))) ∧ CallP Tryd.prog 10 [.string (bs X)] [] (.string (bs (minB (leV X)))) ∧ CallP Tryd.prog 29 [.string (bs (minB (leV X))), .int .i64 (n : Nat)] [] (.string (bs (minB ((leV X) ^ n)))) ∧ CallP Tryd.prog 14 [.string (bs (minB ((leV X) ^ n)))] [] (.string (bs (decN ((leV X) ^ n)))) ∧ bs (decN ((leV X) ^ n)) = bs (decN ((leV X) ^ n)) ∧ CallP Tryd.prog 8 [] ((bp, .cells (#[nv ((leV X) ^ n) lv13] : Array Value) 27) :: O16) (.bool true) ∧ Kt [(4, .bool true), (7, .int .i64 (bsz (leV X) : Nat)), (6, .int .i64 (0 : Nat)), (5, .pointer (some ⟨bp, 0, none⟩)), (0, .string (bs X)), (1, .int .i64 (n : Nat))] ((bp, .cells (#[nv ((leV X) ^ n) lv13] : Array Value) 27) :: O16)) (by kernel_rfl) (fun _ => by kernel_rfl) (⟨(by decide), rfl, rfl, ⟨en_ntext, fun w Hw => ntext_any ((leV X) ^ n) lv13 (pow_qsz hP) w (hT_20.at (Has.tl Hw)) ((hN18.get 0 rfl).at (Has.tl Hw))⟩, (callP_of en_rbytes (bytes_any X hX (by omega)) _), (callP_of en_rpow (pow8_any (leV X) n zN hn2 (small_of hs)) _), (callP_of en_rtext (text8_any ((leV X) ^ n) (sz_powers zN (small_of hs))) _), rfl, ⟨en_wakes, fun w Hw => wakes_w w (hT_20.at (Has.tl Hw))⟩, fun ac29 wd29 FF29 MM29 => then_n ?_⟩))
      refine wp_ret ?_
      repeat first | refine then_ret ?_ | refine inb_ret ?_
      exact (ret_fr FF29 0 Tryd.results5 rfl ⟨rfl, MM29.belowN H (fun _ hx => List.mem_cons_of_mem _ (hz21 _ hx))⟩)
  · skip
    refine wp_seq (rg_seq FF24 MM24 [o_, w_ 3, o_, o_, o_, o_, o_, o_, o_] [7, 6, 5, 4, 0, 1, 35] (fun Kt => ¬ ((bsz (leV X)) > 0) ∧ Kt [(35, .bool false), (7, .int .i64 (bsz (leV X) : Nat)), (6, .int .i64 (0 : Nat)), (5, .pointer (some ⟨bp, 0, none⟩)), (4, .bool false), (0, .string (bs X)), (1, .int .i64 (n : Nat))] ((bp, .cells (#[nv ((leV X) ^ n) lv13] : Array Value) 27) :: O16)) (by kernel_rfl) (fun _ => by kernel_rfl) (⟨h4, fun ac30 wd30 FF30 MM30 => then_n ?_⟩))
    refine wp_cond_false (FF30.ev 0 rfl) ?_
    by_cases h5 : bsz (leV X) > 1
    · skip
      refine wp_seq (rg_seq FF30 MM30 [o_, w_ 2, o_, o_, w_ 3, o_, o_] [7, 6, 5, 4, 0, 1, 54] (fun Kt => (bsz (leV X)) > 1 ∧ ¬ (n > 300) ∧ Kt [(54, .bool false), (7, .int .i64 (bsz (leV X) : Nat)), (6, .int .i64 (0 : Nat)), (5, .pointer (some ⟨bp, 0, none⟩)), (4, .bool false), (0, .string (bs X)), (1, .int .i64 (n : Nat))] ((bp, .cells (#[nv ((leV X) ^ n) lv13] : Array Value) 27) :: O16)) (by kernel_rfl) (fun _ => by kernel_rfl) (⟨h5, (fun q => hs ⟨h5, q⟩), fun ac31 wd31 FF31 MM31 => then_n ?_⟩))
      refine wp_cond_false (FF31.ev 0 rfl) ?_
      refine wp_skip ?_
      refine inb_n ?_
      refine then_n ?_
      refine wp_seq (rg_seq FF31 MM31 [o_, w_ 2, o_, b_ 0, u_ 1 (.string (bs (decN ((leV X) ^ n)))), o_, t_ (.string (bs (minB (leV X)))), o_, t_ (.string (bs (minB ((leV X) ^ n)))), t_ (.string (bs (decN ((leV X) ^ n)))), w_ 2, o_, o_, u_ 1 (.bool true), o_, o_] [7, 6, 5, 4, 0, 1] (fun Kt => 0 = 0 ∧ bp = bp ∧ (#[nv ((leV X) ^ n) lv13] : Array Value).size = 1 ∧ CallP Tryd.prog 13 [.agg (#[nv ((leV X) ^ n) lv13] : Array Value)] ((bp, .cells (#[nv ((leV X) ^ n) lv13] : Array Value) 27) :: O16) (.string (bs (decN ((leV X) ^ n)))) ∧ CallP Tryd.prog 10 [.string (bs X)] [] (.string (bs (minB (leV X)))) ∧ CallP Tryd.prog 29 [.string (bs (minB (leV X))), .int .i64 (n : Nat)] [] (.string (bs (minB ((leV X) ^ n)))) ∧ CallP Tryd.prog 14 [.string (bs (minB ((leV X) ^ n)))] [] (.string (bs (decN ((leV X) ^ n)))) ∧ bs (decN ((leV X) ^ n)) = bs (decN ((leV X) ^ n)) ∧ CallP Tryd.prog 8 [] ((bp, .cells (#[nv ((leV X) ^ n) lv13] : Array Value) 27) :: O16) (.bool true) ∧ Kt [(4, .bool true), (7, .int .i64 (bsz (leV X) : Nat)), (6, .int .i64 (0 : Nat)), (5, .pointer (some ⟨bp, 0, none⟩)), (0, .string (bs X)), (1, .int .i64 (n : Nat))] ((bp, .cells (#[nv ((leV X) ^ n) lv13] : Array Value) 27) :: O16)) (by kernel_rfl) (fun _ => by kernel_rfl) (⟨(by decide), rfl, rfl, ⟨en_ntext, fun w Hw => ntext_any ((leV X) ^ n) lv13 (pow_qsz hP) w (hT_20.at (Has.tl Hw)) ((hN18.get 0 rfl).at (Has.tl Hw))⟩, (callP_of en_rbytes (bytes_any X hX (by omega)) _), (callP_of en_rpow (pow8_any (leV X) n zN hn2 (small_of hs)) _), (callP_of en_rtext (text8_any ((leV X) ^ n) (sz_powers zN (small_of hs))) _), rfl, ⟨en_wakes, fun w Hw => wakes_w w (hT_20.at (Has.tl Hw))⟩, fun ac32 wd32 FF32 MM32 => then_n ?_⟩))
      refine wp_ret ?_
      repeat first | refine then_ret ?_ | refine inb_ret ?_
      exact (ret_fr FF32 0 Tryd.results5 rfl ⟨rfl, MM32.belowN H (fun _ hx => List.mem_cons_of_mem _ (hz21 _ hx))⟩)
    · skip
      refine wp_seq (rg_seq FF30 MM30 [o_, w_ 3, o_, o_, o_, o_, o_] [7, 6, 5, 4, 0, 1, 54] (fun Kt => ¬ ((bsz (leV X)) > 1) ∧ Kt [(54, .bool false), (7, .int .i64 (bsz (leV X) : Nat)), (6, .int .i64 (0 : Nat)), (5, .pointer (some ⟨bp, 0, none⟩)), (4, .bool false), (0, .string (bs X)), (1, .int .i64 (n : Nat))] ((bp, .cells (#[nv ((leV X) ^ n) lv13] : Array Value) 27) :: O16)) (by kernel_rfl) (fun _ => by kernel_rfl) (⟨h5, fun ac33 wd33 FF33 MM33 => then_n ?_⟩))
      refine wp_cond_false (FF33.ev 0 rfl) ?_
      refine wp_skip ?_
      refine inb_n ?_
      refine then_n ?_
      refine wp_seq (rg_seq FF33 MM33 [o_, w_ 2, o_, b_ 0, u_ 1 (.string (bs (decN ((leV X) ^ n)))), o_, t_ (.string (bs (minB (leV X)))), o_, t_ (.string (bs (minB ((leV X) ^ n)))), t_ (.string (bs (decN ((leV X) ^ n)))), w_ 2, o_, o_, u_ 1 (.bool true), o_, o_] [7, 6, 5, 4, 0, 1] (fun Kt => 0 = 0 ∧ bp = bp ∧ (#[nv ((leV X) ^ n) lv13] : Array Value).size = 1 ∧ CallP Tryd.prog 13 [.agg (#[nv ((leV X) ^ n) lv13] : Array Value)] ((bp, .cells (#[nv ((leV X) ^ n) lv13] : Array Value) 27) :: O16) (.string (bs (decN ((leV X) ^ n)))) ∧ CallP Tryd.prog 10 [.string (bs X)] [] (.string (bs (minB (leV X)))) ∧ CallP Tryd.prog 29 [.string (bs (minB (leV X))), .int .i64 (n : Nat)] [] (.string (bs (minB ((leV X) ^ n)))) ∧ CallP Tryd.prog 14 [.string (bs (minB ((leV X) ^ n)))] [] (.string (bs (decN ((leV X) ^ n)))) ∧ bs (decN ((leV X) ^ n)) = bs (decN ((leV X) ^ n)) ∧ CallP Tryd.prog 8 [] ((bp, .cells (#[nv ((leV X) ^ n) lv13] : Array Value) 27) :: O16) (.bool true) ∧ Kt [(4, .bool true), (7, .int .i64 (bsz (leV X) : Nat)), (6, .int .i64 (0 : Nat)), (5, .pointer (some ⟨bp, 0, none⟩)), (0, .string (bs X)), (1, .int .i64 (n : Nat))] ((bp, .cells (#[nv ((leV X) ^ n) lv13] : Array Value) 27) :: O16)) (by kernel_rfl) (fun _ => by kernel_rfl) (⟨(by decide), rfl, rfl, ⟨en_ntext, fun w Hw => ntext_any ((leV X) ^ n) lv13 (pow_qsz hP) w (hT_20.at (Has.tl Hw)) ((hN18.get 0 rfl).at (Has.tl Hw))⟩, (callP_of en_rbytes (bytes_any X hX (by omega)) _), (callP_of en_rpow (pow8_any (leV X) n zN hn2 (small_of hs)) _), (callP_of en_rtext (text8_any ((leV X) ^ n) (sz_powers zN (small_of hs))) _), rfl, ⟨en_wakes, fun w Hw => wakes_w w (hT_20.at (Has.tl Hw))⟩, fun ac34 wd34 FF34 MM34 => then_n ?_⟩))
      refine wp_ret ?_
      repeat first | refine then_ret ?_ | refine inb_ret ?_
      exact (ret_fr FF34 0 Tryd.results5 rfl ⟨rfl, MM34.belowN H (fun _ hx => List.mem_cons_of_mem _ (hz21 _ hx))⟩)

end Go.Proofs.YtcannnmpemnklaaDoor
namespace Go.Proofs.YtcannnmpemnklaaDoor
open Go.RowKit

def pw10 : List Nat := [1, 10, 100, 1000, 10000, 100000, 1000000, 10000000, 100000000, 1000000000, 10000000000, 100000000000, 1000000000000, 10000000000000, 100000000000000, 1000000000000000, 10000000000000000, 100000000000000000, 1000000000000000000, 10000000000000000000]
theorem pw10_at : ∀ i : Fin 20, pw10[i.val]? = some (10 ^ i.val) := by decide +kernel
theorem tab_in {w : World} {T : TypeId} {fr : Nat × Nat} (h : w.heap[2]? = some (.cells (cn .u64 pw10) T fr)) : TabIn w := .inr ⟨2, _, T, fr, rfl, h, fun j hj => by
  have := pw10_at ⟨j, hj⟩
  simp [cn, this]⟩

end Go.Proofs.YtcannnmpemnklaaDoor
namespace Go.Proofs.YtcannnmpemnklaaDoor
open Go.ChangeShapes Go.WideShapes Go.ChangeAt Go.RowKit

theorem Tryd.own : ownKnob Tryd.prog.godebug = Option.none := by kernel_rfl
theorem Tryd.laidOut : laidOutB Tryd.prog = true := by kernel_rfl

section
variable {H : Type} {enc : TypeId × Value → H} {P : Program}

theorem trodAll_below (hl : laidOutB P = true) {W W' : World} (hb : Below W.heap.size W W') : ∀ (ts : List TypeId) (vs : List Value) (ds : List (DataW H)) (ps : List MemPlace), (∀ t ∈ ts, P.readableRec t = true ∧ t < P.types.size) →
    DataW.TrodAll enc P W 0 (fun _ => true) true ts vs ds ps → (∀ x ∈ ps, x.block < W.heap.size) → DataW.TrodAll enc P W' 0 (fun b => decide (b < W.heap.size)) true ts vs ds ps
  | [], [], [], _, _, h, _ => h
  | t :: ts, v :: vs, d :: ds, ps, hr, ⟨p, q, h1, h2, e⟩, hlt => by
    subst e
    obtain ⟨r1, r2⟩ := hr t (by simp)
    exact ⟨p, q, Below.trod hl r1 r2 h1 hb (fun x hx => hlt x (by simp [hx])), trodAll_below hl hb ts vs ds q (fun t ht => hr t (by simp [ht])) h2 (fun x hx => hlt x (by simp [hx])), rfl⟩
  | [], [], _ :: _, _, _, h, _ => h.elim
  | [], _ :: _, _, _, _, h, _ => by cases h
  | _ :: _, [], _, _, _, h, _ => by cases h
  | _ :: _, _ :: _, [], _, _, h, _ => h.elim

/-- What is asked behind a law's walk. -/
theorem post_true {f : Func} {s : ChangeSpec} {W W' : World} {args : Array Value} {ds : List (DataW H)} {before : List MemPlace} {T : TypeId} (hl : laidOutB P = true) (hr : ∀ t ∈ f.params.toList, P.readableRec t = true ∧ t < P.types.size) (hv : s.vars = [])
    (hW : DataW.Whole enc P f.params.toList s.vars false W args.toList ds [] before) (hres : (s.fn H (ds ++ [])).results = [.lit (.bool true)]) (hargs : (s.fn H (ds ++ [])).args = ds) (hvs : (s.fn H (ds ++ [])).vars = [])
    (hT : f.resultTypes = #[T]) (hu : P.underlying T = some .bool) (hb : Below W.heap.size W W') : s.post enc P f false true false false W args (.bool true) W' := by
  have hlt := hW.lt
  have hW' := hW
  obtain ⟨p, q, hA, hV, rfl, _, _⟩ := hW'
  refine ⟨ds, [], p ++ q, [], p, [], hW, ?_, ?_, ?_, hb.frame _, fun h => by cases h⟩
  · rw [hres, hT]
    exact trodAll_cons_mk (shut_bool hu _) rfl
  · rw [hargs]
    exact trodAll_below hl hb _ _ _ _ hr hA (fun x hx => hlt x (by simp [hx]))
  · rw [hvs, hv]
    exact rfl

theorem okWide_arr {w : World} {r : Reach} {base : Nat} {t : TypeId} {v : Value} {n : Nat} {e : TypeId} (ht : P.underlying t = some (.array n e)) (h : Value.okWide P w r base t v) : ∃ cs, v = .agg cs ∧ cs.size = P.cellsOf t := by
  simp only [Value.okWide, ht] at h
  obtain ⟨cs, h1, h2, _⟩ := h
  exact ⟨cs, h1, h2⟩
end

section
variable {H : Type} {enc : TypeId × Value → H} {P : Program}
/-- Bytes that come in within something greater. -/
theorem bytes_in {W : World} {base' : Nat} {spare : Nat → Bool} {held : Bool} {fuel n : Nat} {t e : TypeId} {L : List Value} {x : DataW H × List MemPlace} (hu : P.underlying t = some (.array n e)) (he : P.underlying e = some (.int .u8)) (hc : P.cellsOf e = 1) (hf : DataW.trod enc P W base' spare held fuel t L = some x) :
    ∃ ks : List Nat, Bytes n ks ∧ ∀ (j : Nat) (v : Value), (cn .u8 ks)[j]? = some v → L[j]? = some v := by
  obtain ⟨xs, m, _, _, _, hl, hel⟩ := DataW.trod_array hu hf
  rw [hc] at hel
  have key : ∀ i, i < n → ∃ k : Nat, L[i]? = some (.int .u8 (k : Int)) ∧ k < 256 := fun i hi => by
    have h1 := hel i hi
    have h2 : xs[i]? = some (xs[i]'(by omega)) := by simp
    rw [h2] at h1
    obtain ⟨k, e, _, wf⟩ := DataW.trod_int he h1
    obtain ⟨b0, b1⟩ := bounds_u8 wf
    obtain ⟨k, rfl⟩ := Int.eq_ofNat_of_zero_le b0
    refine ⟨k, ?_, by omega⟩
    rw [Nat.mul_one] at e
    have h3 := congrArg (fun l => l[0]?) e
    simpa using h3
  have hk : ∃ f : Nat → Nat, ∀ i, i < n → L[i]? = some (.int .u8 (f i : Int)) ∧ f i < 256 :=
    ⟨fun i => if h : i < n then (key i h).choose else 0, fun i hi => by simp only [hi, dif_pos]; exact (key i hi).choose_spec⟩
  obtain ⟨f, hf⟩ := hk
  refine ⟨(List.range n).map f, ⟨by simp, fun i => ?_⟩, fun j v hv => ?_⟩
  · rcases Nat.lt_or_ge i n with h | h
    · simp [h]; exact (hf i h).2
    · simp [h]
  · rcases Nat.lt_or_ge j n with h | h
    · rw [(hf j h).1, ← hv, cn_get _ _ _ (by simpa using h)]; simp [h]
    · rw [Array.getElem?_eq_none (by rw [cn_size]; simpa using h)] at hv; cases hv
theorem part_in {ks : List Nat} {cs : Array Value} {k off : Nat} (h : ∀ (j : Nat) (v : Value), (cn .u8 ks)[j]? = some v → (List.take k (List.drop off (Value.agg cs).cells.toList))[j]? = some v) : ∀ (j : Nat) (v : Value), (cn .u8 ks)[j]? = some v → cs[off + j]? = some v := fun j v hv => by
  have := h j v hv
  rw [List.getElem?_take] at this
  split at this
  · simpa [Value.cells] using this
  · cases this
/-- An array of bytes that comes in alone. -/
theorem open_bytes {W : World} {r : Reach} {base base' : Nat} {spare : Nat → Bool} {held : Bool} {v : Value} {d : DataW H} {p : List MemPlace} {t e : TypeId} {n : Nat} (hu : P.underlying t = some (.array n e)) (he : P.underlying e = some (.int .u8)) (hc : P.cellsOf e = 1) (ht : P.cellsOf t = n)
    (hv : Value.okWide P W r base t v) (h : DataW.Trod enc P W base' spare held t v d p) : ∃ ks : List Nat, Bytes n ks ∧ v = .agg (cn .u8 ks) := by
  obtain ⟨cs, rfl, hsz⟩ := okWide_arr hu hv
  rw [ht] at hsz
  obtain ⟨fuel, hf⟩ := h
  obtain ⟨ks, bk, pk⟩ := bytes_in hu he hc hf
  refine ⟨ks, bk, ?_⟩
  congr 1
  refine Array.ext_getElem? fun i => ?_
  rcases Nat.lt_or_ge i n with hi | hi
  · have h1 := cn_get .u8 ks i (by rw [bk.len]; exact hi)
    have h2 := pk i _ h1
    rw [h1]
    simpa [Value.cells] using h2
  · rw [Array.getElem?_eq_none (by omega), Array.getElem?_eq_none (by rw [cn_size, bk.len]; exact hi)]
/-- An array of strings that comes in alone. -/
theorem open_strs {W : World} {r : Reach} {base base' : Nat} {spare : Nat → Bool} {held : Bool} {v : Value} {d : DataW H} {p : List MemPlace} {t e : TypeId} {n : Nat} (hu : P.underlying t = some (.array n e)) (he : P.underlying e = some .string) (hc : P.cellsOf e = 1) (ht : P.cellsOf t = n)
    (hv : Value.okWide P W r base t v) (h : DataW.Trod enc P W base' spare held t v d p) : ∃ Ts : List (List Nat), Ts.length = n ∧ (∀ X ∈ Ts, (∀ i, X.getD i 0 < 256) ∧ X.length ≤ maxLen) ∧ v = .agg (Ts.map fun X => Value.string (bs X)).toArray := by
  obtain ⟨cs, rfl, hsz⟩ := okWide_arr hu hv
  rw [ht] at hsz
  obtain ⟨fuel, hf⟩ := h
  obtain ⟨xs, m, _, _, _, hl, hel⟩ := DataW.trod_array hu hf
  rw [hc] at hel
  have key : ∀ i, i < n → ∃ s : ByteArray, cs[i]? = some (.string s) ∧ s.size ≤ maxLen := fun i hi => by
    have h1 := hel i hi
    have h2 : xs[i]? = some (xs[i]'(by omega)) := by simp
    rw [h2] at h1
    obtain ⟨s, e, _, hm⟩ := DataW.trod_string he h1
    refine ⟨s, ?_, hm⟩
    rw [Nat.mul_one] at e
    have h3 := congrArg (fun l => l[0]?) e
    simpa [Value.cells] using h3
  have hk : ∃ f : Nat → ByteArray, ∀ i, i < n → cs[i]? = some (.string (f i)) ∧ (f i).size ≤ maxLen :=
    ⟨fun i => if h : i < n then (key i h).choose else ByteArray.empty, fun i hi => by simp only [hi, dif_pos]; exact (key i hi).choose_spec⟩
  obtain ⟨f, hf⟩ := hk
  refine ⟨(List.range n).map fun i => nl (f i), by simp, fun X hX => ?_, ?_⟩
  · obtain ⟨i, hi, rfl⟩ := List.mem_map.1 hX
    exact ⟨nl_lt _, by rw [nl_len]; exact (hf i (by simpa using hi)).2⟩
  · congr 1
    refine Array.ext_getElem? fun i => ?_
    rcases Nat.lt_or_ge i n with hi | hi
    · rw [(hf i hi).1]; simp [hi, bs_nl]
    · rw [Array.getElem?_eq_none (by omega), Array.getElem?_eq_none (by simp; omega)]
end
end Go.Proofs.YtcannnmpemnklaaDoor
namespace Go.Proofs.YtcannnmpemnklaaDoor
open Go.ChangeShapes Go.WideShapes Go.ChangeAt Go.RowKit
section
variable {P : Program} {H : Type} {enc : TypeId × Value → H} {W : World} {r : Reach} {base base' : Nat} {spare : Nat → Bool} {held : Bool}
theorem strs_cells {t e : TypeId} {fuel : Nat} {cs0 : List Value} {x : DataW H × List MemPlace} (ht : P.underlying t = some (.slice e)) (he : P.underlying e = some .string) (hc : P.cellsOf e = 1) (hf : DataW.trod enc P W base' spare held fuel t cs0 = some x) :
    ∃ (q : Option Addr) (Ps : List (List Nat)) (c : Nat), cs0 = [.slice q Ps.length c] ∧ (∀ X ∈ Ps, ∀ i, X.getD i 0 < 256) ∧ StrsIn W q Ps ∧ Ps.length ≤ maxLen := by
  rcases Go.ChangeShapes.open_strings ht he hc hf with ⟨e, _⟩ | ⟨a, n, cap, ss, e, hb, hl, hm, hss, hx, hcell, hmax⟩
  · exact ⟨none, [], 0, e, fun X hX => (nomatch hX), .inl rfl, Nat.zero_le _⟩
  · rcases Nat.eq_zero_or_pos n with rfl | hn
    · exact ⟨some a, [], cap, e, fun X hX => (nomatch hX), .inl rfl, Nat.zero_le _⟩
    · have hle : n ≤ ss.length := by rw [hss]; split <;> omega
      have h0 := hcell 0 (by omega)
      rw [show a.add 0 = a from rfl] at h0
      have hsp : a.spot = none ∧ ∃ cs T9 fr, W.heap[a.block]? = some (.cells cs T9 fr) := by
        unfold World.cell? at h0
        split at h0
        · rename_i cs T9 fr hblk
          split at h0
          · cases h0
          · rename_i hs
            exact ⟨by cases hq : a.spot with | none => rfl | some x => (rw [hq] at hs; simp at hs), cs, T9, fr, hblk⟩
        · cases h0
      obtain ⟨hs, cs, T9, fr, hblk⟩ := hsp
      obtain ⟨ab, ao, asp⟩ := a
      simp only at hs hblk
      subst hs
      have hlen : ((ss.take n).map nl).length = n := by simp; omega
      refine ⟨some ⟨ab, ao, none⟩, (ss.take n).map nl, cap, by rw [e, hlen], fun X hX => ?_, .inr ⟨ab, ao, cs, T9, fr, rfl, hblk, fun j hj => ?_⟩, by omega⟩
      · obtain ⟨s, _, rfl⟩ := List.mem_map.1 hX
        exact nl_lt s
      · rw [hlen] at hj
        have := hcell j (by omega)
        rw [add_off, cell_of hblk] at this
        rw [this]
        congr 1
        rw [List.getD_eq_getElem?_getD, List.getD_eq_getElem?_getD, List.getElem?_map, List.getElem?_take, if_pos hj, List.getElem?_eq_getElem (show j < ss.length by omega)]
        simp [bs_nl]
theorem strs_param {t e : TypeId} {v : Value} {d : DataW H} {p : List MemPlace} (ht : P.underlying t = some (.slice e)) (he : P.underlying e = some .string) (hc : P.cellsOf e = 1) (hv : Value.okWide P W r base t v) (h : DataW.Trod enc P W base' spare held t v d p) :
    ∃ (q : Option Addr) (Ps : List (List Nat)) (c : Nat), v = .slice q Ps.length c ∧ (∀ X ∈ Ps, ∀ i, X.getD i 0 < 256) ∧ StrsIn W q Ps ∧ Ps.length ≤ maxLen := by
  obtain ⟨q, n, c, rfl⟩ := okWide_slice ht hv
  obtain ⟨fuel, hf⟩ := h
  obtain ⟨q', Ps, c', e, h1, h2, h3⟩ := strs_cells ht he hc hf
  exact ⟨q', Ps, c', by simpa [Value.cells] using e, h1, h2, h3⟩
end
end Go.Proofs.YtcannnmpemnklaaDoor
namespace Go.Proofs.YtcannnmpemnklaaDoor
open Go.RowKit

theorem laid_mem {P : Program} {W : World} : ∀ (laid : List (String × DataW Unit)) (ps : List MemPlace), DataW.LaidVars P W laid ps → ∀ x ∈ laid, ∃ g t cs fuel p, P.globalNamed x.1 = some g ∧ (P.globals[g]?).map (·.type) = some t ∧ W.var? P x.1 = some cs ∧ DataW.trod (fun _ => ()) P W 0 (fun _ => true) false fuel t cs.toList = some (x.2, p)
  | [], _, _, _, hx => by cases hx
  | (n, d) :: r, ps, h, x, hx => by
    obtain ⟨g, t, cs, fuel, p, q, h1, h2, h3, h4, h5, _⟩ := h
    rcases List.mem_cons.1 hx with rfl | hx
    · exact ⟨g, t, cs, fuel, p, h1, h2, h3, h4⟩
    · exact laid_mem r q h5 x hx
/-- A table of numbers that is laid lies in its block. -/
theorem tab_of {P : Program} {W : World} {laid : List (String × DataW Unit)} {n : String} {D : DataW Unit} {g : Nat} {t e : TypeId} {m : Nat} {k : IntKind} {K : List Nat} (h : laidMetH P laid W) (hH : (laid.all fun x => x.2.handleName?.isNone) = true) (hx : (n, D) ∈ laid)
    (hg : P.globalNamed n = some g) (ht : (P.globals[g]?).map (·.type) = some t) (hu : P.underlying t = some (.array m e)) (he : P.underlying e = some (.int k)) (hc : P.cellsOf e = 1) (hct : P.cellsOf t = m) (hD : D = .agg (K.map fun (x : Nat) => .lit (.int k (x : Int)))) (hK : K.length = m) :
    ∃ T fr, W.heap[g]? = some (.cells (cn k K) T fr) := by
  rw [MakeChecks.laidMetH_plain _ _ _ hH] at h
  obtain ⟨ps, hl, _⟩ := h
  obtain ⟨g', t', cs, fuel, p, h1, h2, h3, h4⟩ := laid_mem laid ps hl _ hx
  obtain rfl := Option.some.inj (hg.symm.trans h1)
  obtain rfl := Option.some.inj (ht.symm.trans h2)
  have hb : ∃ T fr, W.heap[g]? = some (.cells cs T fr) := by
    simp only [World.var?, hg, Option.bind_some] at h3
    split at h3
    · rename_i c T fr hb
      cases h3
      exact ⟨T, fr, hb⟩
    · cases h3
  obtain ⟨T, fr, hb⟩ := hb
  refine ⟨T, fr, ?_⟩
  rw [hb]
  obtain ⟨xs, m1, _, hx1, hlen, hn, hel⟩ := DataW.trod_array hu h4
  have hx2 : D = .agg (xs.map fun x => x.1) := (Prod.mk.inj hx1).1
  rw [hD] at hx2
  have hx3 : (K.map fun (x : Nat) => (DataW.lit (.int k (x : Int)) : DataW Unit)) = xs.map fun x => x.1 := by injection hx2
  have hcs : cs = cn k K := by
    refine Array.ext_getElem? fun i => ?_
    rcases Nat.lt_or_ge i m with hi | hi
    · have e1 := hel i hi
      have e2 : xs[i]? = some (xs[i]'(by omega)) := by simp
      rw [e2, hc] at e1
      obtain ⟨z, e3, e4, _⟩ := DataW.trod_int he e1
      have e5 := congrArg (fun l => l[i]?) hx3
      simp only [List.getElem?_map, e2, e4, List.getElem?_eq_getElem (show i < K.length by omega), Option.map_some, Option.some.injEq, DataW.lit.injEq, Lit.int.injEq] at e5
      have e6 := congrArg (fun l => l[0]?) e3
      rw [Nat.mul_one] at e6
      have e7 : cs[i]? = some (.int k z) := by simpa using e6
      rw [e7, cn_get k K i (by omega), ← e5.2]
      simp [show i < K.length by omega]
    · rw [Array.getElem?_eq_none (by rw [← Array.length_toList, hlen, hct]; exact hi), Array.getElem?_eq_none (by rw [cn_size, hK]; exact hi)]
  rw [hcs]
end Go.Proofs.YtcannnmpemnklaaDoor
