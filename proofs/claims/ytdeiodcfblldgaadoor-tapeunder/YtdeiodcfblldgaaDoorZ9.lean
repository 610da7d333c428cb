/- Several texts in one: The law TapeUnder. The table of the powers of ten, as the text lays it. From a walk to a row: a law that returns true and writes nothing that was there; arrays of bytes that come in. A row of texts that comes in. Package-level tables of numbers: what the row says that they hold, as a block. -/
import Derived.Test.YtdeiodcfblldgaaDoorZ8
import Derived.Test.YtdeiodcfblldgaaDoorZ5
import Derived.Test.YtdeiodcfblldgaaDoorRows
import Derived.WalkKit
import Derived.Test.YtdeiodcfblldgaaDoorZ1
import Derived.Below
import Derived.ProofKit
import Derived.OpenShut
import Derived.ChangeOld
import Derived.Test.YtdeiodcfblldgaaDoorZ3
import Derived.SliceStrings
import Derived.MakeChecks
import Derived.LaidMore
import Derived.LaidHandle
import Derived.Stop.Joined
namespace Go.Proofs.YtdeiodcfblldgaaDoor
open Go.RowKit

theorem leV_40 {X : List Nat} (hX : ∀ i, X.getD i 0 < 256) (h : X.length ≤ 40) : bsz (leV X) ≤ 320 := bsz_le (Nat.lt_of_lt_of_le (leV_lt X hX) (Nat.le_trans (Nat.pow_le_pow_right (by decide) h) (by decide +kernel)))
set_option maxRecDepth 100000 in
theorem under_zero (O : Blks) (hD : Distinct O) (hT : TabO O) (X Y : List Nat) (hY : ∀ i, Y.getD i 0 < 256) (z : Int) (hz1 : -9223372036854775808 ≤ z) (hz2 : z < 9223372036854775808) (k : Nat) (hk : 1 + modZ z 16 = k) (h0 : bsz (leV Y) < 1) (w0 : World) (H : Has w0 O) :
    Calls Tryd.prog 5 #[.string (bs X), .string (bs Y), .int .i64 z] w0 fun e w' => e = .returned (.bool true) ∧ Below w0.heap.size w0 w' := by
  refine enter_fr Tryd.func5 rfl Tryd.ntmps5 (by simp) fun ac (FF : Fr 100 ac [(0, .string (bs X)), (1, .string (bs Y)), (2, .int .i64 (z : Int))]) => ?_
  have MM : MemS (fun k => k < w0.heap.size ∧ ∀ x ∈ O, x.1 ≠ k) w0 w0 O [] := MemS.startN H hD
  refine wp_seq (rg_seq FF MM [o_] [0, 1, 2, 6] (fun Kt => Kt [(6, .bool false), (0, .string (bs X)), (1, .string (bs Y)), (2, .int .i64 (z : Int))] O) (by kernel_rfl) (fun _ => by kernel_rfl) (fun ac1 wd1 FF1 MM1 => then_n ?_))
  refine wp_seq ?_
  by_cases h1 : X.length > 500
  · skip
    refine wp_seq (rg_seq FF1 MM1 [o_, t_ (.int .i64 (X.length : Nat)), w_ 2, o_, o_, o_, o_, o_] [6, 0, 1, 2, 20] (fun Kt => Value.int .i64 ((bs X).size : Nat) = .int .i64 (X.length : Nat) ∧ X.length > 500 ∧ Kt [(20, .bool true), (6, .bool false), (0, .string (bs X)), (1, .string (bs Y)), (2, .int .i64 (z : Int))] O) (by kernel_rfl) (fun _ => by kernel_rfl) (⟨(vI (bs_size _)), h1, fun ac2 wd2 FF2 MM2 => then_n ?_⟩))
    refine wp_cond_true (FF2.ev 0 rfl) ?_
    refine wp_seq (rg_seq FF2 MM2 [u_ 1 (.bool true), o_] [6, 0, 1, 2] (fun Kt => CallP Tryd.prog 9 [] O (.bool true) ∧ Kt [(6, .bool true), (0, .string (bs X)), (1, .string (bs Y)), (2, .int .i64 (z : Int))] O) (by kernel_rfl) (fun _ => by kernel_rfl) (⟨⟨en_wakes, fun w Hw => wakes_w w (hT.at Hw)⟩, fun ac3 wd3 FF3 MM3 => then_n ?_⟩))
    refine wp_ret ?_
    repeat first | refine then_ret ?_ | refine inb_ret ?_
    exact (ret_fr FF3 0 Tryd.results5 rfl ⟨rfl, MM3.belowN H (fun _ hx => hx)⟩)
  · by_cases h2 : Y.length > 40
    · skip
      refine wp_seq (rg_seq FF1 MM1 [o_, t_ (.int .i64 (X.length : Nat)), w_ 3, o_, o_, t_ (.int .i64 (Y.length : Nat)), w_ 2, o_] [6, 0, 1, 2, 20] (fun Kt => Value.int .i64 ((bs X).size : Nat) = .int .i64 (X.length : Nat) ∧ ¬ (X.length > 500) ∧ Value.int .i64 ((bs Y).size : Nat) = .int .i64 (Y.length : Nat) ∧ Y.length > 40 ∧ Kt [(20, .bool true), (6, .bool false), (0, .string (bs X)), (1, .string (bs Y)), (2, .int .i64 (z : Int))] O) (by kernel_rfl) (fun _ => by kernel_rfl) (⟨(vI (bs_size _)), h1, (vI (bs_size _)), h2, fun ac4 wd4 FF4 MM4 => then_n ?_⟩))
      refine wp_cond_true (FF4.ev 0 rfl) ?_
      refine wp_seq (rg_seq FF4 MM4 [u_ 1 (.bool true), o_] [6, 0, 1, 2] (fun Kt => CallP Tryd.prog 9 [] O (.bool true) ∧ Kt [(6, .bool true), (0, .string (bs X)), (1, .string (bs Y)), (2, .int .i64 (z : Int))] O) (by kernel_rfl) (fun _ => by kernel_rfl) (⟨⟨en_wakes, fun w Hw => wakes_w w (hT.at Hw)⟩, fun ac5 wd5 FF5 MM5 => then_n ?_⟩))
      refine wp_ret ?_
      repeat first | refine then_ret ?_ | refine inb_ret ?_
      exact (ret_fr FF5 0 Tryd.results5 rfl ⟨rfl, MM5.belowN H (fun _ hx => hx)⟩)
    · skip
      refine wp_seq (rg_seq FF1 MM1 [o_, t_ (.int .i64 (X.length : Nat)), w_ 3, o_, o_, t_ (.int .i64 (Y.length : Nat)), w_ 3, o_] [6, 0, 1, 2, 20] (fun Kt => Value.int .i64 ((bs X).size : Nat) = .int .i64 (X.length : Nat) ∧ ¬ (X.length > 500) ∧ Value.int .i64 ((bs Y).size : Nat) = .int .i64 (Y.length : Nat) ∧ ¬ (Y.length > 40) ∧ Kt [(20, .bool false), (6, .bool false), (0, .string (bs X)), (1, .string (bs Y)), (2, .int .i64 (z : Int))] O) (by kernel_rfl) (fun _ => by kernel_rfl) (⟨(vI (bs_size _)), h1, (vI (bs_size _)), h2, fun ac6 wd6 FF6 MM6 => then_n ?_⟩))
      refine wp_cond_false (FF6.ev 0 rfl) ?_
      refine wp_skip ?_
      refine then_n ?_
      have hq := qok (leV_100 hY (by omega))
      have hbb := leV_40 hY (by omega)
      have hs41 : (bsz (leV Y) + 7) / 8 ≤ 41 := by omega
      have hkb : 1 ≤ k ∧ k ≤ 16 := by have := modZ_lt z (m := 16) (by decide); omega
      refine wp_seq (wp_region_list ?_)
      refine rg_part 1 FF6 MM6 [o_] [6, 0, 1, 2, 22] (fun Kt => Kt [(22, .string (bs X)), (6, .bool false), (0, .string (bs X)), (1, .string (bs Y)), (2, .int .i64 (z : Int))] O) (by kernel_rfl) (fun _ => by kernel_rfl) (fun ac7 wd7 FF7 MM7 => ?_)
      refine st_callE [6, 0, 1, 2, 23] FF7 (d := 23) (mk := fun v => v) en_tnew rfl rfl (tnew_any X _) rfl (by kernel_rfl) (by decide) fun ac9 wd9 lv8 (FF9 : Fr 100 ac9 [(23, lv8), (6, .bool false), (0, .string (bs X)), (1, .string (bs Y)), (2, .int .i64 (z : Int))]) hr10 => ?_
      obtain ⟨gt, rfl, hB_gt, hf_gt, hb_gt⟩ := hr10
      have MM11 := MM7.keep hB_gt
      have MM12 : MemS (fun k => k < w0.heap.size ∧ ∀ x ∈ O, x.1 ≠ k) w0 wd9 ((gt, .cells (#[.string (bs X), .int .i64 (0 : Nat)] : Array Value) 73) :: O) [] := MM7.addFresh MM11 hb_gt hf_gt
      refine rg_part 1 FF9 MM12 [o_] [6, 0, 1, 2, 7] (fun Kt => Kt [(7, .pointer (some ⟨gt, 0, none⟩)), (6, .bool false), (0, .string (bs X)), (1, .string (bs Y)), (2, .int .i64 (z : Int))] ((gt, .cells (#[.string (bs X), .int .i64 (0 : Nat)] : Array Value) 73) :: O)) (by kernel_rfl) (fun _ => by kernel_rfl) (fun ac13 wd13 FF13 MM13 => ?_)
      refine wpl_nil (then_n ?_)
      refine wp_seq (wp_region_list ?_)
      refine rg_part 1 FF13 MM13 [o_] [7, 6, 0, 1, 2, 24] (fun Kt => Kt [(24, .string (bs Y)), (7, .pointer (some ⟨gt, 0, none⟩)), (6, .bool false), (0, .string (bs X)), (1, .string (bs Y)), (2, .int .i64 (z : Int))] ((gt, .cells (#[.string (bs X), .int .i64 (0 : Nat)] : Array Value) 73) :: O)) (by kernel_rfl) (fun _ => by kernel_rfl) (fun ac14 wd14 FF14 MM14 => ?_)
      refine st_callE [7, 6, 0, 1, 2, 25] FF14 (d := 25) (mk := fun v => .agg #[nv (leV Y) v]) en_nbytes rfl rfl (nbytes_any Y hY (by omega) _) rfl (by kernel_rfl) (by decide) fun ac16 wd16 lv15 (FF16 : Fr 100 ac16 [(25, .agg (#[nv (leV Y) lv15] : Array Value)), (7, .pointer (some ⟨gt, 0, none⟩)), (6, .bool false), (0, .string (bs X)), (1, .string (bs Y)), (2, .int .i64 (z : Int))]) hr17 => ?_
      obtain ⟨O18, MM190, hN20, hs21⟩ := MemS.addNats (K := [(gt, .cells (#[.string (bs X), .int .i64 (0 : Nat)] : Array Value) 73)]) (O := O) MM14 hr17.1 hr17.2 (Nats.nil O)
      have MM19 : MemS (fun k => k < w0.heap.size ∧ ∀ x ∈ O, x.1 ≠ k) w0 wd16 ((gt, .cells (#[.string (bs X), .int .i64 (0 : Nat)] : Array Value) 73) :: O18) [] := MM190
      have hT_22 := hT.mono hs21
      refine rg_part 2 FF16 MM19 [o_, b_ 0] [7, 6, 0, 1, 2, 8] (fun Kt => ∀ bb, bb = bb ∧ (#[.slice none 0 0] : Array Value).size = 1 ∧ (#[nv (leV Y) lv15] : Array Value).size = 1 ∧ (#[nv (leV Y) lv15] : Array Value).all (·.oneCell') = true ∧ (0, 0).2 = 0 ∧ Kt [(8, .pointer (some ⟨bb, 0, none⟩)), (7, .pointer (some ⟨gt, 0, none⟩)), (6, .bool false), (0, .string (bs X)), (1, .string (bs Y)), (2, .int .i64 (z : Int))] ((bb, .cells (#[nv (leV Y) lv15] : Array Value) 49) :: (gt, .cells (#[.string (bs X), .int .i64 (0 : Nat)] : Array Value) 73) :: O18)) (by kernel_rfl) (fun _ => by kernel_rfl) (fun bb => ⟨rfl, rfl, rfl, (by kernel_rfl), rfl, fun ac23 wd23 FF23 MM23 => ?_⟩)
      refine wpl_nil (then_n ?_)
      refine wp_seq (rg_seq FF23 MM23 [o_, t_ (.int .i64 (modZ z 16 : Nat)), t_ (.int .i64 (k : Nat)), o_] [8, 7, 6, 0, 1, 9] (fun Kt => CallP Tryd.prog 25 [.int .i64 (z : Int), .int .i64 (16 : Nat)] [] (.int .i64 (modZ z 16 : Nat)) ∧ 1 + (modZ z 16) < 9223372036854775808 ∧ Value.int .i64 (1 + (modZ z 16) : Nat) = .int .i64 (k : Nat) ∧ Kt [(9, .int .i64 (k : Nat)), (8, .pointer (some ⟨bb, 0, none⟩)), (7, .pointer (some ⟨gt, 0, none⟩)), (6, .bool false), (0, .string (bs X)), (1, .string (bs Y))] ((bb, .cells (#[nv (leV Y) lv15] : Array Value) 49) :: (gt, .cells (#[.string (bs X), .int .i64 (0 : Nat)] : Array Value) 73) :: O18)) (by kernel_rfl) (fun _ => by kernel_rfl) (⟨(callP_of en_kmod (kmod_any z 16 hz1 hz2 (by decide) (by decide)) _), (by have := modZ_lt z (m := 16) (by decide); omega), (vI hk), fun ac24 wd24 FF24 MM24 => then_n ?_⟩))
      refine wp_seq (rg_seq FF24 MM24 [o_, b_ 0, o_, u_ 1 (.tuple #[.agg (#[.slice none 0 0] : Array Value), .int .i64 (1 : Nat)]), o_, o_, o_, o_, b_ 0, o_] [9, 8, 7, 6, 0, 1, 10, 11] (fun Kt => bb = bb ∧ (#[nv (leV Y) lv15] : Array Value).size = 1 ∧ CallP Tryd.prog 19 [.pointer (some ⟨gt, 0, none⟩), .agg (#[nv (leV Y) lv15] : Array Value), .int .i64 (k : Nat)] ((bb, .cells (#[nv (leV Y) lv15] : Array Value) 49) :: (gt, .cells (#[.string (bs X), .int .i64 (0 : Nat)] : Array Value) 73) :: O18) (.tuple #[.agg (#[.slice none 0 0] : Array Value), .int .i64 (1 : Nat)]) ∧ ∀ ba, ba = ba ∧ (#[.slice none 0 0] : Array Value).size = 1 ∧ (#[.slice none 0 0] : Array Value).size = 1 ∧ (#[.slice none 0 0] : Array Value).all (·.oneCell') = true ∧ (0, 0).2 = 0 ∧ Kt [(11, .int .i64 (1 : Nat)), (10, .pointer (some ⟨ba, 0, none⟩)), (9, .int .i64 (k : Nat)), (8, .pointer (some ⟨bb, 0, none⟩)), (7, .pointer (some ⟨gt, 0, none⟩)), (6, .bool false), (0, .string (bs X)), (1, .string (bs Y))] ((ba, .cells (#[.slice none 0 0] : Array Value) 49) :: (bb, .cells (#[nv (leV Y) lv15] : Array Value) 49) :: (gt, .cells (#[.string (bs X), .int .i64 (0 : Nat)] : Array Value) 73) :: O18)) (by kernel_rfl) (fun _ => by kernel_rfl) (⟨rfl, rfl, ⟨en_tunder, fun w Hw => tunder_zero gt (leV Y) lv15 hq ((k : Nat) : Int) h0 w ((hN20.get 0 rfl).at (Has.tl (Has.tl Hw)))⟩, fun ba => ⟨rfl, rfl, rfl, (by kernel_rfl), rfl, fun ac25 wd25 FF25 MM25 => then_n ?_⟩⟩))
      refine wp_seq (rg_seq FF25 MM25 [b_ 1, u_ 1 (.int .i64 (bsz (leV Y) : Nat)), o_, o_, o_] [11, 10, 9, 8, 7, 6, 0, 1, 12] (fun Kt => bb = bb ∧ (#[nv (leV Y) lv15] : Array Value).size = 1 ∧ CallP Tryd.prog 26 [.agg (#[nv (leV Y) lv15] : Array Value)] ((ba, .cells (#[.slice none 0 0] : Array Value) 49) :: (bb, .cells (#[nv (leV Y) lv15] : Array Value) 49) :: (gt, .cells (#[.string (bs X), .int .i64 (0 : Nat)] : Array Value) 73) :: O18) (.int .i64 (bsz (leV Y) : Nat)) ∧ (bsz (leV Y)) + 7 < 9223372036854775808 ∧ 8 ≠ 0 ∧ ((bsz (leV Y)) + 7) / 8 < 9223372036854775808 ∧ Kt [(12, .int .i64 (((bsz (leV Y)) + 7) / 8 : Nat)), (11, .int .i64 (1 : Nat)), (10, .pointer (some ⟨ba, 0, none⟩)), (9, .int .i64 (k : Nat)), (8, .pointer (some ⟨bb, 0, none⟩)), (7, .pointer (some ⟨gt, 0, none⟩)), (6, .bool false), (0, .string (bs X)), (1, .string (bs Y))] ((ba, .cells (#[.slice none 0 0] : Array Value) 49) :: (bb, .cells (#[nv (leV Y) lv15] : Array Value) 49) :: (gt, .cells (#[.string (bs X), .int .i64 (0 : Nat)] : Array Value) 73) :: O18)) (by kernel_rfl) (fun _ => by kernel_rfl) (⟨rfl, rfl, ⟨en_nbits, fun w Hw => nbits_any (leV Y) lv15 hq w ((hN20.get 0 rfl).at (Has.tl (Has.tl (Has.tl Hw))))⟩, (by have := hbb; omega), (by decide), (by have := hbb; omega), fun ac26 wd26 FF26 MM26 => then_n ?_⟩))
      refine wp_seq ?_
      refine wp_seq (rg_seq FF26 MM26 [o_, w_ 2] [12, 11, 10, 9, 8, 7, 6, 0, 1, 41] (fun Kt => (((bsz (leV Y)) + 7) / 8) = 0 ∧ Kt [(41, .bool true), (12, .int .i64 (((bsz (leV Y)) + 7) / 8 : Nat)), (11, .int .i64 (1 : Nat)), (10, .pointer (some ⟨ba, 0, none⟩)), (9, .int .i64 (k : Nat)), (8, .pointer (some ⟨bb, 0, none⟩)), (7, .pointer (some ⟨gt, 0, none⟩)), (6, .bool false), (0, .string (bs X)), (1, .string (bs Y))] ((ba, .cells (#[.slice none 0 0] : Array Value) 49) :: (bb, .cells (#[nv (leV Y) lv15] : Array Value) 49) :: (gt, .cells (#[.string (bs X), .int .i64 (0 : Nat)] : Array Value) 73) :: O18)) (by kernel_rfl) (fun _ => by kernel_rfl) (⟨(by omega), fun ac27 wd27 FF27 MM27 => then_n ?_⟩))
      refine wp_cond_true (FF27.ev 0 rfl) ?_
      refine wp_seq (rg_seq FF27 MM27 [o_, w_ 2, o_, o_, u_ 1 (.int .i64 (0 : Nat)), w_ 2, o_, o_, u_ 1 (.bool true), o_, o_] [12, 11, 10, 9, 8, 7, 6, 0, 1] (fun Kt => 1 = 1 ∧ CallP Tryd.prog 24 [.pointer (some ⟨gt, 0, none⟩)] ((ba, .cells (#[.slice none 0 0] : Array Value) 49) :: (bb, .cells (#[nv (leV Y) lv15] : Array Value) 49) :: (gt, .cells (#[.string (bs X), .int .i64 (0 : Nat)] : Array Value) 73) :: O18) (.int .i64 (0 : Nat)) ∧ 0 = 0 ∧ CallP Tryd.prog 9 [] ((ba, .cells (#[.slice none 0 0] : Array Value) 49) :: (bb, .cells (#[nv (leV Y) lv15] : Array Value) 49) :: (gt, .cells (#[.string (bs X), .int .i64 (0 : Nat)] : Array Value) 73) :: O18) (.bool true) ∧ Kt [(6, .bool true), (12, .int .i64 (((bsz (leV Y)) + 7) / 8 : Nat)), (11, .int .i64 (1 : Nat)), (10, .pointer (some ⟨ba, 0, none⟩)), (9, .int .i64 (k : Nat)), (8, .pointer (some ⟨bb, 0, none⟩)), (7, .pointer (some ⟨gt, 0, none⟩)), (0, .string (bs X)), (1, .string (bs Y))] ((ba, .cells (#[.slice none 0 0] : Array Value) 49) :: (bb, .cells (#[nv (leV Y) lv15] : Array Value) 49) :: (gt, .cells (#[.string (bs X), .int .i64 (0 : Nat)] : Array Value) 73) :: O18)) (by kernel_rfl) (fun _ => by kernel_rfl) (⟨(by decide), ⟨en_tused, fun w Hw => tused_any gt X 0 w (Hw 2 _ rfl)⟩, (by decide), ⟨en_wakes, fun w Hw => wakes_w w (hT_22.at (Has.tl (Has.tl (Has.tl Hw))))⟩, fun ac28 wd28 FF28 MM28 => then_n ?_⟩))
      refine wp_ret ?_
      repeat first | refine then_ret ?_ | refine inb_ret ?_
      exact (ret_fr FF28 0 Tryd.results5 rfl ⟨rfl, MM28.belowN H (fun _ hx => List.mem_cons_of_mem _ (List.mem_cons_of_mem _ (List.mem_cons_of_mem _ (hs21 _ hx))))⟩)
set_option maxRecDepth 100000 in
theorem under_cap (O : Blks) (hD : Distinct O) (hT : TabO O) (X Y : List Nat) (hX : ∀ i, X.getD i 0 < 256) (hY : ∀ i, Y.getD i 0 < 256) (z : Int) (hz1 : -9223372036854775808 ≤ z) (hz2 : z < 9223372036854775808) (k : Nat) (hk : 1 + modZ z 16 = k) (h0 : 1 ≤ bsz (leV Y)) (hE : (undN (leV Y) (bsz (leV Y)) k X) = (0, 3, (bsz (leV Y) + 7) / 8 * k)) (w0 : World) (H : Has w0 O) :
    Calls Tryd.prog 5 #[.string (bs X), .string (bs Y), .int .i64 z] w0 fun e w' => e = .returned (.bool true) ∧ Below w0.heap.size w0 w' := by
  refine enter_fr Tryd.func5 rfl Tryd.ntmps5 (by simp) fun ac (FF : Fr 100 ac [(0, .string (bs X)), (1, .string (bs Y)), (2, .int .i64 (z : Int))]) => ?_
  have MM : MemS (fun k => k < w0.heap.size ∧ ∀ x ∈ O, x.1 ≠ k) w0 w0 O [] := MemS.startN H hD
  refine wp_seq (rg_seq FF MM [o_] [0, 1, 2, 6] (fun Kt => Kt [(6, .bool false), (0, .string (bs X)), (1, .string (bs Y)), (2, .int .i64 (z : Int))] O) (by kernel_rfl) (fun _ => by kernel_rfl) (fun ac1 wd1 FF1 MM1 => then_n ?_))
  refine wp_seq ?_
  by_cases h1 : X.length > 500
  · skip
    refine wp_seq (rg_seq FF1 MM1 [o_, t_ (.int .i64 (X.length : Nat)), w_ 2, o_, o_, o_, o_, o_] [6, 0, 1, 2, 20] (fun Kt => Value.int .i64 ((bs X).size : Nat) = .int .i64 (X.length : Nat) ∧ X.length > 500 ∧ Kt [(20, .bool true), (6, .bool false), (0, .string (bs X)), (1, .string (bs Y)), (2, .int .i64 (z : Int))] O) (by kernel_rfl) (fun _ => by kernel_rfl) (⟨(vI (bs_size _)), h1, fun ac2 wd2 FF2 MM2 => then_n ?_⟩))
    refine wp_cond_true (FF2.ev 0 rfl) ?_
    refine wp_seq (rg_seq FF2 MM2 [u_ 1 (.bool true), o_] [6, 0, 1, 2] (fun Kt => CallP Tryd.prog 9 [] O (.bool true) ∧ Kt [(6, .bool true), (0, .string (bs X)), (1, .string (bs Y)), (2, .int .i64 (z : Int))] O) (by kernel_rfl) (fun _ => by kernel_rfl) (⟨⟨en_wakes, fun w Hw => wakes_w w (hT.at Hw)⟩, fun ac3 wd3 FF3 MM3 => then_n ?_⟩))
    refine wp_ret ?_
    repeat first | refine then_ret ?_ | refine inb_ret ?_
    exact (ret_fr FF3 0 Tryd.results5 rfl ⟨rfl, MM3.belowN H (fun _ hx => hx)⟩)
  · by_cases h2 : Y.length > 40
    · skip
      refine wp_seq (rg_seq FF1 MM1 [o_, t_ (.int .i64 (X.length : Nat)), w_ 3, o_, o_, t_ (.int .i64 (Y.length : Nat)), w_ 2, o_] [6, 0, 1, 2, 20] (fun Kt => Value.int .i64 ((bs X).size : Nat) = .int .i64 (X.length : Nat) ∧ ¬ (X.length > 500) ∧ Value.int .i64 ((bs Y).size : Nat) = .int .i64 (Y.length : Nat) ∧ Y.length > 40 ∧ Kt [(20, .bool true), (6, .bool false), (0, .string (bs X)), (1, .string (bs Y)), (2, .int .i64 (z : Int))] O) (by kernel_rfl) (fun _ => by kernel_rfl) (⟨(vI (bs_size _)), h1, (vI (bs_size _)), h2, fun ac4 wd4 FF4 MM4 => then_n ?_⟩))
      refine wp_cond_true (FF4.ev 0 rfl) ?_
      refine wp_seq (rg_seq FF4 MM4 [u_ 1 (.bool true), o_] [6, 0, 1, 2] (fun Kt => CallP Tryd.prog 9 [] O (.bool true) ∧ Kt [(6, .bool true), (0, .string (bs X)), (1, .string (bs Y)), (2, .int .i64 (z : Int))] O) (by kernel_rfl) (fun _ => by kernel_rfl) (⟨⟨en_wakes, fun w Hw => wakes_w w (hT.at Hw)⟩, fun ac5 wd5 FF5 MM5 => then_n ?_⟩))
      refine wp_ret ?_
      repeat first | refine then_ret ?_ | refine inb_ret ?_
      exact (ret_fr FF5 0 Tryd.results5 rfl ⟨rfl, MM5.belowN H (fun _ hx => hx)⟩)
    · skip
      refine wp_seq (rg_seq FF1 MM1 [o_, t_ (.int .i64 (X.length : Nat)), w_ 3, o_, o_, t_ (.int .i64 (Y.length : Nat)), w_ 3, o_] [6, 0, 1, 2, 20] (fun Kt => Value.int .i64 ((bs X).size : Nat) = .int .i64 (X.length : Nat) ∧ ¬ (X.length > 500) ∧ Value.int .i64 ((bs Y).size : Nat) = .int .i64 (Y.length : Nat) ∧ ¬ (Y.length > 40) ∧ Kt [(20, .bool false), (6, .bool false), (0, .string (bs X)), (1, .string (bs Y)), (2, .int .i64 (z : Int))] O) (by kernel_rfl) (fun _ => by kernel_rfl) (⟨(vI (bs_size _)), h1, (vI (bs_size _)), h2, fun ac6 wd6 FF6 MM6 => then_n ?_⟩))
      refine wp_cond_false (FF6.ev 0 rfl) ?_
      refine wp_skip ?_
      refine then_n ?_
      have hq := qok (leV_100 hY (by omega))
      have hbb := leV_40 hY (by omega)
      have hs41 : (bsz (leV Y) + 7) / 8 ≤ 41 := by omega
      have hkb : 1 ≤ k ∧ k ≤ 16 := by have := modZ_lt z (m := 16) (by decide); omega
      refine wp_seq (wp_region_list ?_)
      refine rg_part 1 FF6 MM6 [o_] [6, 0, 1, 2, 22] (fun Kt => Kt [(22, .string (bs X)), (6, .bool false), (0, .string (bs X)), (1, .string (bs Y)), (2, .int .i64 (z : Int))] O) (by kernel_rfl) (fun _ => by kernel_rfl) (fun ac7 wd7 FF7 MM7 => ?_)
      refine st_callE [6, 0, 1, 2, 23] FF7 (d := 23) (mk := fun v => v) en_tnew rfl rfl (tnew_any X _) rfl (by kernel_rfl) (by decide) fun ac9 wd9 lv8 (FF9 : Fr 100 ac9 [(23, lv8), (6, .bool false), (0, .string (bs X)), (1, .string (bs Y)), (2, .int .i64 (z : Int))]) hr10 => ?_
      obtain ⟨gt, rfl, hB_gt, hf_gt, hb_gt⟩ := hr10
      have MM11 := MM7.keep hB_gt
      have MM12 : MemS (fun k => k < w0.heap.size ∧ ∀ x ∈ O, x.1 ≠ k) w0 wd9 ((gt, .cells (#[.string (bs X), .int .i64 (0 : Nat)] : Array Value) 73) :: O) [] := MM7.addFresh MM11 hb_gt hf_gt
      refine rg_part 1 FF9 MM12 [o_] [6, 0, 1, 2, 7] (fun Kt => Kt [(7, .pointer (some ⟨gt, 0, none⟩)), (6, .bool false), (0, .string (bs X)), (1, .string (bs Y)), (2, .int .i64 (z : Int))] ((gt, .cells (#[.string (bs X), .int .i64 (0 : Nat)] : Array Value) 73) :: O)) (by kernel_rfl) (fun _ => by kernel_rfl) (fun ac13 wd13 FF13 MM13 => ?_)
      refine wpl_nil (then_n ?_)
      refine wp_seq (wp_region_list ?_)
      refine rg_part 1 FF13 MM13 [o_] [7, 6, 0, 1, 2, 24] (fun Kt => Kt [(24, .string (bs Y)), (7, .pointer (some ⟨gt, 0, none⟩)), (6, .bool false), (0, .string (bs X)), (1, .string (bs Y)), (2, .int .i64 (z : Int))] ((gt, .cells (#[.string (bs X), .int .i64 (0 : Nat)] : Array Value) 73) :: O)) (by kernel_rfl) (fun _ => by kernel_rfl) (fun ac14 wd14 FF14 MM14 => ?_)
      refine st_callE [7, 6, 0, 1, 2, 25] FF14 (d := 25) (mk := fun v => .agg #[nv (leV Y) v]) en_nbytes rfl rfl (nbytes_any Y hY (by omega) _) rfl (by kernel_rfl) (by decide) fun ac16 wd16 lv15 (FF16 : Fr 100 ac16 [(25, .agg (#[nv (leV Y) lv15] : Array Value)), (7, .pointer (some ⟨gt, 0, none⟩)), (6, .bool false), (0, .string (bs X)), (1, .string (bs Y)), (2, .int .i64 (z : Int))]) hr17 => ?_
      obtain ⟨O18, MM190, hN20, hs21⟩ := MemS.addNats (K := [(gt, .cells (#[.string (bs X), .int .i64 (0 : Nat)] : Array Value) 73)]) (O := O) MM14 hr17.1 hr17.2 (Nats.nil O)
      have MM19 : MemS (fun k => k < w0.heap.size ∧ ∀ x ∈ O, x.1 ≠ k) w0 wd16 ((gt, .cells (#[.string (bs X), .int .i64 (0 : Nat)] : Array Value) 73) :: O18) [] := MM190
      have hT_22 := hT.mono hs21
      refine rg_part 2 FF16 MM19 [o_, b_ 0] [7, 6, 0, 1, 2, 8] (fun Kt => ∀ bb, bb = bb ∧ (#[.slice none 0 0] : Array Value).size = 1 ∧ (#[nv (leV Y) lv15] : Array Value).size = 1 ∧ (#[nv (leV Y) lv15] : Array Value).all (·.oneCell') = true ∧ (0, 0).2 = 0 ∧ Kt [(8, .pointer (some ⟨bb, 0, none⟩)), (7, .pointer (some ⟨gt, 0, none⟩)), (6, .bool false), (0, .string (bs X)), (1, .string (bs Y)), (2, .int .i64 (z : Int))] ((bb, .cells (#[nv (leV Y) lv15] : Array Value) 49) :: (gt, .cells (#[.string (bs X), .int .i64 (0 : Nat)] : Array Value) 73) :: O18)) (by kernel_rfl) (fun _ => by kernel_rfl) (fun bb => ⟨rfl, rfl, rfl, (by kernel_rfl), rfl, fun ac23 wd23 FF23 MM23 => ?_⟩)
      refine wpl_nil (then_n ?_)
      refine wp_seq (rg_seq FF23 MM23 [o_, t_ (.int .i64 (modZ z 16 : Nat)), t_ (.int .i64 (k : Nat)), o_] [8, 7, 6, 0, 1, 9] (fun Kt => CallP Tryd.prog 25 [.int .i64 (z : Int), .int .i64 (16 : Nat)] [] (.int .i64 (modZ z 16 : Nat)) ∧ 1 + (modZ z 16) < 9223372036854775808 ∧ Value.int .i64 (1 + (modZ z 16) : Nat) = .int .i64 (k : Nat) ∧ Kt [(9, .int .i64 (k : Nat)), (8, .pointer (some ⟨bb, 0, none⟩)), (7, .pointer (some ⟨gt, 0, none⟩)), (6, .bool false), (0, .string (bs X)), (1, .string (bs Y))] ((bb, .cells (#[nv (leV Y) lv15] : Array Value) 49) :: (gt, .cells (#[.string (bs X), .int .i64 (0 : Nat)] : Array Value) 73) :: O18)) (by kernel_rfl) (fun _ => by kernel_rfl) (⟨(callP_of en_kmod (kmod_any z 16 hz1 hz2 (by decide) (by decide)) _), (by have := modZ_lt z (m := 16) (by decide); omega), (vI hk), fun ac24 wd24 FF24 MM24 => then_n ?_⟩))
      refine wp_seq (wp_region_list ?_)
      refine rg_part 3 FF24 MM24 [o_, b_ 0, o_] [9, 8, 7, 6, 0, 1, 30, 31, 32] (fun Kt => bb = bb ∧ (#[nv (leV Y) lv15] : Array Value).size = 1 ∧ Kt [(32, .int .i64 (k : Nat)), (31, .agg (#[nv (leV Y) lv15] : Array Value)), (30, .pointer (some ⟨gt, 0, none⟩)), (9, .int .i64 (k : Nat)), (8, .pointer (some ⟨bb, 0, none⟩)), (7, .pointer (some ⟨gt, 0, none⟩)), (6, .bool false), (0, .string (bs X)), (1, .string (bs Y))] ((bb, .cells (#[nv (leV Y) lv15] : Array Value) 49) :: (gt, .cells (#[.string (bs X), .int .i64 (0 : Nat)] : Array Value) 73) :: O18)) (by kernel_rfl) (fun _ => by kernel_rfl) (⟨rfl, rfl, fun ac25 wd25 FF25 MM25 => ?_⟩)
      refine st_callE [9, 8, 7, 6, 0, 1, 33] FF25 (d := 33) (mk := fun v => .tuple #[.agg #[nv 0 v], .int .i64 (3 : Nat)]) en_tunder rfl rfl (by have h0 := tunder_any gt X 0 hX (by decide) (leV Y) lv15 k (by omega) (by omega) (by omega) (by omega) wd25 (MM25.get 1 rfl) ((hN20.get 0 rfl).at (Has.tl (Has.tl MM25.hasL))) (natO_ne (hN20.get 0 rfl) (MemS.apartO (K := [(bb, .cells (#[nv (leV Y) lv15] : Array Value) 49), (gt, .cells (#[.string (bs X), .int .i64 (0 : Nat)] : Array Value) 73)]) MM25 1 rfl)); rw [hE] at h0; exact h0) rfl (by kernel_rfl) (by decide) fun ac27 wd27 lv26 (FF27 : Fr 100 ac27 [(33, .tuple #[.agg (#[nv 0 lv26] : Array Value), .int .i64 (3 : Nat)]), (9, .int .i64 (k : Nat)), (8, .pointer (some ⟨bb, 0, none⟩)), (7, .pointer (some ⟨gt, 0, none⟩)), (6, .bool false), (0, .string (bs X)), (1, .string (bs Y))]) hr28 => ?_
      obtain ⟨ht9, hn9⟩ := hr28
      have MM29 : MemS (fun k => k < w0.heap.size ∧ ∀ x ∈ O, x.1 ≠ k) w0 wd27 ((bb, .cells (#[nv (leV Y) lv15] : Array Value) 49) :: (gt, .cells (#[.string (bs (X.drop ((bsz (leV Y) + 7) / 8 * k))), .int .i64 (0 + (bsz (leV Y) + 7) / 8 * k : Nat)] : Array Value) 73) :: O18) [] := MM25.turnAt ht9 1 rfl
      obtain ⟨O30, MM310, hN32, hs33⟩ := MemS.addNatsT (K := [(bb, .cells (#[nv (leV Y) lv15] : Array Value) 49), (gt, .cells (#[.string (bs (X.drop ((bsz (leV Y) + 7) / 8 * k))), .int .i64 (0 + (bsz (leV Y) + 7) / 8 * k : Nat)] : Array Value) 73)]) (O := O18) MM25 MM29 rfl hn9 hN20
      have MM31 : MemS (fun k => k < w0.heap.size ∧ ∀ x ∈ O, x.1 ≠ k) w0 wd27 ((bb, .cells (#[nv (leV Y) lv15] : Array Value) 49) :: (gt, .cells (#[.string (bs (X.drop ((bsz (leV Y) + 7) / 8 * k))), .int .i64 (0 + (bsz (leV Y) + 7) / 8 * k : Nat)] : Array Value) 73) :: O30) [] := MM310
      have hT_34 := hT_22.mono hs33
      have hz35 : ∀ x ∈ O, x ∈ O30 := fun x hx => hs33 x (hs21 x hx)
      refine rg_part 6 FF27 MM31 [o_, o_, o_, o_, b_ 0, o_] [9, 8, 7, 6, 0, 1, 10, 11] (fun Kt => ∀ ba, ba = ba ∧ (#[.slice none 0 0] : Array Value).size = 1 ∧ (#[nv 0 lv26] : Array Value).size = 1 ∧ (#[nv 0 lv26] : Array Value).all (·.oneCell') = true ∧ (0, 0).2 = 0 ∧ Kt [(11, .int .i64 (3 : Nat)), (10, .pointer (some ⟨ba, 0, none⟩)), (9, .int .i64 (k : Nat)), (8, .pointer (some ⟨bb, 0, none⟩)), (7, .pointer (some ⟨gt, 0, none⟩)), (6, .bool false), (0, .string (bs X)), (1, .string (bs Y))] ((ba, .cells (#[nv 0 lv26] : Array Value) 49) :: (bb, .cells (#[nv (leV Y) lv15] : Array Value) 49) :: (gt, .cells (#[.string (bs (X.drop ((bsz (leV Y) + 7) / 8 * k))), .int .i64 (0 + (bsz (leV Y) + 7) / 8 * k : Nat)] : Array Value) 73) :: O30)) (by kernel_rfl) (fun _ => by kernel_rfl) (fun ba => ⟨rfl, rfl, rfl, (by kernel_rfl), rfl, fun ac36 wd36 FF36 MM36 => ?_⟩)
      refine wpl_nil (then_n ?_)
      refine wp_seq (rg_seq FF36 MM36 [b_ 1, u_ 1 (.int .i64 (bsz (leV Y) : Nat)), o_, o_, o_] [11, 10, 9, 8, 7, 6, 0, 1, 12] (fun Kt => bb = bb ∧ (#[nv (leV Y) lv15] : Array Value).size = 1 ∧ CallP Tryd.prog 26 [.agg (#[nv (leV Y) lv15] : Array Value)] ((ba, .cells (#[nv 0 lv26] : Array Value) 49) :: (bb, .cells (#[nv (leV Y) lv15] : Array Value) 49) :: (gt, .cells (#[.string (bs (X.drop ((bsz (leV Y) + 7) / 8 * k))), .int .i64 (0 + (bsz (leV Y) + 7) / 8 * k : Nat)] : Array Value) 73) :: O30) (.int .i64 (bsz (leV Y) : Nat)) ∧ (bsz (leV Y)) + 7 < 9223372036854775808 ∧ 8 ≠ 0 ∧ ((bsz (leV Y)) + 7) / 8 < 9223372036854775808 ∧ Kt [(12, .int .i64 (((bsz (leV Y)) + 7) / 8 : Nat)), (11, .int .i64 (3 : Nat)), (10, .pointer (some ⟨ba, 0, none⟩)), (9, .int .i64 (k : Nat)), (8, .pointer (some ⟨bb, 0, none⟩)), (7, .pointer (some ⟨gt, 0, none⟩)), (6, .bool false), (0, .string (bs X)), (1, .string (bs Y))] ((ba, .cells (#[nv 0 lv26] : Array Value) 49) :: (bb, .cells (#[nv (leV Y) lv15] : Array Value) 49) :: (gt, .cells (#[.string (bs (X.drop ((bsz (leV Y) + 7) / 8 * k))), .int .i64 (0 + (bsz (leV Y) + 7) / 8 * k : Nat)] : Array Value) 73) :: O30)) (by kernel_rfl) (fun _ => by kernel_rfl) (⟨rfl, rfl, ⟨en_nbits, fun w Hw => nbits_any (leV Y) lv15 hq w ((hN32.get 1 rfl).at (Has.tl (Has.tl (Has.tl Hw))))⟩, (by have := hbb; omega), (by decide), (by have := hbb; omega), fun ac37 wd37 FF37 MM37 => then_n ?_⟩))
      refine wp_seq ?_
      refine wp_seq (rg_seq FF37 MM37 [o_, w_ 3] [12, 11, 10, 9, 8, 7, 6, 0, 1, 41] (fun Kt => ¬ ((((bsz (leV Y)) + 7) / 8) = 0) ∧ Kt [(41, .bool false), (12, .int .i64 (((bsz (leV Y)) + 7) / 8 : Nat)), (11, .int .i64 (3 : Nat)), (10, .pointer (some ⟨ba, 0, none⟩)), (9, .int .i64 (k : Nat)), (8, .pointer (some ⟨bb, 0, none⟩)), (7, .pointer (some ⟨gt, 0, none⟩)), (6, .bool false), (0, .string (bs X)), (1, .string (bs Y))] ((ba, .cells (#[nv 0 lv26] : Array Value) 49) :: (bb, .cells (#[nv (leV Y) lv15] : Array Value) 49) :: (gt, .cells (#[.string (bs (X.drop ((bsz (leV Y) + 7) / 8 * k))), .int .i64 (0 + (bsz (leV Y) + 7) / 8 * k : Nat)] : Array Value) 73) :: O30)) (by kernel_rfl) (fun _ => by kernel_rfl) (⟨(by omega), fun ac38 wd38 FF38 MM38 => then_n ?_⟩))
      refine wp_cond_false (FF38.ev 0 rfl) ?_
      refine wp_skip ?_
      refine then_n ?_
      refine wp_seq ?_
      refine wp_seq (rg_seq FF38 MM38 [o_, w_ 2] [12, 11, 10, 9, 8, 7, 6, 0, 1, 53] (fun Kt => 3 = 3 ∧ Kt [(53, .bool true), (12, .int .i64 (((bsz (leV Y)) + 7) / 8 : Nat)), (11, .int .i64 (3 : Nat)), (10, .pointer (some ⟨ba, 0, none⟩)), (9, .int .i64 (k : Nat)), (8, .pointer (some ⟨bb, 0, none⟩)), (7, .pointer (some ⟨gt, 0, none⟩)), (6, .bool false), (0, .string (bs X)), (1, .string (bs Y))] ((ba, .cells (#[nv 0 lv26] : Array Value) 49) :: (bb, .cells (#[nv (leV Y) lv15] : Array Value) 49) :: (gt, .cells (#[.string (bs (X.drop ((bsz (leV Y) + 7) / 8 * k))), .int .i64 (0 + (bsz (leV Y) + 7) / 8 * k : Nat)] : Array Value) 73) :: O30)) (by kernel_rfl) (fun _ => by kernel_rfl) (⟨(by decide), fun ac39 wd39 FF39 MM39 => then_n ?_⟩))
      refine wp_cond_true (FF39.ev 0 rfl) ?_
      refine wp_seq (rg_seq FF39 MM39 [o_, u_ 1 (.int .i64 (0 + (bsz (leV Y) + 7) / 8 * k : Nat)), o_, o_, o_, w_ 2, o_, b_ 0, u_ 1 (.string (bs (decN 0))), w_ 2, o_, o_, u_ 1 (.bool true), o_, o_] [12, 11, 10, 9, 8, 7, 6, 0, 1] (fun Kt => CallP Tryd.prog 24 [.pointer (some ⟨gt, 0, none⟩)] ((ba, .cells (#[nv 0 lv26] : Array Value) 49) :: (bb, .cells (#[nv (leV Y) lv15] : Array Value) 49) :: (gt, .cells (#[.string (bs (X.drop ((bsz (leV Y) + 7) / 8 * k))), .int .i64 (0 + (bsz (leV Y) + 7) / 8 * k : Nat)] : Array Value) 73) :: O30) (.int .i64 (0 + (bsz (leV Y) + 7) / 8 * k : Nat)) ∧ k * (((bsz (leV Y)) + 7) / 8) < 9223372036854775808 ∧ (0 + (bsz (leV Y) + 7) / 8 * k) = (k * (((bsz (leV Y)) + 7) / 8)) ∧ ba = ba ∧ (#[nv 0 lv26] : Array Value).size = 1 ∧ CallP Tryd.prog 27 [.agg (#[nv 0 lv26] : Array Value)] ((ba, .cells (#[nv 0 lv26] : Array Value) 49) :: (bb, .cells (#[nv (leV Y) lv15] : Array Value) 49) :: (gt, .cells (#[.string (bs (X.drop ((bsz (leV Y) + 7) / 8 * k))), .int .i64 (0 + (bsz (leV Y) + 7) / 8 * k : Nat)] : Array Value) 73) :: O30) (.string (bs (decN 0))) ∧ bs (decN 0) = bs [48] ∧ CallP Tryd.prog 9 [] ((ba, .cells (#[nv 0 lv26] : Array Value) 49) :: (bb, .cells (#[nv (leV Y) lv15] : Array Value) 49) :: (gt, .cells (#[.string (bs (X.drop ((bsz (leV Y) + 7) / 8 * k))), .int .i64 (0 + (bsz (leV Y) + 7) / 8 * k : Nat)] : Array Value) 73) :: O30) (.bool true) ∧ Kt [(6, .bool true), (12, .int .i64 (((bsz (leV Y)) + 7) / 8 : Nat)), (11, .int .i64 (3 : Nat)), (10, .pointer (some ⟨ba, 0, none⟩)), (9, .int .i64 (k : Nat)), (8, .pointer (some ⟨bb, 0, none⟩)), (7, .pointer (some ⟨gt, 0, none⟩)), (0, .string (bs X)), (1, .string (bs Y))] ((ba, .cells (#[nv 0 lv26] : Array Value) 49) :: (bb, .cells (#[nv (leV Y) lv15] : Array Value) 49) :: (gt, .cells (#[.string (bs (X.drop ((bsz (leV Y) + 7) / 8 * k))), .int .i64 (0 + (bsz (leV Y) + 7) / 8 * k : Nat)] : Array Value) 73) :: O30)) (by kernel_rfl) (fun _ => by kernel_rfl) (⟨⟨en_tused, fun w Hw => tused_any gt (X.drop ((bsz (leV Y) + 7) / 8 * k)) (0 + (bsz (leV Y) + 7) / 8 * k) w (Hw 2 _ rfl)⟩, (Nat.lt_of_le_of_lt (Nat.mul_le_mul hkb.2 hs41) (by decide)), (by rw [Nat.zero_add, Nat.mul_comm]), rfl, rfl, ⟨en_ntext, fun w Hw => ntext_any 0 lv26 (by decide) w (hT_34.at (Has.tl (Has.tl (Has.tl Hw)))) ((hN32.get 0 rfl).at (Has.tl (Has.tl (Has.tl Hw))))⟩, rfl, ⟨en_wakes, fun w Hw => wakes_w w (hT_34.at (Has.tl (Has.tl (Has.tl Hw))))⟩, fun ac40 wd40 FF40 MM40 => then_n ?_⟩))
      refine wp_ret ?_
      repeat first | refine then_ret ?_ | refine inb_ret ?_
      exact (ret_fr FF40 0 Tryd.results5 rfl ⟨rfl, MM40.belowN H (fun _ hx => List.mem_cons_of_mem _ (List.mem_cons_of_mem _ (List.mem_cons_of_mem _ (hz35 _ hx))))⟩)
set_option maxRecDepth 100000 in
theorem under_ok (O : Blks) (hD : Distinct O) (hT : TabO O) (X Y : List Nat) (hX : ∀ i, X.getD i 0 < 256) (hY : ∀ i, Y.getD i 0 < 256) (z : Int) (hz1 : -9223372036854775808 ≤ z) (hz2 : z < 9223372036854775808) (k : Nat) (hk : 1 + modZ z 16 = k) (h0 : 1 ≤ bsz (leV Y)) (hE1 : (undN (leV Y) (bsz (leV Y)) k X).1 < leV Y) (hE2 : (undN (leV Y) (bsz (leV Y)) k X).2.1 = 0) (i : Nat) (hi : i < k) (hE3 : (undN (leV Y) (bsz (leV Y)) k X).2.2 = (bsz (leV Y) + 7) / 8 * (i + 1)) (w0 : World) (H : Has w0 O) :
    Calls Tryd.prog 5 #[.string (bs X), .string (bs Y), .int .i64 z] w0 fun e w' => e = .returned (.bool true) ∧ Below w0.heap.size w0 w' := by
  refine enter_fr Tryd.func5 rfl Tryd.ntmps5 (by simp) fun ac (FF : Fr 100 ac [(0, .string (bs X)), (1, .string (bs Y)), (2, .int .i64 (z : Int))]) => ?_
  have MM : MemS (fun k => k < w0.heap.size ∧ ∀ x ∈ O, x.1 ≠ k) w0 w0 O [] := MemS.startN H hD
  refine wp_seq (rg_seq FF MM [o_] [0, 1, 2, 6] (fun Kt => Kt [(6, .bool false), (0, .string (bs X)), (1, .string (bs Y)), (2, .int .i64 (z : Int))] O) (by kernel_rfl) (fun _ => by kernel_rfl) (fun ac1 wd1 FF1 MM1 => then_n ?_))
  refine wp_seq ?_
  by_cases h1 : X.length > 500
  · skip
    refine wp_seq (rg_seq FF1 MM1 [o_, t_ (.int .i64 (X.length : Nat)), w_ 2, o_, o_, o_, o_, o_] [6, 0, 1, 2, 20] (fun Kt => Value.int .i64 ((bs X).size : Nat) = .int .i64 (X.length : Nat) ∧ X.length > 500 ∧ Kt [(20, .bool true), (6, .bool false), (0, .string (bs X)), (1, .string (bs Y)), (2, .int .i64 (z : Int))] O) (by kernel_rfl) (fun _ => by kernel_rfl) (⟨(vI (bs_size _)), h1, fun ac2 wd2 FF2 MM2 => then_n ?_⟩))
    refine wp_cond_true (FF2.ev 0 rfl) ?_
    refine wp_seq (rg_seq FF2 MM2 [u_ 1 (.bool true), o_] [6, 0, 1, 2] (fun Kt => CallP Tryd.prog 9 [] O (.bool true) ∧ Kt [(6, .bool true), (0, .string (bs X)), (1, .string (bs Y)), (2, .int .i64 (z : Int))] O) (by kernel_rfl) (fun _ => by kernel_rfl) (⟨⟨en_wakes, fun w Hw => wakes_w w (hT.at Hw)⟩, fun ac3 wd3 FF3 MM3 => then_n ?_⟩))
    refine wp_ret ?_
    repeat first | refine then_ret ?_ | refine inb_ret ?_
    exact (ret_fr FF3 0 Tryd.results5 rfl ⟨rfl, MM3.belowN H (fun _ hx => hx)⟩)
  · by_cases h2 : Y.length > 40
    · skip
      refine wp_seq (rg_seq FF1 MM1 [o_, t_ (.int .i64 (X.length : Nat)), w_ 3, o_, o_, t_ (.int .i64 (Y.length : Nat)), w_ 2, o_] [6, 0, 1, 2, 20] (fun Kt => Value.int .i64 ((bs X).size : Nat) = .int .i64 (X.length : Nat) ∧ ¬ (X.length > 500) ∧ Value.int .i64 ((bs Y).size : Nat) = .int .i64 (Y.length : Nat) ∧ Y.length > 40 ∧ Kt [(20, .bool true), (6, .bool false), (0, .string (bs X)), (1, .string (bs Y)), (2, .int .i64 (z : Int))] O) (by kernel_rfl) (fun _ => by kernel_rfl) (⟨(vI (bs_size _)), h1, (vI (bs_size _)), h2, fun ac4 wd4 FF4 MM4 => then_n ?_⟩))
      refine wp_cond_true (FF4.ev 0 rfl) ?_
      refine wp_seq (rg_seq FF4 MM4 [u_ 1 (.bool true), o_] [6, 0, 1, 2] (fun Kt => CallP Tryd.prog 9 [] O (.bool true) ∧ Kt [(6, .bool true), (0, .string (bs X)), (1, .string (bs Y)), (2, .int .i64 (z : Int))] O) (by kernel_rfl) (fun _ => by kernel_rfl) (⟨⟨en_wakes, fun w Hw => wakes_w w (hT.at Hw)⟩, fun ac5 wd5 FF5 MM5 => then_n ?_⟩))
      refine wp_ret ?_
      repeat first | refine then_ret ?_ | refine inb_ret ?_
      exact (ret_fr FF5 0 Tryd.results5 rfl ⟨rfl, MM5.belowN H (fun _ hx => hx)⟩)
    · skip
      refine wp_seq (rg_seq FF1 MM1 [o_, t_ (.int .i64 (X.length : Nat)), w_ 3, o_, o_, t_ (.int .i64 (Y.length : Nat)), w_ 3, o_] [6, 0, 1, 2, 20] (fun Kt => Value.int .i64 ((bs X).size : Nat) = .int .i64 (X.length : Nat) ∧ ¬ (X.length > 500) ∧ Value.int .i64 ((bs Y).size : Nat) = .int .i64 (Y.length : Nat) ∧ ¬ (Y.length > 40) ∧ Kt [(20, .bool false), (6, .bool false), (0, .string (bs X)), (1, .string (bs Y)), (2, .int .i64 (z : Int))] O) (by kernel_rfl) (fun _ => by kernel_rfl) (⟨(vI (bs_size _)), h1, (vI (bs_size _)), h2, fun ac6 wd6 FF6 MM6 => then_n ?_⟩))
      refine wp_cond_false (FF6.ev 0 rfl) ?_
      refine wp_skip ?_
      refine then_n ?_
      have hq := qok (leV_100 hY (by omega))
      have hbb := leV_40 hY (by omega)
      have hs41 : (bsz (leV Y) + 7) / 8 ≤ 41 := by omega
      have hkb : 1 ≤ k ∧ k ≤ 16 := by have := modZ_lt z (m := 16) (by decide); omega
      refine wp_seq (wp_region_list ?_)
      refine rg_part 1 FF6 MM6 [o_] [6, 0, 1, 2, 22] (fun Kt => Kt [(22, .string (bs X)), (6, .bool false), (0, .string (bs X)), (1, .string (bs Y)), (2, .int .i64 (z : Int))] O) (by kernel_rfl) (fun _ => by kernel_rfl) (fun ac7 wd7 FF7 MM7 => ?_)
      refine st_callE [6, 0, 1, 2, 23] FF7 (d := 23) (mk := fun v => v) en_tnew rfl rfl (tnew_any X _) rfl (by kernel_rfl) (by decide) fun ac9 wd9 lv8 (FF9 : Fr 100 ac9 [(23, lv8), (6, .bool false), (0, .string (bs X)), (1, .string (bs Y)), (2, .int .i64 (z : Int))]) hr10 => ?_
      obtain ⟨gt, rfl, hB_gt, hf_gt, hb_gt⟩ := hr10
      have MM11 := MM7.keep hB_gt
      have MM12 : MemS (fun k => k < w0.heap.size ∧ ∀ x ∈ O, x.1 ≠ k) w0 wd9 ((gt, .cells (#[.string (bs X), .int .i64 (0 : Nat)] : Array Value) 73) :: O) [] := MM7.addFresh MM11 hb_gt hf_gt
      refine rg_part 1 FF9 MM12 [o_] [6, 0, 1, 2, 7] (fun Kt => Kt [(7, .pointer (some ⟨gt, 0, none⟩)), (6, .bool false), (0, .string (bs X)), (1, .string (bs Y)), (2, .int .i64 (z : Int))] ((gt, .cells (#[.string (bs X), .int .i64 (0 : Nat)] : Array Value) 73) :: O)) (by kernel_rfl) (fun _ => by kernel_rfl) (fun ac13 wd13 FF13 MM13 => ?_)
      refine wpl_nil (then_n ?_)
      refine wp_seq (wp_region_list ?_)
      refine rg_part 1 FF13 MM13 [o_] [7, 6, 0, 1, 2, 24] (fun Kt => Kt [(24, .string (bs Y)), (7, .pointer (some ⟨gt, 0, none⟩)), (6, .bool false), (0, .string (bs X)), (1, .string (bs Y)), (2, .int .i64 (z : Int))] ((gt, .cells (#[.string (bs X), .int .i64 (0 : Nat)] : Array Value) 73) :: O)) (by kernel_rfl) (fun _ => by kernel_rfl) (fun ac14 wd14 FF14 MM14 => ?_)
      refine st_callE [7, 6, 0, 1, 2, 25] FF14 (d := 25) (mk := fun v => .agg #[nv (leV Y) v]) en_nbytes rfl rfl (nbytes_any Y hY (by omega) _) rfl (by kernel_rfl) (by decide) fun ac16 wd16 lv15 (FF16 : Fr 100 ac16 [(25, .agg (#[nv (leV Y) lv15] : Array Value)), (7, .pointer (some ⟨gt, 0, none⟩)), (6, .bool false), (0, .string (bs X)), (1, .string (bs Y)), (2, .int .i64 (z : Int))]) hr17 => ?_
      obtain ⟨O18, MM190, hN20, hs21⟩ := MemS.addNats (K := [(gt, .cells (#[.string (bs X), .int .i64 (0 : Nat)] : Array Value) 73)]) (O := O) MM14 hr17.1 hr17.2 (Nats.nil O)
      have MM19 : MemS (fun k => k < w0.heap.size ∧ ∀ x ∈ O, x.1 ≠ k) w0 wd16 ((gt, .cells (#[.string (bs X), .int .i64 (0 : Nat)] : Array Value) 73) :: O18) [] := MM190
      have hT_22 := hT.mono hs21
      refine rg_part 2 FF16 MM19 [o_, b_ 0] [7, 6, 0, 1, 2, 8] (fun Kt => ∀ bb, bb = bb ∧ (#[.slice none 0 0] : Array Value).size = 1 ∧ (#[nv (leV Y) lv15] : Array Value).size = 1 ∧ (#[nv (leV Y) lv15] : Array Value).all (·.oneCell') = true ∧ (0, 0).2 = 0 ∧ Kt [(8, .pointer (some ⟨bb, 0, none⟩)), (7, .pointer (some ⟨gt, 0, none⟩)), (6, .bool false), (0, .string (bs X)), (1, .string (bs Y)), (2, .int .i64 (z : Int))] ((bb, .cells (#[nv (leV Y) lv15] : Array Value) 49) :: (gt, .cells (#[.string (bs X), .int .i64 (0 : Nat)] : Array Value) 73) :: O18)) (by kernel_rfl) (fun _ => by kernel_rfl) (fun bb => ⟨rfl, rfl, rfl, (by kernel_rfl), rfl, fun ac23 wd23 FF23 MM23 => ?_⟩)
      refine wpl_nil (then_n ?_)
      refine wp_seq (rg_seq FF23 MM23 [o_, t_ (.int .i64 (modZ z 16 : Nat)), t_ (.int .i64 (k : Nat)), o_] [8, 7, 6, 0, 1, 9] (fun Kt => CallP Tryd.prog 25 [.int .i64 (z : Int), .int .i64 (16 : Nat)] [] (.int .i64 (modZ z 16 : Nat)) ∧ 1 + (modZ z 16) < 9223372036854775808 ∧ Value.int .i64 (1 + (modZ z 16) : Nat) = .int .i64 (k : Nat) ∧ Kt [(9, .int .i64 (k : Nat)), (8, .pointer (some ⟨bb, 0, none⟩)), (7, .pointer (some ⟨gt, 0, none⟩)), (6, .bool false), (0, .string (bs X)), (1, .string (bs Y))] ((bb, .cells (#[nv (leV Y) lv15] : Array Value) 49) :: (gt, .cells (#[.string (bs X), .int .i64 (0 : Nat)] : Array Value) 73) :: O18)) (by kernel_rfl) (fun _ => by kernel_rfl) (⟨(callP_of en_kmod (kmod_any z 16 hz1 hz2 (by decide) (by decide)) _), (by have := modZ_lt z (m := 16) (by decide); omega), (vI hk), fun ac24 wd24 FF24 MM24 => then_n ?_⟩))
      refine wp_seq (wp_region_list ?_)
      refine rg_part 3 FF24 MM24 [o_, b_ 0, o_] [9, 8, 7, 6, 0, 1, 30, 31, 32] (fun Kt => bb = bb ∧ (#[nv (leV Y) lv15] : Array Value).size = 1 ∧ Kt [(32, .int .i64 (k : Nat)), (31, .agg (#[nv (leV Y) lv15] : Array Value)), (30, .pointer (some ⟨gt, 0, none⟩)), (9, .int .i64 (k : Nat)), (8, .pointer (some ⟨bb, 0, none⟩)), (7, .pointer (some ⟨gt, 0, none⟩)), (6, .bool false), (0, .string (bs X)), (1, .string (bs Y))] ((bb, .cells (#[nv (leV Y) lv15] : Array Value) 49) :: (gt, .cells (#[.string (bs X), .int .i64 (0 : Nat)] : Array Value) 73) :: O18)) (by kernel_rfl) (fun _ => by kernel_rfl) (⟨rfl, rfl, fun ac25 wd25 FF25 MM25 => ?_⟩)
      refine st_callE [9, 8, 7, 6, 0, 1, 33] FF25 (d := 33) (mk := fun v => .tuple #[.agg #[nv ((undN (leV Y) (bsz (leV Y)) k X).1) v], .int .i64 (0 : Nat)]) en_tunder rfl rfl (by have h0 := tunder_any gt X 0 hX (by decide) (leV Y) lv15 k (by omega) (by omega) (by omega) (by omega) wd25 (MM25.get 1 rfl) ((hN20.get 0 rfl).at (Has.tl (Has.tl MM25.hasL))) (natO_ne (hN20.get 0 rfl) (MemS.apartO (K := [(bb, .cells (#[nv (leV Y) lv15] : Array Value) 49), (gt, .cells (#[.string (bs X), .int .i64 (0 : Nat)] : Array Value) 73)]) MM25 1 rfl)); rw [hE2, hE3] at h0; exact h0) rfl (by kernel_rfl) (by decide) fun ac27 wd27 lv26 (FF27 : Fr 100 ac27 [(33, .tuple #[.agg (#[nv ((undN (leV Y) (bsz (leV Y)) k X).1) lv26] : Array Value), .int .i64 (0 : Nat)]), (9, .int .i64 (k : Nat)), (8, .pointer (some ⟨bb, 0, none⟩)), (7, .pointer (some ⟨gt, 0, none⟩)), (6, .bool false), (0, .string (bs X)), (1, .string (bs Y))]) hr28 => ?_
      obtain ⟨ht9, hn9⟩ := hr28
      have MM29 : MemS (fun k => k < w0.heap.size ∧ ∀ x ∈ O, x.1 ≠ k) w0 wd27 ((bb, .cells (#[nv (leV Y) lv15] : Array Value) 49) :: (gt, .cells (#[.string (bs (X.drop ((bsz (leV Y) + 7) / 8 * (i + 1)))), .int .i64 (0 + (bsz (leV Y) + 7) / 8 * (i + 1) : Nat)] : Array Value) 73) :: O18) [] := MM25.turnAt ht9 1 rfl
      obtain ⟨O30, MM310, hN32, hs33⟩ := MemS.addNatsT (K := [(bb, .cells (#[nv (leV Y) lv15] : Array Value) 49), (gt, .cells (#[.string (bs (X.drop ((bsz (leV Y) + 7) / 8 * (i + 1)))), .int .i64 (0 + (bsz (leV Y) + 7) / 8 * (i + 1) : Nat)] : Array Value) 73)]) (O := O18) MM25 MM29 rfl hn9 hN20
      have MM31 : MemS (fun k => k < w0.heap.size ∧ ∀ x ∈ O, x.1 ≠ k) w0 wd27 ((bb, .cells (#[nv (leV Y) lv15] : Array Value) 49) :: (gt, .cells (#[.string (bs (X.drop ((bsz (leV Y) + 7) / 8 * (i + 1)))), .int .i64 (0 + (bsz (leV Y) + 7) / 8 * (i + 1) : Nat)] : Array Value) 73) :: O30) [] := MM310
      have hT_34 := hT_22.mono hs33
      have hz35 : ∀ x ∈ O, x ∈ O30 := fun x hx => hs33 x (hs21 x hx)
      refine rg_part 6 FF27 MM31 [o_, o_, o_, o_, b_ 0, o_] [9, 8, 7, 6, 0, 1, 10, 11] (fun Kt => ∀ ba, ba = ba ∧ (#[.slice none 0 0] : Array Value).size = 1 ∧ (#[nv ((undN (leV Y) (bsz (leV Y)) k X).1) lv26] : Array Value).size = 1 ∧ (#[nv ((undN (leV Y) (bsz (leV Y)) k X).1) lv26] : Array Value).all (·.oneCell') = true ∧ (0, 0).2 = 0 ∧ Kt [(11, .int .i64 (0 : Nat)), (10, .pointer (some ⟨ba, 0, none⟩)), (9, .int .i64 (k : Nat)), (8, .pointer (some ⟨bb, 0, none⟩)), (7, .pointer (some ⟨gt, 0, none⟩)), (6, .bool false), (0, .string (bs X)), (1, .string (bs Y))] ((ba, .cells (#[nv ((undN (leV Y) (bsz (leV Y)) k X).1) lv26] : Array Value) 49) :: (bb, .cells (#[nv (leV Y) lv15] : Array Value) 49) :: (gt, .cells (#[.string (bs (X.drop ((bsz (leV Y) + 7) / 8 * (i + 1)))), .int .i64 (0 + (bsz (leV Y) + 7) / 8 * (i + 1) : Nat)] : Array Value) 73) :: O30)) (by kernel_rfl) (fun _ => by kernel_rfl) (fun ba => ⟨rfl, rfl, rfl, (by kernel_rfl), rfl, fun ac36 wd36 FF36 MM36 => ?_⟩)
      refine wpl_nil (then_n ?_)
      refine wp_seq (rg_seq FF36 MM36 [b_ 1, u_ 1 (.int .i64 (bsz (leV Y) : Nat)), o_, o_, o_] [11, 10, 9, 8, 7, 6, 0, 1, 12] (fun Kt => bb = bb ∧ (#[nv (leV Y) lv15] : Array Value).size = 1 ∧ CallP Tryd.prog 26 [.agg (#[nv (leV Y) lv15] : Array Value)] ((ba, .cells (#[nv ((undN (leV Y) (bsz (leV Y)) k X).1) lv26] : Array Value) 49) :: (bb, .cells (#[nv (leV Y) lv15] : Array Value) 49) :: (gt, .cells (#[.string (bs (X.drop ((bsz (leV Y) + 7) / 8 * (i + 1)))), .int .i64 (0 + (bsz (leV Y) + 7) / 8 * (i + 1) : Nat)] : Array Value) 73) :: O30) (.int .i64 (bsz (leV Y) : Nat)) ∧ (bsz (leV Y)) + 7 < 9223372036854775808 ∧ 8 ≠ 0 ∧ ((bsz (leV Y)) + 7) / 8 < 9223372036854775808 ∧ Kt [(12, .int .i64 (((bsz (leV Y)) + 7) / 8 : Nat)), (11, .int .i64 (0 : Nat)), (10, .pointer (some ⟨ba, 0, none⟩)), (9, .int .i64 (k : Nat)), (8, .pointer (some ⟨bb, 0, none⟩)), (7, .pointer (some ⟨gt, 0, none⟩)), (6, .bool false), (0, .string (bs X)), (1, .string (bs Y))] ((ba, .cells (#[nv ((undN (leV Y) (bsz (leV Y)) k X).1) lv26] : Array Value) 49) :: (bb, .cells (#[nv (leV Y) lv15] : Array Value) 49) :: (gt, .cells (#[.string (bs (X.drop ((bsz (leV Y) + 7) / 8 * (i + 1)))), .int .i64 (0 + (bsz (leV Y) + 7) / 8 * (i + 1) : Nat)] : Array Value) 73) :: O30)) (by kernel_rfl) (fun _ => by kernel_rfl) (⟨rfl, rfl, ⟨en_nbits, fun w Hw => nbits_any (leV Y) lv15 hq w ((hN32.get 1 rfl).at (Has.tl (Has.tl (Has.tl Hw))))⟩, (by have := hbb; omega), (by decide), (by have := hbb; omega), fun ac37 wd37 FF37 MM37 => then_n ?_⟩))
      refine wp_seq ?_
      refine wp_seq (rg_seq FF37 MM37 [o_, w_ 3] [12, 11, 10, 9, 8, 7, 6, 0, 1, 41] (fun Kt => ¬ ((((bsz (leV Y)) + 7) / 8) = 0) ∧ Kt [(41, .bool false), (12, .int .i64 (((bsz (leV Y)) + 7) / 8 : Nat)), (11, .int .i64 (0 : Nat)), (10, .pointer (some ⟨ba, 0, none⟩)), (9, .int .i64 (k : Nat)), (8, .pointer (some ⟨bb, 0, none⟩)), (7, .pointer (some ⟨gt, 0, none⟩)), (6, .bool false), (0, .string (bs X)), (1, .string (bs Y))] ((ba, .cells (#[nv ((undN (leV Y) (bsz (leV Y)) k X).1) lv26] : Array Value) 49) :: (bb, .cells (#[nv (leV Y) lv15] : Array Value) 49) :: (gt, .cells (#[.string (bs (X.drop ((bsz (leV Y) + 7) / 8 * (i + 1)))), .int .i64 (0 + (bsz (leV Y) + 7) / 8 * (i + 1) : Nat)] : Array Value) 73) :: O30)) (by kernel_rfl) (fun _ => by kernel_rfl) (⟨(by omega), fun ac38 wd38 FF38 MM38 => then_n ?_⟩))
      refine wp_cond_false (FF38.ev 0 rfl) ?_
      refine wp_skip ?_
      refine then_n ?_
      refine wp_seq ?_
      refine wp_seq (rg_seq FF38 MM38 [o_, w_ 3] [12, 11, 10, 9, 8, 7, 6, 0, 1, 53] (fun Kt => ¬ (0 = 3) ∧ Kt [(53, .bool false), (12, .int .i64 (((bsz (leV Y)) + 7) / 8 : Nat)), (11, .int .i64 (0 : Nat)), (10, .pointer (some ⟨ba, 0, none⟩)), (9, .int .i64 (k : Nat)), (8, .pointer (some ⟨bb, 0, none⟩)), (7, .pointer (some ⟨gt, 0, none⟩)), (6, .bool false), (0, .string (bs X)), (1, .string (bs Y))] ((ba, .cells (#[nv ((undN (leV Y) (bsz (leV Y)) k X).1) lv26] : Array Value) 49) :: (bb, .cells (#[nv (leV Y) lv15] : Array Value) 49) :: (gt, .cells (#[.string (bs (X.drop ((bsz (leV Y) + 7) / 8 * (i + 1)))), .int .i64 (0 + (bsz (leV Y) + 7) / 8 * (i + 1) : Nat)] : Array Value) 73) :: O30)) (by kernel_rfl) (fun _ => by kernel_rfl) (⟨(by decide), fun ac39 wd39 FF39 MM39 => then_n ?_⟩))
      refine wp_cond_false (FF39.ev 0 rfl) ?_
      refine wp_skip ?_
      refine then_n ?_
      refine wp_seq (rg_seq FF39 MM39 [o_, w_ 2, o_, b_ 0, b_ 1, u_ 1 (.int .i64 (cmpN ((undN (leV Y) (bsz (leV Y)) k X).1) (leV Y) : Int)), u_ 4 (.bool true), o_, o_, o_, u_ 1 (.int .i64 (0 + (bsz (leV Y) + 7) / 8 * (i + 1) : Nat)), o_, w_ 2, o_, o_, o_, u_ 1 (.int .i64 (0 + (bsz (leV Y) + 7) / 8 * (i + 1) : Nat)), o_, o_, o_, w_ 2, o_, o_, o_, u_ 1 (.int .i64 (0 + (bsz (leV Y) + 7) / 8 * (i + 1) : Nat)), o_, o_, w_ 2, o_, o_, u_ 1 (.bool true), o_, o_] [12, 11, 10, 9, 8, 7, 6, 0, 1] (fun Kt => 0 = 0 ∧ ba = ba ∧ (#[nv ((undN (leV Y) (bsz (leV Y)) k X).1) lv26] : Array Value).size = 1 ∧ bb = bb ∧ (#[nv (leV Y) lv15] : Array Value).size = 1 ∧ CallP Tryd.prog 28 [.agg (#[nv ((undN (leV Y) (bsz (leV Y)) k X).1) lv26] : Array Value), .agg (#[nv (leV Y) lv15] : Array Value)] ((ba, .cells (#[nv ((undN (leV Y) (bsz (leV Y)) k X).1) lv26] : Array Value) 49) :: (bb, .cells (#[nv (leV Y) lv15] : Array Value) 49) :: (gt, .cells (#[.string (bs (X.drop ((bsz (leV Y) + 7) / 8 * (i + 1)))), .int .i64 (0 + (bsz (leV Y) + 7) / 8 * (i + 1) : Nat)] : Array Value) 73) :: O30) (.int .i64 (cmpN ((undN (leV Y) (bsz (leV Y)) k X).1) (leV Y) : Int)) ∧ Value.bool (decide ((cmpN ((undN (leV Y) (bsz (leV Y)) k X).1) (leV Y)) < ((0 : Nat) : Int))) = .bool true ∧ CallP Tryd.prog 24 [.pointer (some ⟨gt, 0, none⟩)] ((ba, .cells (#[nv ((undN (leV Y) (bsz (leV Y)) k X).1) lv26] : Array Value) 49) :: (bb, .cells (#[nv (leV Y) lv15] : Array Value) 49) :: (gt, .cells (#[.string (bs (X.drop ((bsz (leV Y) + 7) / 8 * (i + 1)))), .int .i64 (0 + (bsz (leV Y) + 7) / 8 * (i + 1) : Nat)] : Array Value) 73) :: O30) (.int .i64 (0 + (bsz (leV Y) + 7) / 8 * (i + 1) : Nat)) ∧ (0 + (bsz (leV Y) + 7) / 8 * (i + 1)) ≥ (((bsz (leV Y)) + 7) / 8) ∧ CallP Tryd.prog 24 [.pointer (some ⟨gt, 0, none⟩)] ((ba, .cells (#[nv ((undN (leV Y) (bsz (leV Y)) k X).1) lv26] : Array Value) 49) :: (bb, .cells (#[nv (leV Y) lv15] : Array Value) 49) :: (gt, .cells (#[.string (bs (X.drop ((bsz (leV Y) + 7) / 8 * (i + 1)))), .int .i64 (0 + (bsz (leV Y) + 7) / 8 * (i + 1) : Nat)] : Array Value) 73) :: O30) (.int .i64 (0 + (bsz (leV Y) + 7) / 8 * (i + 1) : Nat)) ∧ k * (((bsz (leV Y)) + 7) / 8) < 9223372036854775808 ∧ (0 + (bsz (leV Y) + 7) / 8 * (i + 1)) ≤ (k * (((bsz (leV Y)) + 7) / 8)) ∧ CallP Tryd.prog 24 [.pointer (some ⟨gt, 0, none⟩)] ((ba, .cells (#[nv ((undN (leV Y) (bsz (leV Y)) k X).1) lv26] : Array Value) 49) :: (bb, .cells (#[nv (leV Y) lv15] : Array Value) 49) :: (gt, .cells (#[.string (bs (X.drop ((bsz (leV Y) + 7) / 8 * (i + 1)))), .int .i64 (0 + (bsz (leV Y) + 7) / 8 * (i + 1) : Nat)] : Array Value) 73) :: O30) (.int .i64 (0 + (bsz (leV Y) + 7) / 8 * (i + 1) : Nat)) ∧ (((bsz (leV Y)) + 7) / 8) ≠ 0 ∧ ((0 + (bsz (leV Y) + 7) / 8 * (i + 1)) % (((bsz (leV Y)) + 7) / 8)) = 0 ∧ CallP Tryd.prog 9 [] ((ba, .cells (#[nv ((undN (leV Y) (bsz (leV Y)) k X).1) lv26] : Array Value) 49) :: (bb, .cells (#[nv (leV Y) lv15] : Array Value) 49) :: (gt, .cells (#[.string (bs (X.drop ((bsz (leV Y) + 7) / 8 * (i + 1)))), .int .i64 (0 + (bsz (leV Y) + 7) / 8 * (i + 1) : Nat)] : Array Value) 73) :: O30) (.bool true) ∧ Kt [(6, .bool true), (12, .int .i64 (((bsz (leV Y)) + 7) / 8 : Nat)), (11, .int .i64 (0 : Nat)), (10, .pointer (some ⟨ba, 0, none⟩)), (9, .int .i64 (k : Nat)), (8, .pointer (some ⟨bb, 0, none⟩)), (7, .pointer (some ⟨gt, 0, none⟩)), (0, .string (bs X)), (1, .string (bs Y))] ((ba, .cells (#[nv ((undN (leV Y) (bsz (leV Y)) k X).1) lv26] : Array Value) 49) :: (bb, .cells (#[nv (leV Y) lv15] : Array Value) 49) :: (gt, .cells (#[.string (bs (X.drop ((bsz (leV Y) + 7) / 8 * (i + 1)))), .int .i64 (0 + (bsz (leV Y) + 7) / 8 * (i + 1) : Nat)] : Array Value) 73) :: O30)) (by kernel_rfl) (fun _ => by kernel_rfl) (⟨(by decide), rfl, rfl, rfl, rfl, ⟨en_ncmp, fun w Hw => ncmp_any ((undN (leV Y) (bsz (leV Y)) k X).1) lv26 (qsz_un (bsz_ok _).1 (by omega)) (leV Y) lv15 w ((hN32.get 0 rfl).at (Has.tl (Has.tl (Has.tl Hw)))) ((hN32.get 1 rfl).at (Has.tl (Has.tl (Has.tl Hw))))⟩, (dec_t ((cmp_neg _ _).2 hE1)), ⟨en_tused, fun w Hw => tused_any gt (X.drop ((bsz (leV Y) + 7) / 8 * (i + 1))) (0 + (bsz (leV Y) + 7) / 8 * (i + 1)) w (Hw 2 _ rfl)⟩, (by rw [Nat.zero_add]; exact Nat.le_mul_of_pos_right _ (by omega)), ⟨en_tused, fun w Hw => tused_any gt (X.drop ((bsz (leV Y) + 7) / 8 * (i + 1))) (0 + (bsz (leV Y) + 7) / 8 * (i + 1)) w (Hw 2 _ rfl)⟩, (Nat.lt_of_le_of_lt (Nat.mul_le_mul hkb.2 hs41) (by decide)), (by rw [Nat.zero_add, Nat.mul_comm]; exact Nat.mul_le_mul_right _ hi), ⟨en_tused, fun w Hw => tused_any gt (X.drop ((bsz (leV Y) + 7) / 8 * (i + 1))) (0 + (bsz (leV Y) + 7) / 8 * (i + 1)) w (Hw 2 _ rfl)⟩, (by have := hbb; omega), (by rw [Nat.zero_add, Nat.mul_mod_right]), ⟨en_wakes, fun w Hw => wakes_w w (hT_34.at (Has.tl (Has.tl (Has.tl Hw))))⟩, fun ac40 wd40 FF40 MM40 => then_n ?_⟩))
      refine wp_ret ?_
      repeat first | refine then_ret ?_ | refine inb_ret ?_
      exact (ret_fr FF40 0 Tryd.results5 rfl ⟨rfl, MM40.belowN H (fun _ hx => List.mem_cons_of_mem _ (List.mem_cons_of_mem _ (List.mem_cons_of_mem _ (hz35 _ hx))))⟩)
theorem under_any (O : Blks) (hD : Distinct O) (hT : TabO O) (X Y : List Nat) (hX : ∀ i, X.getD i 0 < 256) (hY : ∀ i, Y.getD i 0 < 256) (z : Int) (hz1 : -9223372036854775808 ≤ z) (hz2 : z < 9223372036854775808) (w0 : World) (H : Has w0 O) : Calls Tryd.prog 5 #[.string (bs X), .string (bs Y), .int .i64 z] w0 fun e w' => e = .returned (.bool true) ∧ Below w0.heap.size w0 w' := by
  obtain ⟨k, hk⟩ : ∃ k, 1 + modZ z 16 = k := ⟨_, rfl⟩
  by_cases h0 : bsz (leV Y) < 1
  · exact under_zero O hD hT X Y hY z hz1 hz2 k hk h0 w0 H
  · rcases und_ways (leV Y) (bsz (leV Y)) k X with h | ⟨h1, h2, i, h3, h4⟩
    · exact under_cap O hD hT X Y hX hY z hz1 hz2 k hk (by omega) h w0 H
    · exact under_ok O hD hT X Y hX hY z hz1 hz2 k hk (by omega) h1 h2 i h3 h4 w0 H

end Go.Proofs.YtdeiodcfblldgaaDoor
namespace Go.Proofs.YtdeiodcfblldgaaDoor
open Go.RowKit

def pw10 : List Nat := [1, 10, 100, 1000, 10000, 100000, 1000000, 10000000, 100000000, 1000000000, 10000000000, 100000000000, 1000000000000, 10000000000000, 100000000000000, 1000000000000000, 10000000000000000, 100000000000000000, 1000000000000000000, 10000000000000000000]
theorem pw10_at : ∀ i : Fin 20, pw10[i.val]? = some (10 ^ i.val) := by decide +kernel
theorem tab_in {w : World} {T : TypeId} {fr : Nat × Nat} (h : w.heap[2]? = some (.cells (cn .u64 pw10) T fr)) : TabIn w := .inr ⟨2, _, T, fr, rfl, h, fun j hj => by
  have := pw10_at ⟨j, hj⟩
  simp [cn, this]⟩

end Go.Proofs.YtdeiodcfblldgaaDoor
namespace Go.Proofs.YtdeiodcfblldgaaDoor
open Go.ChangeShapes Go.WideShapes Go.ChangeAt Go.RowKit

theorem Tryd.own : ownKnob Tryd.prog.godebug = Option.none := by kernel_rfl
theorem Tryd.laidOut : laidOutB Tryd.prog = true := by kernel_rfl

section
variable {H : Type} {enc : TypeId × Value → H} {P : Program}

theorem trodAll_below (hl : laidOutB P = true) {W W' : World} (hb : Below W.heap.size W W') : ∀ (ts : List TypeId) (vs : List Value) (ds : List (DataW H)) (ps : List MemPlace), (∀ t ∈ ts, P.readableRec t = true ∧ t < P.types.size) →
    DataW.TrodAll enc P W 0 (fun _ => true) true ts vs ds ps → (∀ x ∈ ps, x.block < W.heap.size) → DataW.TrodAll enc P W' 0 (fun b => decide (b < W.heap.size)) true ts vs ds ps
  | [], [], [], _, _, h, _ => h
  | t :: ts, v :: vs, d :: ds, ps, hr, ⟨p, q, h1, h2, e⟩, hlt => by
    subst e
    obtain ⟨r1, r2⟩ := hr t (by simp)
    exact ⟨p, q, Below.trod hl r1 r2 h1 hb (fun x hx => hlt x (by simp [hx])), trodAll_below hl hb ts vs ds q (fun t ht => hr t (by simp [ht])) h2 (fun x hx => hlt x (by simp [hx])), rfl⟩
  | [], [], _ :: _, _, _, h, _ => h.elim
  | [], _ :: _, _, _, _, h, _ => by cases h
  | _ :: _, [], _, _, _, h, _ => by cases h
  | _ :: _, _ :: _, [], _, _, h, _ => h.elim

/-- What is asked behind a law's walk. -/
theorem post_true {f : Func} {s : ChangeSpec} {W W' : World} {args : Array Value} {ds : List (DataW H)} {before : List MemPlace} {T : TypeId} (hl : laidOutB P = true) (hr : ∀ t ∈ f.params.toList, P.readableRec t = true ∧ t < P.types.size) (hv : s.vars = [])
    (hW : DataW.Whole enc P f.params.toList s.vars false W args.toList ds [] before) (hres : (s.fn H (ds ++ [])).results = [.lit (.bool true)]) (hargs : (s.fn H (ds ++ [])).args = ds) (hvs : (s.fn H (ds ++ [])).vars = [])
    (hT : f.resultTypes = #[T]) (hu : P.underlying T = some .bool) (hb : Below W.heap.size W W') : s.post enc P f false true false false W args (.bool true) W' := by
  have hlt := hW.lt
  have hW' := hW
  obtain ⟨p, q, hA, hV, rfl, _, _⟩ := hW'
  refine ⟨ds, [], p ++ q, [], p, [], hW, ?_, ?_, ?_, hb.frame _, fun h => by cases h⟩
  · rw [hres, hT]
    exact trodAll_cons_mk (shut_bool hu _) rfl
  · rw [hargs]
    exact trodAll_below hl hb _ _ _ _ hr hA (fun x hx => hlt x (by simp [hx]))
  · rw [hvs, hv]
    exact rfl

theorem okWide_arr {w : World} {r : Reach} {base : Nat} {t : TypeId} {v : Value} {n : Nat} {e : TypeId} (ht : P.underlying t = some (.array n e)) (h : Value.okWide P w r base t v) : ∃ cs, v = .agg cs ∧ cs.size = P.cellsOf t := by
  simp only [Value.okWide, ht] at h
  obtain ⟨cs, h1, h2, _⟩ := h
  exact ⟨cs, h1, h2⟩
end

section
variable {H : Type} {enc : TypeId × Value → H} {P : Program}
/-- Bytes that come in within something greater. -/
theorem bytes_in {W : World} {base' : Nat} {spare : Nat → Bool} {held : Bool} {fuel n : Nat} {t e : TypeId} {L : List Value} {x : DataW H × List MemPlace} (hu : P.underlying t = some (.array n e)) (he : P.underlying e = some (.int .u8)) (hc : P.cellsOf e = 1) (hf : DataW.trod enc P W base' spare held fuel t L = some x) :
    ∃ ks : List Nat, Bytes n ks ∧ ∀ (j : Nat) (v : Value), (cn .u8 ks)[j]? = some v → L[j]? = some v := by
  obtain ⟨xs, m, _, _, _, hl, hel⟩ := DataW.trod_array hu hf
  rw [hc] at hel
  have key : ∀ i, i < n → ∃ k : Nat, L[i]? = some (.int .u8 (k : Int)) ∧ k < 256 := fun i hi => by
    have h1 := hel i hi
    have h2 : xs[i]? = some (xs[i]'(by omega)) := by simp
    rw [h2] at h1
    obtain ⟨k, e, _, wf⟩ := DataW.trod_int he h1
    obtain ⟨b0, b1⟩ := bounds_u8 wf
    obtain ⟨k, rfl⟩ := Int.eq_ofNat_of_zero_le b0
    refine ⟨k, ?_, by omega⟩
    rw [Nat.mul_one] at e
    have h3 := congrArg (fun l => l[0]?) e
    simpa using h3
  have hk : ∃ f : Nat → Nat, ∀ i, i < n → L[i]? = some (.int .u8 (f i : Int)) ∧ f i < 256 :=
    ⟨fun i => if h : i < n then (key i h).choose else 0, fun i hi => by simp only [hi, dif_pos]; exact (key i hi).choose_spec⟩
  obtain ⟨f, hf⟩ := hk
  refine ⟨(List.range n).map f, ⟨by simp, fun i => ?_⟩, fun j v hv => ?_⟩
  · rcases Nat.lt_or_ge i n with h | h
    · simp [h]; exact (hf i h).2
    · simp [h]
  · rcases Nat.lt_or_ge j n with h | h
    · rw [(hf j h).1, ← hv, cn_get _ _ _ (by simpa using h)]; simp [h]
    · rw [Array.getElem?_eq_none (by rw [cn_size]; simpa using h)] at hv; cases hv
theorem part_in {ks : List Nat} {cs : Array Value} {k off : Nat} (h : ∀ (j : Nat) (v : Value), (cn .u8 ks)[j]? = some v → (List.take k (List.drop off (Value.agg cs).cells.toList))[j]? = some v) : ∀ (j : Nat) (v : Value), (cn .u8 ks)[j]? = some v → cs[off + j]? = some v := fun j v hv => by
  have := h j v hv
  rw [List.getElem?_take] at this
  split at this
  · simpa [Value.cells] using this
  · cases this
/-- An array of bytes that comes in alone. -/
theorem open_bytes {W : World} {r : Reach} {base base' : Nat} {spare : Nat → Bool} {held : Bool} {v : Value} {d : DataW H} {p : List MemPlace} {t e : TypeId} {n : Nat} (hu : P.underlying t = some (.array n e)) (he : P.underlying e = some (.int .u8)) (hc : P.cellsOf e = 1) (ht : P.cellsOf t = n)
    (hv : Value.okWide P W r base t v) (h : DataW.Trod enc P W base' spare held t v d p) : ∃ ks : List Nat, Bytes n ks ∧ v = .agg (cn .u8 ks) := by
  obtain ⟨cs, rfl, hsz⟩ := okWide_arr hu hv
  rw [ht] at hsz
  obtain ⟨fuel, hf⟩ := h
  obtain ⟨ks, bk, pk⟩ := bytes_in hu he hc hf
  refine ⟨ks, bk, ?_⟩
  congr 1
  refine Array.ext_getElem? fun i => ?_
  rcases Nat.lt_or_ge i n with hi | hi
  · have h1 := cn_get .u8 ks i (by rw [bk.len]; exact hi)
    have h2 := pk i _ h1
    rw [h1]
    simpa [Value.cells] using h2
  · rw [Array.getElem?_eq_none (by omega), Array.getElem?_eq_none (by rw [cn_size, bk.len]; exact hi)]
/-- An array of strings that comes in alone. -/
theorem open_strs {W : World} {r : Reach} {base base' : Nat} {spare : Nat → Bool} {held : Bool} {v : Value} {d : DataW H} {p : List MemPlace} {t e : TypeId} {n : Nat} (hu : P.underlying t = some (.array n e)) (he : P.underlying e = some .string) (hc : P.cellsOf e = 1) (ht : P.cellsOf t = n)
    (hv : Value.okWide P W r base t v) (h : DataW.Trod enc P W base' spare held t v d p) : ∃ Ts : List (List Nat), Ts.length = n ∧ (∀ X ∈ Ts, (∀ i, X.getD i 0 < 256) ∧ X.length ≤ maxLen) ∧ v = .agg (Ts.map fun X => Value.string (bs X)).toArray := by
  obtain ⟨cs, rfl, hsz⟩ := okWide_arr hu hv
  rw [ht] at hsz
  obtain ⟨fuel, hf⟩ := h
  obtain ⟨xs, m, _, _, _, hl, hel⟩ := DataW.trod_array hu hf
  rw [hc] at hel
  have key : ∀ i, i < n → ∃ s : ByteArray, cs[i]? = some (.string s) ∧ s.size ≤ maxLen := fun i hi => by
    have h1 := hel i hi
    have h2 : xs[i]? = some (xs[i]'(by omega)) := by simp
    rw [h2] at h1
    obtain ⟨s, e, _, hm⟩ := DataW.trod_string he h1
    refine ⟨s, ?_, hm⟩
    rw [Nat.mul_one] at e
    have h3 := congrArg (fun l => l[0]?) e
    simpa [Value.cells] using h3
  have hk : ∃ f : Nat → ByteArray, ∀ i, i < n → cs[i]? = some (.string (f i)) ∧ (f i).size ≤ maxLen :=
    ⟨fun i => if h : i < n then (key i h).choose else ByteArray.empty, fun i hi => by simp only [hi, dif_pos]; exact (key i hi).choose_spec⟩
  obtain ⟨f, hf⟩ := hk
  refine ⟨(List.range n).map fun i => nl (f i), by simp, fun X hX => ?_, ?_⟩
  · obtain ⟨i, hi, rfl⟩ := List.mem_map.1 hX
    exact ⟨nl_lt _, by rw [nl_len]; exact (hf i (by simpa using hi)).2⟩
  · congr 1
    refine Array.ext_getElem? fun i => ?_
    rcases Nat.lt_or_ge i n with hi | hi
    · rw [(hf i hi).1]; simp [hi, bs_nl]
    · rw [Array.getElem?_eq_none (by omega), Array.getElem?_eq_none (by simp; omega)]
end
end Go.Proofs.YtdeiodcfblldgaaDoor
namespace Go.Proofs.YtdeiodcfblldgaaDoor
open Go.ChangeShapes Go.WideShapes Go.ChangeAt Go.RowKit
section
variable {P : Program} {H : Type} {enc : TypeId × Value → H} {W : World} {r : Reach} {base base' : Nat} {spare : Nat → Bool} {held : Bool}
theorem strs_cells {t e : TypeId} {fuel : Nat} {cs0 : List Value} {x : DataW H × List MemPlace} (ht : P.underlying t = some (.slice e)) (he : P.underlying e = some .string) (hc : P.cellsOf e = 1) (hf : DataW.trod enc P W base' spare held fuel t cs0 = some x) :
    ∃ (q : Option Addr) (Ps : List (List Nat)) (c : Nat), cs0 = [.slice q Ps.length c] ∧ (∀ X ∈ Ps, ∀ i, X.getD i 0 < 256) ∧ StrsIn W q Ps ∧ Ps.length ≤ maxLen := by
  rcases Go.ChangeShapes.open_strings ht he hc hf with ⟨e, _⟩ | ⟨a, n, cap, ss, e, hb, hl, hm, hss, hx, hcell, hmax⟩
  · exact ⟨none, [], 0, e, fun X hX => (nomatch hX), .inl rfl, Nat.zero_le _⟩
  · rcases Nat.eq_zero_or_pos n with rfl | hn
    · exact ⟨some a, [], cap, e, fun X hX => (nomatch hX), .inl rfl, Nat.zero_le _⟩
    · have hle : n ≤ ss.length := by rw [hss]; split <;> omega
      have h0 := hcell 0 (by omega)
      rw [show a.add 0 = a from rfl] at h0
      have hsp : a.spot = none ∧ ∃ cs T9 fr, W.heap[a.block]? = some (.cells cs T9 fr) := by
        unfold World.cell? at h0
        split at h0
        · rename_i cs T9 fr hblk
          split at h0
          · cases h0
          · rename_i hs
            exact ⟨by cases hq : a.spot with | none => rfl | some x => (rw [hq] at hs; simp at hs), cs, T9, fr, hblk⟩
        · cases h0
      obtain ⟨hs, cs, T9, fr, hblk⟩ := hsp
      obtain ⟨ab, ao, asp⟩ := a
      simp only at hs hblk
      subst hs
      have hlen : ((ss.take n).map nl).length = n := by simp; omega
      refine ⟨some ⟨ab, ao, none⟩, (ss.take n).map nl, cap, by rw [e, hlen], fun X hX => ?_, .inr ⟨ab, ao, cs, T9, fr, rfl, hblk, fun j hj => ?_⟩, by omega⟩
      · obtain ⟨s, _, rfl⟩ := List.mem_map.1 hX
        exact nl_lt s
      · rw [hlen] at hj
        have := hcell j (by omega)
        rw [add_off, cell_of hblk] at this
        rw [this]
        congr 1
        rw [List.getD_eq_getElem?_getD, List.getD_eq_getElem?_getD, List.getElem?_map, List.getElem?_take, if_pos hj, List.getElem?_eq_getElem (show j < ss.length by omega)]
        simp [bs_nl]
theorem strs_param {t e : TypeId} {v : Value} {d : DataW H} {p : List MemPlace} (ht : P.underlying t = some (.slice e)) (he : P.underlying e = some .string) (hc : P.cellsOf e = 1) (hv : Value.okWide P W r base t v) (h : DataW.Trod enc P W base' spare held t v d p) :
    ∃ (q : Option Addr) (Ps : List (List Nat)) (c : Nat), v = .slice q Ps.length c ∧ (∀ X ∈ Ps, ∀ i, X.getD i 0 < 256) ∧ StrsIn W q Ps ∧ Ps.length ≤ maxLen := by
  obtain ⟨q, n, c, rfl⟩ := okWide_slice ht hv
  obtain ⟨fuel, hf⟩ := h
  obtain ⟨q', Ps, c', e, h1, h2, h3⟩ := strs_cells ht he hc hf
  exact ⟨q', Ps, c', by simpa [Value.cells] using e, h1, h2, h3⟩
end
end Go.Proofs.YtdeiodcfblldgaaDoor
namespace Go.Proofs.YtdeiodcfblldgaaDoor
open Go.RowKit

theorem laid_mem {P : Program} {W : World} : ∀ (laid : List (String × DataW Unit)) (ps : List MemPlace), DataW.LaidVars P W laid ps → ∀ x ∈ laid, ∃ g t cs fuel p, P.globalNamed x.1 = some g ∧ (P.globals[g]?).map (·.type) = some t ∧ W.var? P x.1 = some cs ∧ DataW.trod (fun _ => ()) P W 0 (fun _ => true) false fuel t cs.toList = some (x.2, p)
  | [], _, _, _, hx => by cases hx
  | (n, d) :: r, ps, h, x, hx => by
    obtain ⟨g, t, cs, fuel, p, q, h1, h2, h3, h4, h5, _⟩ := h
    rcases List.mem_cons.1 hx with rfl | hx
    · exact ⟨g, t, cs, fuel, p, h1, h2, h3, h4⟩
    · exact laid_mem r q h5 x hx
/-- A table of numbers that is laid lies in its block. -/
theorem tab_of {P : Program} {W : World} {laid : List (String × DataW Unit)} {n : String} {D : DataW Unit} {g : Nat} {t e : TypeId} {m : Nat} {k : IntKind} {K : List Nat} (h : laidMetH P laid W) (hH : (laid.all fun x => x.2.handleName?.isNone) = true) (hx : (n, D) ∈ laid)
    (hg : P.globalNamed n = some g) (ht : (P.globals[g]?).map (·.type) = some t) (hu : P.underlying t = some (.array m e)) (he : P.underlying e = some (.int k)) (hc : P.cellsOf e = 1) (hct : P.cellsOf t = m) (hD : D = .agg (K.map fun (x : Nat) => .lit (.int k (x : Int)))) (hK : K.length = m) :
    ∃ T fr, W.heap[g]? = some (.cells (cn k K) T fr) := by
  rw [MakeChecks.laidMetH_plain _ _ _ hH] at h
  obtain ⟨ps, hl, _⟩ := h
  obtain ⟨g', t', cs, fuel, p, h1, h2, h3, h4⟩ := laid_mem laid ps hl _ hx
  obtain rfl := Option.some.inj (hg.symm.trans h1)
  obtain rfl := Option.some.inj (ht.symm.trans h2)
  have hb : ∃ T fr, W.heap[g]? = some (.cells cs T fr) := by
    simp only [World.var?, hg, Option.bind_some] at h3
    split at h3
    · rename_i c T fr hb
      cases h3
      exact ⟨T, fr, hb⟩
    · cases h3
  obtain ⟨T, fr, hb⟩ := hb
  refine ⟨T, fr, ?_⟩
  rw [hb]
  obtain ⟨xs, m1, _, hx1, hlen, hn, hel⟩ := DataW.trod_array hu h4
  have hx2 : D = .agg (xs.map fun x => x.1) := (Prod.mk.inj hx1).1
  rw [hD] at hx2
  have hx3 : (K.map fun (x : Nat) => (DataW.lit (.int k (x : Int)) : DataW Unit)) = xs.map fun x => x.1 := by injection hx2
  have hcs : cs = cn k K := by
    refine Array.ext_getElem? fun i => ?_
    rcases Nat.lt_or_ge i m with hi | hi
    · have e1 := hel i hi
      have e2 : xs[i]? = some (xs[i]'(by omega)) := by simp
      rw [e2, hc] at e1
      obtain ⟨z, e3, e4, _⟩ := DataW.trod_int he e1
      have e5 := congrArg (fun l => l[i]?) hx3
      simp only [List.getElem?_map, e2, e4, List.getElem?_eq_getElem (show i < K.length by omega), Option.map_some, Option.some.injEq, DataW.lit.injEq, Lit.int.injEq] at e5
      have e6 := congrArg (fun l => l[0]?) e3
      rw [Nat.mul_one] at e6
      have e7 : cs[i]? = some (.int k z) := by simpa using e6
      rw [e7, cn_get k K i (by omega), ← e5.2]
      simp [show i < K.length by omega]
    · rw [Array.getElem?_eq_none (by rw [← Array.length_toList, hlen, hct]; exact hi), Array.getElem?_eq_none (by rw [cn_size, hK]; exact hi)]
  rw [hcs]
end Go.Proofs.YtdeiodcfblldgaaDoor
