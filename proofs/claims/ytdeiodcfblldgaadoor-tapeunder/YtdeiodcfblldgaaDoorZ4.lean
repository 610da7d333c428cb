/- Several texts in one: The law TapeUnder. The table of the powers of ten, as the text lays it. From a walk to a row: a law that returns true and writes nothing that was there; arrays of bytes that come in. Package-level tables of numbers: what the row says that they hold, as a block. -/
import Derived.Test.YtdeiodcfblldgaaDoorZ3
import Derived.Test.YtdeiodcfblldgaaDoorZ2
import Derived.Test.YtdeiodcfblldgaaDoorRows
import Derived.WalkKit
import Derived.Test.YtdeiodcfblldgaaDoorZ1
import Derived.Below
import Derived.ProofKit
import Derived.OpenShut
import Derived.ChangeOld
import Derived.MakeChecks
import Derived.LaidMore
import Derived.LaidHandle
import Derived.Stop.Joined
namespace Go.Proofs.YtdeiodcfblldgaaDoor
open Go.RowKit
theorem leV_40 {X : List Nat} (hX : ∀ i, X.getD i 0 < 256) (h : X.length ≤ 40) : bsz (leV X) ≤ 320 := bsz_le (Nat.lt_of_lt_of_le (leV_lt X hX) (Nat.le_trans (Nat.pow_le_pow_right (by decide) h) (by decide +kernel)))
set_option maxRecDepth 100000 in
theorem under_zero (O : Blks) (hD : Distinct O) (hT : TabO O) (X Y : List Nat) (hY : ∀ i, Y.getD i 0 < 256) (z : Int) (hz1 : -9223372036854775808 ≤ z) (hz2 : z < 9223372036854775808) (k : Nat) (hk : 1 + modZ z 16 = k) (h0 : bsz (leV Y) < 1) (w0 : World) (H : Has w0 O) :
    Calls Tryd.prog 5 #[sB X, sB Y, .int .i64 z] w0 fun e w' => e = .returned (.bool true) ∧ Below w0.heap.size w0 w' := by
  refine enter_fr Tryd.func5 rfl Tryd.ntmps5 (by simp) fun ac (FF : Fr 100 ac [(0, sB X), (1, sB Y), (2, .int .i64 (z : Int))]) => ?_
  have MM : MemS (fun k => k < w0.heap.size ∧ ∀ x ∈ O, x.1 ≠ k) w0 w0 O [] := MemS.startN H hD
  refine wp_seq (rg_seq FF MM [o_] [0, 1, 2, 6] (fun Kt => Kt [(6, .bool false), (0, sB X), (1, sB Y), (2, .int .i64 (z : Int))] O) (by kernel_rfl) (fun _ => by kernel_rfl) (fun ac1 wd1 FF1 MM1 => then_n ?_))
  refine wp_seq ?_
  by_cases h1 : X.length > 500
  · skip
    refine wp_seq (rg_seq FF1 MM1 [o_, t_ (iN X.length), w_ 2, o_, o_, o_, o_, o_] [6, 0, 1, 2, 20] (fun Kt => iN ((bs X).size) = iN X.length ∧ X.length > 500 ∧ Kt [(20, .bool true), (6, .bool false), (0, sB X), (1, sB Y), (2, .int .i64 (z : Int))] O) (by kernel_rfl) (fun _ => by kernel_rfl) (⟨(vI (bs_size _)), h1, fun ac2 wd2 FF2 MM2 => then_n ?_⟩))
    refine wp_cond_true (FF2.ev 0 rfl) ?_
    refine wp_seq (rg_seq FF2 MM2 [u_ 1 (.bool true), o_] [6, 0, 1, 2] (fun Kt => CallP Tryd.prog 9 [] O (.bool true) ∧ Kt [(6, .bool true), (0, sB X), (1, sB Y), (2, .int .i64 (z : Int))] O) (by kernel_rfl) (fun _ => by kernel_rfl) (⟨⟨en_wakes, fun w Hw => wakes_w w (hT.at Hw)⟩, fun ac3 wd3 FF3 MM3 => then_n ?_⟩))
    refine wp_ret ?_
    repeat first | refine then_ret ?_ | refine inb_ret ?_
    exact (ret_fr FF3 0 Tryd.results5 rfl ⟨rfl, MM3.belowN H (fun _ hx => hx)⟩)
  · by_cases h2 : Y.length > 40
    · skip
      refine wp_seq (rg_seq FF1 MM1 [o_, t_ (iN X.length), w_ 3, o_, o_, t_ (iN Y.length), w_ 2, o_] [6, 0, 1, 2, 20] (fun Kt => iN ((bs X).size) = iN X.length ∧ ¬ (X.length > 500) ∧ iN ((bs Y).size) = iN Y.length ∧ Y.length > 40 ∧ Kt [(20, .bool true), (6, .bool false), (0, sB X), (1, sB Y), (2, .int .i64 (z : Int))] O) (by kernel_rfl) (fun _ => by kernel_rfl) (⟨(vI (bs_size _)), h1, (vI (bs_size _)), h2, fun ac4 wd4 FF4 MM4 => then_n ?_⟩))
      refine wp_cond_true (FF4.ev 0 rfl) ?_
      refine wp_seq (rg_seq FF4 MM4 [u_ 1 (.bool true), o_] [6, 0, 1, 2] (fun Kt => CallP Tryd.prog 9 [] O (.bool true) ∧ Kt [(6, .bool true), (0, sB X), (1, sB Y), (2, .int .i64 (z : Int))] O) (by kernel_rfl) (fun _ => by kernel_rfl) (⟨⟨en_wakes, fun w Hw => wakes_w w (hT.at Hw)⟩, fun ac5 wd5 FF5 MM5 => then_n ?_⟩))
      refine wp_ret ?_
      repeat first | refine then_ret ?_ | refine inb_ret ?_
      exact (ret_fr FF5 0 Tryd.results5 rfl ⟨rfl, MM5.belowN H (fun _ hx => hx)⟩)
    · skip
      refine wp_seq (rg_seq FF1 MM1 [o_, t_ (iN X.length), w_ 3, o_, o_, t_ (iN Y.length), w_ 3, o_] [6, 0, 1, 2, 20] (fun Kt => iN ((bs X).size) = iN X.length ∧ ¬ (X.length > 500) ∧ iN ((bs Y).size) = iN Y.length ∧ ¬ (Y.length > 40) ∧ Kt [(20, .bool false), (6, .bool false), (0, sB X), (1, sB Y), (2, .int .i64 (z : Int))] O) (by kernel_rfl) (fun _ => by kernel_rfl) (⟨(vI (bs_size _)), h1, (vI (bs_size _)), h2, fun ac6 wd6 FF6 MM6 => then_n ?_⟩))
      refine wp_cond_false (FF6.ev 0 rfl) ?_
      refine wp_skip ?_
      refine then_n ?_
      have hq := qok (leV_100 hY (by omega))
      have hbb := leV_40 hY (by omega)
      have hs41 : (bsz (leV Y) + 7) / 8 ≤ 41 := by omega
      have hkb : 1 ≤ k ∧ k ≤ 16 := by have := modZ_lt z (m := 16) (by decide); omega
      refine wp_seq (wp_region_list ?_)
      refine rg_part 1 FF6 MM6 [o_] [6, 0, 1, 2, 22] (fun Kt => Kt [(22, sB X), (6, .bool false), (0, sB X), (1, sB Y), (2, .int .i64 (z : Int))] O) (by kernel_rfl) (fun _ => by kernel_rfl) (fun ac7 wd7 FF7 MM7 => ?_)
      refine st_callE [6, 0, 1, 2, 23] FF7 (d := 23) (mk := fun v => v) en_tnew rfl rfl (tnew_any X _) rfl (by kernel_rfl) (by decide) fun ac9 wd9 lv8 (FF9 : Fr 100 ac9 [(23, lv8), (6, .bool false), (0, sB X), (1, sB Y), (2, .int .i64 (z : Int))]) hr10 => ?_
      obtain ⟨gt, rfl, hB_gt, hf_gt, hb_gt⟩ := hr10
      have MM11 := MM7.keep hB_gt
      have MM12 : MemS (fun k => k < w0.heap.size ∧ ∀ x ∈ O, x.1 ≠ k) w0 wd9 ((gt, oC #[sB X, iN 0] 73) :: O) [] := MM7.addFresh MM11 hb_gt hf_gt
      refine rg_part 1 FF9 MM12 [o_] [6, 0, 1, 2, 7] (fun Kt => Kt [(7, pT gt), (6, .bool false), (0, sB X), (1, sB Y), (2, .int .i64 (z : Int))] ((gt, oC #[sB X, iN 0] 73) :: O)) (by kernel_rfl) (fun _ => by kernel_rfl) (fun ac13 wd13 FF13 MM13 => ?_)
      refine wpl_nil (then_n ?_)
      refine wp_seq (wp_region_list ?_)
      refine rg_part 1 FF13 MM13 [o_] [7, 6, 0, 1, 2, 24] (fun Kt => Kt [(24, sB Y), (7, pT gt), (6, .bool false), (0, sB X), (1, sB Y), (2, .int .i64 (z : Int))] ((gt, oC #[sB X, iN 0] 73) :: O)) (by kernel_rfl) (fun _ => by kernel_rfl) (fun ac14 wd14 FF14 MM14 => ?_)
      refine st_callE [7, 6, 0, 1, 2, 25] FF14 (d := 25) (mk := fun v => .agg #[nv (leV Y) v]) en_nbytes rfl rfl (nbytes_any Y hY (by omega) _) rfl (by kernel_rfl) (by decide) fun ac16 wd16 lv15 (FF16 : Fr 100 ac16 [(25, aG #[nv (leV Y) lv15]), (7, pT gt), (6, .bool false), (0, sB X), (1, sB Y), (2, .int .i64 (z : Int))]) hr17 => ?_
      obtain ⟨O18, MM190, hN20, hs21⟩ := MemS.addNats (K := [(gt, oC #[sB X, iN 0] 73)]) (O := O) MM14 hr17.1 hr17.2 (Nats.nil O)
      have MM19 : MemS (fun k => k < w0.heap.size ∧ ∀ x ∈ O, x.1 ≠ k) w0 wd16 ((gt, oC #[sB X, iN 0] 73) :: O18) [] := MM190
      have hT_22 := hT.mono hs21
      refine rg_part 2 FF16 MM19 [o_, b_ 0] [7, 6, 0, 1, 2, 8] (fun Kt => ∀ bb, bb = bb ∧ (#[.slice none 0 0] : Array Value).size = 1 ∧ (#[nv (leV Y) lv15] : Array Value).size = 1 ∧ (#[nv (leV Y) lv15] : Array Value).all (·.oneCell') = true ∧ (0, 0).2 = 0 ∧ Kt [(8, pT bb), (7, pT gt), (6, .bool false), (0, sB X), (1, sB Y), (2, .int .i64 (z : Int))] ((bb, oC #[nv (leV Y) lv15] 49) :: (gt, oC #[sB X, iN 0] 73) :: O18)) (by kernel_rfl) (fun _ => by kernel_rfl) (fun bb => ⟨rfl, rfl, rfl, (by kernel_rfl), rfl, fun ac23 wd23 FF23 MM23 => ?_⟩)
      refine wpl_nil (then_n ?_)
      refine wp_seq (rg_seq FF23 MM23 [o_, t_ (iN (modZ z 16)), t_ (iN k), o_] [8, 7, 6, 0, 1, 9] (fun Kt => CallP Tryd.prog 25 [.int .i64 (z : Int), iN 16] [] (iN (modZ z 16)) ∧ 1 + (modZ z 16) < 9223372036854775808 ∧ iN (1 + (modZ z 16)) = iN k ∧ Kt [(9, iN k), (8, pT bb), (7, pT gt), (6, .bool false), (0, sB X), (1, sB Y)] ((bb, oC #[nv (leV Y) lv15] 49) :: (gt, oC #[sB X, iN 0] 73) :: O18)) (by kernel_rfl) (fun _ => by kernel_rfl) (⟨(callP_of en_kmod (kmod_any z 16 hz1 hz2 (by decide) (by decide)) _), (by have := modZ_lt z (m := 16) (by decide); omega), (vI hk), fun ac24 wd24 FF24 MM24 => then_n ?_⟩))
      refine wp_seq (rg_seq FF24 MM24 [o_, b_ 0, o_, u_ 1 (.tuple #[aG #[.slice none 0 0], iN 1]), o_, o_, o_, o_, b_ 0, o_] [9, 8, 7, 6, 0, 1, 10, 11] (fun Kt => bb = bb ∧ (#[nv (leV Y) lv15] : Array Value).size = 1 ∧ CallP Tryd.prog 19 [pT gt, aG #[nv (leV Y) lv15], iN k] ((bb, oC #[nv (leV Y) lv15] 49) :: (gt, oC #[sB X, iN 0] 73) :: O18) (.tuple #[aG #[.slice none 0 0], iN 1]) ∧ ∀ ba, ba = ba ∧ (#[.slice none 0 0] : Array Value).size = 1 ∧ (#[.slice none 0 0] : Array Value).size = 1 ∧ (#[.slice none 0 0] : Array Value).all (·.oneCell') = true ∧ (0, 0).2 = 0 ∧ Kt [(11, iN 1), (10, pT ba), (9, iN k), (8, pT bb), (7, pT gt), (6, .bool false), (0, sB X), (1, sB Y)] ((ba, oC #[.slice none 0 0] 49) :: (bb, oC #[nv (leV Y) lv15] 49) :: (gt, oC #[sB X, iN 0] 73) :: O18)) (by kernel_rfl) (fun _ => by kernel_rfl) (⟨rfl, rfl, ⟨en_tunder, fun w Hw => tunder_zero gt (leV Y) lv15 hq ((k : Nat) : Int) h0 w ((hN20.get 0 rfl).at (Has.tl (Has.tl Hw)))⟩, fun ba => ⟨rfl, rfl, rfl, (by kernel_rfl), rfl, fun ac25 wd25 FF25 MM25 => then_n ?_⟩⟩))
      refine wp_seq (rg_seq FF25 MM25 [b_ 1, u_ 1 (iN (bsz (leV Y))), o_, o_, o_] [11, 10, 9, 8, 7, 6, 0, 1, 12] (fun Kt => bb = bb ∧ (#[nv (leV Y) lv15] : Array Value).size = 1 ∧ CallP Tryd.prog 26 [aG #[nv (leV Y) lv15]] ((ba, oC #[.slice none 0 0] 49) :: (bb, oC #[nv (leV Y) lv15] 49) :: (gt, oC #[sB X, iN 0] 73) :: O18) (iN (bsz (leV Y))) ∧ (bsz (leV Y)) + 7 < 9223372036854775808 ∧ 8 ≠ 0 ∧ ((bsz (leV Y)) + 7) / 8 < 9223372036854775808 ∧ Kt [(12, iN (((bsz (leV Y)) + 7) / 8)), (11, iN 1), (10, pT ba), (9, iN k), (8, pT bb), (7, pT gt), (6, .bool false), (0, sB X), (1, sB Y)] ((ba, oC #[.slice none 0 0] 49) :: (bb, oC #[nv (leV Y) lv15] 49) :: (gt, oC #[sB X, iN 0] 73) :: O18)) (by kernel_rfl) (fun _ => by kernel_rfl) (⟨rfl, rfl, ⟨en_nbits, fun w Hw => nbits_any (leV Y) lv15 hq w ((hN20.get 0 rfl).at (Has.tl (Has.tl (Has.tl Hw))))⟩, (by have := hbb; omega), (by decide), (by have := hbb; omega), fun ac26 wd26 FF26 MM26 => then_n ?_⟩))
      refine wp_seq ?_
      refine wp_seq (rg_seq FF26 MM26 [o_, w_ 2] [12, 11, 10, 9, 8, 7, 6, 0, 1, 41] (fun Kt => (((bsz (leV Y)) + 7) / 8) = 0 ∧ Kt [(41, .bool true), (12, iN (((bsz (leV Y)) + 7) / 8)), (11, iN 1), (10, pT ba), (9, iN k), (8, pT bb), (7, pT gt), (6, .bool false), (0, sB X), (1, sB Y)] ((ba, oC #[.slice none 0 0] 49) :: (bb, oC #[nv (leV Y) lv15] 49) :: (gt, oC #[sB X, iN 0] 73) :: O18)) (by kernel_rfl) (fun _ => by kernel_rfl) (⟨(by omega), fun ac27 wd27 FF27 MM27 => then_n ?_⟩))
      refine wp_cond_true (FF27.ev 0 rfl) ?_
      refine wp_seq (rg_seq FF27 MM27 [o_, w_ 2, o_, o_, u_ 1 (iN 0), w_ 2, o_, o_, u_ 1 (.bool true), o_, o_] [12, 11, 10, 9, 8, 7, 6, 0, 1] (fun Kt => 1 = 1 ∧ CallP Tryd.prog 24 [pT gt] ((ba, oC #[.slice none 0 0] 49) :: (bb, oC #[nv (leV Y) lv15] 49) :: (gt, oC #[sB X, iN 0] 73) :: O18) (iN 0) ∧ 0 = 0 ∧ CallP Tryd.prog 9 [] ((ba, oC #[.slice none 0 0] 49) :: (bb, oC #[nv (leV Y) lv15] 49) :: (gt, oC #[sB X, iN 0] 73) :: O18) (.bool true) ∧ Kt [(6, .bool true), (12, iN (((bsz (leV Y)) + 7) / 8)), (11, iN 1), (10, pT ba), (9, iN k), (8, pT bb), (7, pT gt), (0, sB X), (1, sB Y)] ((ba, oC #[.slice none 0 0] 49) :: (bb, oC #[nv (leV Y) lv15] 49) :: (gt, oC #[sB X, iN 0] 73) :: O18)) (by kernel_rfl) (fun _ => by kernel_rfl) (⟨(by decide), ⟨en_tused, fun w Hw => tused_any gt X 0 w (Hw 2 _ rfl)⟩, (by decide), ⟨en_wakes, fun w Hw => wakes_w w (hT_22.at (Has.tl (Has.tl (Has.tl Hw))))⟩, fun ac28 wd28 FF28 MM28 => then_n ?_⟩))
      refine wp_ret ?_
      repeat first | refine then_ret ?_ | refine inb_ret ?_
      exact (ret_fr FF28 0 Tryd.results5 rfl ⟨rfl, MM28.belowN H (fun _ hx => List.mem_cons_of_mem _ (List.mem_cons_of_mem _ (List.mem_cons_of_mem _ (hs21 _ hx))))⟩)
set_option maxRecDepth 100000 in
theorem under_cap (O : Blks) (hD : Distinct O) (hT : TabO O) (X Y : List Nat) (hX : ∀ i, X.getD i 0 < 256) (hY : ∀ i, Y.getD i 0 < 256) (z : Int) (hz1 : -9223372036854775808 ≤ z) (hz2 : z < 9223372036854775808) (k : Nat) (hk : 1 + modZ z 16 = k) (h0 : 1 ≤ bsz (leV Y)) (hE : (undN (leV Y) (bsz (leV Y)) k X) = (0, 3, (bsz (leV Y) + 7) / 8 * k)) (w0 : World) (H : Has w0 O) :
    Calls Tryd.prog 5 #[sB X, sB Y, .int .i64 z] w0 fun e w' => e = .returned (.bool true) ∧ Below w0.heap.size w0 w' := by
  refine enter_fr Tryd.func5 rfl Tryd.ntmps5 (by simp) fun ac (FF : Fr 100 ac [(0, sB X), (1, sB Y), (2, .int .i64 (z : Int))]) => ?_
  have MM : MemS (fun k => k < w0.heap.size ∧ ∀ x ∈ O, x.1 ≠ k) w0 w0 O [] := MemS.startN H hD
  refine wp_seq (rg_seq FF MM [o_] [0, 1, 2, 6] (fun Kt => Kt [(6, .bool false), (0, sB X), (1, sB Y), (2, .int .i64 (z : Int))] O) (by kernel_rfl) (fun _ => by kernel_rfl) (fun ac1 wd1 FF1 MM1 => then_n ?_))
  refine wp_seq ?_
  by_cases h1 : X.length > 500
  · skip
    refine wp_seq (rg_seq FF1 MM1 [o_, t_ (iN X.length), w_ 2, o_, o_, o_, o_, o_] [6, 0, 1, 2, 20] (fun Kt => iN ((bs X).size) = iN X.length ∧ X.length > 500 ∧ Kt [(20, .bool true), (6, .bool false), (0, sB X), (1, sB Y), (2, .int .i64 (z : Int))] O) (by kernel_rfl) (fun _ => by kernel_rfl) (⟨(vI (bs_size _)), h1, fun ac2 wd2 FF2 MM2 => then_n ?_⟩))
    refine wp_cond_true (FF2.ev 0 rfl) ?_
    refine wp_seq (rg_seq FF2 MM2 [u_ 1 (.bool true), o_] [6, 0, 1, 2] (fun Kt => CallP Tryd.prog 9 [] O (.bool true) ∧ Kt [(6, .bool true), (0, sB X), (1, sB Y), (2, .int .i64 (z : Int))] O) (by kernel_rfl) (fun _ => by kernel_rfl) (⟨⟨en_wakes, fun w Hw => wakes_w w (hT.at Hw)⟩, fun ac3 wd3 FF3 MM3 => then_n ?_⟩))
    refine wp_ret ?_
    repeat first | refine then_ret ?_ | refine inb_ret ?_
    exact (ret_fr FF3 0 Tryd.results5 rfl ⟨rfl, MM3.belowN H (fun _ hx => hx)⟩)
  · by_cases h2 : Y.length > 40
    · skip
      refine wp_seq (rg_seq FF1 MM1 [o_, t_ (iN X.length), w_ 3, o_, o_, t_ (iN Y.length), w_ 2, o_] [6, 0, 1, 2, 20] (fun Kt => iN ((bs X).size) = iN X.length ∧ ¬ (X.length > 500) ∧ iN ((bs Y).size) = iN Y.length ∧ Y.length > 40 ∧ Kt [(20, .bool true), (6, .bool false), (0, sB X), (1, sB Y), (2, .int .i64 (z : Int))] O) (by kernel_rfl) (fun _ => by kernel_rfl) (⟨(vI (bs_size _)), h1, (vI (bs_size _)), h2, fun ac4 wd4 FF4 MM4 => then_n ?_⟩))
      refine wp_cond_true (FF4.ev 0 rfl) ?_
      refine wp_seq (rg_seq FF4 MM4 [u_ 1 (.bool true), o_] [6, 0, 1, 2] (fun Kt => CallP Tryd.prog 9 [] O (.bool true) ∧ Kt [(6, .bool true), (0, sB X), (1, sB Y), (2, .int .i64 (z : Int))] O) (by kernel_rfl) (fun _ => by kernel_rfl) (⟨⟨en_wakes, fun w Hw => wakes_w w (hT.at Hw)⟩, fun ac5 wd5 FF5 MM5 => then_n ?_⟩))
      refine wp_ret ?_
      repeat first | refine then_ret ?_ | refine inb_ret ?_
      exact (ret_fr FF5 0 Tryd.results5 rfl ⟨rfl, MM5.belowN H (fun _ hx => hx)⟩)
    · skip
      refine wp_seq (rg_seq FF1 MM1 [o_, t_ (iN X.length), w_ 3, o_, o_, t_ (iN Y.length), w_ 3, o_] [6, 0, 1, 2, 20] (fun Kt => iN ((bs X).size) = iN X.length ∧ ¬ (X.length > 500) ∧ iN ((bs Y).size) = iN Y.length ∧ ¬ (Y.length > 40) ∧ Kt [(20, .bool false), (6, .bool false), (0, sB X), (1, sB Y), (2, .int .i64 (z : Int))] O) (by kernel_rfl) (fun _ => by kernel_rfl) (⟨(vI (bs_size _)), h1, (vI (bs_size _)), h2, fun ac6 wd6 FF6 MM6 => then_n ?_⟩))
      refine wp_cond_false (FF6.ev 0 rfl) ?_
      refine wp_skip ?_
      refine then_n ?_
      have hq := qok (leV_100 hY (by omega))
      have hbb := leV_40 hY (by omega)
      have hs41 : (bsz (leV Y) + 7) / 8 ≤ 41 := by omega
      have hkb : 1 ≤ k ∧ k ≤ 16 := by have := modZ_lt z (m := 16) (by decide); omega
      refine wp_seq (wp_region_list ?_)
      refine rg_part 1 FF6 MM6 [o_] [6, 0, 1, 2, 22] (fun Kt => Kt [(22, sB X), (6, .bool false), (0, sB X), (1, sB Y), (2, .int .i64 (z : Int))] O) (by kernel_rfl) (fun _ => by kernel_rfl) (fun ac7 wd7 FF7 MM7 => ?_)
      refine st_callE [6, 0, 1, 2, 23] FF7 (d := 23) (mk := fun v => v) en_tnew rfl rfl (tnew_any X _) rfl (by kernel_rfl) (by decide) fun ac9 wd9 lv8 (FF9 : Fr 100 ac9 [(23, lv8), (6, .bool false), (0, sB X), (1, sB Y), (2, .int .i64 (z : Int))]) hr10 => ?_
      obtain ⟨gt, rfl, hB_gt, hf_gt, hb_gt⟩ := hr10
      have MM11 := MM7.keep hB_gt
      have MM12 : MemS (fun k => k < w0.heap.size ∧ ∀ x ∈ O, x.1 ≠ k) w0 wd9 ((gt, oC #[sB X, iN 0] 73) :: O) [] := MM7.addFresh MM11 hb_gt hf_gt
      refine rg_part 1 FF9 MM12 [o_] [6, 0, 1, 2, 7] (fun Kt => Kt [(7, pT gt), (6, .bool false), (0, sB X), (1, sB Y), (2, .int .i64 (z : Int))] ((gt, oC #[sB X, iN 0] 73) :: O)) (by kernel_rfl) (fun _ => by kernel_rfl) (fun ac13 wd13 FF13 MM13 => ?_)
      refine wpl_nil (then_n ?_)
      refine wp_seq (wp_region_list ?_)
      refine rg_part 1 FF13 MM13 [o_] [7, 6, 0, 1, 2, 24] (fun Kt => Kt [(24, sB Y), (7, pT gt), (6, .bool false), (0, sB X), (1, sB Y), (2, .int .i64 (z : Int))] ((gt, oC #[sB X, iN 0] 73) :: O)) (by kernel_rfl) (fun _ => by kernel_rfl) (fun ac14 wd14 FF14 MM14 => ?_)
      refine st_callE [7, 6, 0, 1, 2, 25] FF14 (d := 25) (mk := fun v => .agg #[nv (leV Y) v]) en_nbytes rfl rfl (nbytes_any Y hY (by omega) _) rfl (by kernel_rfl) (by decide) fun ac16 wd16 lv15 (FF16 : Fr 100 ac16 [(25, aG #[nv (leV Y) lv15]), (7, pT gt), (6, .bool false), (0, sB X), (1, sB Y), (2, .int .i64 (z : Int))]) hr17 => ?_
      obtain ⟨O18, MM190, hN20, hs21⟩ := MemS.addNats (K := [(gt, oC #[sB X, iN 0] 73)]) (O := O) MM14 hr17.1 hr17.2 (Nats.nil O)
      have MM19 : MemS (fun k => k < w0.heap.size ∧ ∀ x ∈ O, x.1 ≠ k) w0 wd16 ((gt, oC #[sB X, iN 0] 73) :: O18) [] := MM190
      have hT_22 := hT.mono hs21
      refine rg_part 2 FF16 MM19 [o_, b_ 0] [7, 6, 0, 1, 2, 8] (fun Kt => ∀ bb, bb = bb ∧ (#[.slice none 0 0] : Array Value).size = 1 ∧ (#[nv (leV Y) lv15] : Array Value).size = 1 ∧ (#[nv (leV Y) lv15] : Array Value).all (·.oneCell') = true ∧ (0, 0).2 = 0 ∧ Kt [(8, pT bb), (7, pT gt), (6, .bool false), (0, sB X), (1, sB Y), (2, .int .i64 (z : Int))] ((bb, oC #[nv (leV Y) lv15] 49) :: (gt, oC #[sB X, iN 0] 73) :: O18)) (by kernel_rfl) (fun _ => by kernel_rfl) (fun bb => ⟨rfl, rfl, rfl, (by kernel_rfl), rfl, fun ac23 wd23 FF23 MM23 => ?_⟩)
      refine wpl_nil (then_n ?_)
      refine wp_seq (rg_seq FF23 MM23 [o_, t_ (iN (modZ z 16)), t_ (iN k), o_] [8, 7, 6, 0, 1, 9] (fun Kt => CallP Tryd.prog 25 [.int .i64 (z : Int), iN 16] [] (iN (modZ z 16)) ∧ 1 + (modZ z 16) < 9223372036854775808 ∧ iN (1 + (modZ z 16)) = iN k ∧ Kt [(9, iN k), (8, pT bb), (7, pT gt), (6, .bool false), (0, sB X), (1, sB Y)] ((bb, oC #[nv (leV Y) lv15] 49) :: (gt, oC #[sB X, iN 0] 73) :: O18)) (by kernel_rfl) (fun _ => by kernel_rfl) (⟨(callP_of en_kmod (kmod_any z 16 hz1 hz2 (by decide) (by decide)) _), (by have := modZ_lt z (m := 16) (by decide); omega), (vI hk), fun ac24 wd24 FF24 MM24 => then_n ?_⟩))
      refine wp_seq (wp_region_list ?_)
      refine rg_part 3 FF24 MM24 [o_, b_ 0, o_] [9, 8, 7, 6, 0, 1, 30, 31, 32] (fun Kt => bb = bb ∧ (#[nv (leV Y) lv15] : Array Value).size = 1 ∧ Kt [(32, iN k), (31, aG #[nv (leV Y) lv15]), (30, pT gt), (9, iN k), (8, pT bb), (7, pT gt), (6, .bool false), (0, sB X), (1, sB Y)] ((bb, oC #[nv (leV Y) lv15] 49) :: (gt, oC #[sB X, iN 0] 73) :: O18)) (by kernel_rfl) (fun _ => by kernel_rfl) (⟨rfl, rfl, fun ac25 wd25 FF25 MM25 => ?_⟩)
      refine st_callE [9, 8, 7, 6, 0, 1, 33] FF25 (d := 33) (mk := fun v => .tuple #[.agg #[nv 0 v], iN 3]) en_tunder rfl rfl (by have h0 := tunder_any gt X 0 hX (by decide) (leV Y) lv15 k (by omega) (by omega) (by omega) (by omega) wd25 (MM25.get 1 rfl) ((hN20.get 0 rfl).at (Has.tl (Has.tl MM25.hasL))) (natO_ne (hN20.get 0 rfl) (MemS.apartO (K := [(bb, oC #[nv (leV Y) lv15] 49), (gt, oC #[sB X, iN 0] 73)]) MM25 1 rfl)); rw [hE] at h0; exact h0) rfl (by kernel_rfl) (by decide) fun ac27 wd27 lv26 (FF27 : Fr 100 ac27 [(33, .tuple #[aG #[nv 0 lv26], iN 3]), (9, iN k), (8, pT bb), (7, pT gt), (6, .bool false), (0, sB X), (1, sB Y)]) hr28 => ?_
      obtain ⟨ht9, hn9⟩ := hr28
      have MM29 : MemS (fun k => k < w0.heap.size ∧ ∀ x ∈ O, x.1 ≠ k) w0 wd27 ((bb, oC #[nv (leV Y) lv15] 49) :: (gt, oC #[sB (X.drop ((bsz (leV Y) + 7) / 8 * k)), iN (0 + (bsz (leV Y) + 7) / 8 * k)] 73) :: O18) [] := MM25.turnAt ht9 1 rfl
      obtain ⟨O30, MM310, hN32, hs33⟩ := MemS.addNatsT (K := [(bb, oC #[nv (leV Y) lv15] 49), (gt, oC #[sB (X.drop ((bsz (leV Y) + 7) / 8 * k)), iN (0 + (bsz (leV Y) + 7) / 8 * k)] 73)]) (O := O18) MM25 MM29 rfl hn9 hN20
      have MM31 : MemS (fun k => k < w0.heap.size ∧ ∀ x ∈ O, x.1 ≠ k) w0 wd27 ((bb, oC #[nv (leV Y) lv15] 49) :: (gt, oC #[sB (X.drop ((bsz (leV Y) + 7) / 8 * k)), iN (0 + (bsz (leV Y) + 7) / 8 * k)] 73) :: O30) [] := MM310
      have hT_34 := hT_22.mono hs33
      have hz35 : ∀ x ∈ O, x ∈ O30 := fun x hx => hs33 x (hs21 x hx)
      refine rg_part 6 FF27 MM31 [o_, o_, o_, o_, b_ 0, o_] [9, 8, 7, 6, 0, 1, 10, 11] (fun Kt => ∀ ba, ba = ba ∧ (#[.slice none 0 0] : Array Value).size = 1 ∧ (#[nv 0 lv26] : Array Value).size = 1 ∧ (#[nv 0 lv26] : Array Value).all (·.oneCell') = true ∧ (0, 0).2 = 0 ∧ Kt [(11, iN 3), (10, pT ba), (9, iN k), (8, pT bb), (7, pT gt), (6, .bool false), (0, sB X), (1, sB Y)] ((ba, oC #[nv 0 lv26] 49) :: (bb, oC #[nv (leV Y) lv15] 49) :: (gt, oC #[sB (X.drop ((bsz (leV Y) + 7) / 8 * k)), iN (0 + (bsz (leV Y) + 7) / 8 * k)] 73) :: O30)) (by kernel_rfl) (fun _ => by kernel_rfl) (fun ba => ⟨rfl, rfl, rfl, (by kernel_rfl), rfl, fun ac36 wd36 FF36 MM36 => ?_⟩)
      refine wpl_nil (then_n ?_)
      refine wp_seq (rg_seq FF36 MM36 [b_ 1, u_ 1 (iN (bsz (leV Y))), o_, o_, o_] [11, 10, 9, 8, 7, 6, 0, 1, 12] (fun Kt => bb = bb ∧ (#[nv (leV Y) lv15] : Array Value).size = 1 ∧ CallP Tryd.prog 26 [aG #[nv (leV Y) lv15]] ((ba, oC #[nv 0 lv26] 49) :: (bb, oC #[nv (leV Y) lv15] 49) :: (gt, oC #[sB (X.drop ((bsz (leV Y) + 7) / 8 * k)), iN (0 + (bsz (leV Y) + 7) / 8 * k)] 73) :: O30) (iN (bsz (leV Y))) ∧ (bsz (leV Y)) + 7 < 9223372036854775808 ∧ 8 ≠ 0 ∧ ((bsz (leV Y)) + 7) / 8 < 9223372036854775808 ∧ Kt [(12, iN (((bsz (leV Y)) + 7) / 8)), (11, iN 3), (10, pT ba), (9, iN k), (8, pT bb), (7, pT gt), (6, .bool false), (0, sB X), (1, sB Y)] ((ba, oC #[nv 0 lv26] 49) :: (bb, oC #[nv (leV Y) lv15] 49) :: (gt, oC #[sB (X.drop ((bsz (leV Y) + 7) / 8 * k)), iN (0 + (bsz (leV Y) + 7) / 8 * k)] 73) :: O30)) (by kernel_rfl) (fun _ => by kernel_rfl) (⟨rfl, rfl, ⟨en_nbits, fun w Hw => nbits_any (leV Y) lv15 hq w ((hN32.get 1 rfl).at (Has.tl (Has.tl (Has.tl Hw))))⟩, (by have := hbb; omega), (by decide), (by have := hbb; omega), fun ac37 wd37 FF37 MM37 => then_n ?_⟩))
      refine wp_seq ?_
      refine wp_seq (rg_seq FF37 MM37 [o_, w_ 3] [12, 11, 10, 9, 8, 7, 6, 0, 1, 41] (fun Kt => ¬ ((((bsz (leV Y)) + 7) / 8) = 0) ∧ Kt [(41, .bool false), (12, iN (((bsz (leV Y)) + 7) / 8)), (11, iN 3), (10, pT ba), (9, iN k), (8, pT bb), (7, pT gt), (6, .bool false), (0, sB X), (1, sB Y)] ((ba, oC #[nv 0 lv26] 49) :: (bb, oC #[nv (leV Y) lv15] 49) :: (gt, oC #[sB (X.drop ((bsz (leV Y) + 7) / 8 * k)), iN (0 + (bsz (leV Y) + 7) / 8 * k)] 73) :: O30)) (by kernel_rfl) (fun _ => by kernel_rfl) (⟨(by omega), fun ac38 wd38 FF38 MM38 => then_n ?_⟩))
      refine wp_cond_false (FF38.ev 0 rfl) ?_
      refine wp_skip ?_
      refine then_n ?_
      refine wp_seq ?_
      refine wp_seq (rg_seq FF38 MM38 [o_, w_ 2] [12, 11, 10, 9, 8, 7, 6, 0, 1, 53] (fun Kt => 3 = 3 ∧ Kt [(53, .bool true), (12, iN (((bsz (leV Y)) + 7) / 8)), (11, iN 3), (10, pT ba), (9, iN k), (8, pT bb), (7, pT gt), (6, .bool false), (0, sB X), (1, sB Y)] ((ba, oC #[nv 0 lv26] 49) :: (bb, oC #[nv (leV Y) lv15] 49) :: (gt, oC #[sB (X.drop ((bsz (leV Y) + 7) / 8 * k)), iN (0 + (bsz (leV Y) + 7) / 8 * k)] 73) :: O30)) (by kernel_rfl) (fun _ => by kernel_rfl) (⟨(by decide), fun ac39 wd39 FF39 MM39 => then_n ?_⟩))
      refine wp_cond_true (FF39.ev 0 rfl) ?_
      refine wp_seq (rg_seq FF39 MM39 [o_, u_ 1 (iN (0 + (bsz (leV Y) + 7) / 8 * k)), o_, o_, o_, w_ 2, o_, b_ 0, u_ 1 (sB [48]), w_ 2, o_, o_, u_ 1 (.bool true), o_, o_] [12, 11, 10, 9, 8, 7, 6, 0, 1] (fun Kt => CallP Tryd.prog 24 [pT gt] ((ba, oC #[nv 0 lv26] 49) :: (bb, oC #[nv (leV Y) lv15] 49) :: (gt, oC #[sB (X.drop ((bsz (leV Y) + 7) / 8 * k)), iN (0 + (bsz (leV Y) + 7) / 8 * k)] 73) :: O30) (iN (0 + (bsz (leV Y) + 7) / 8 * k)) ∧ k * (((bsz (leV Y)) + 7) / 8) < 9223372036854775808 ∧ (0 + (bsz (leV Y) + 7) / 8 * k) = (k * (((bsz (leV Y)) + 7) / 8)) ∧ ba = ba ∧ (#[nv 0 lv26] : Array Value).size = 1 ∧ CallP Tryd.prog 27 [aG #[nv 0 lv26]] ((ba, oC #[nv 0 lv26] 49) :: (bb, oC #[nv (leV Y) lv15] 49) :: (gt, oC #[sB (X.drop ((bsz (leV Y) + 7) / 8 * k)), iN (0 + (bsz (leV Y) + 7) / 8 * k)] 73) :: O30) (sB [48]) ∧ bs [48] = bs [48] ∧ CallP Tryd.prog 9 [] ((ba, oC #[nv 0 lv26] 49) :: (bb, oC #[nv (leV Y) lv15] 49) :: (gt, oC #[sB (X.drop ((bsz (leV Y) + 7) / 8 * k)), iN (0 + (bsz (leV Y) + 7) / 8 * k)] 73) :: O30) (.bool true) ∧ Kt [(6, .bool true), (12, iN (((bsz (leV Y)) + 7) / 8)), (11, iN 3), (10, pT ba), (9, iN k), (8, pT bb), (7, pT gt), (0, sB X), (1, sB Y)] ((ba, oC #[nv 0 lv26] 49) :: (bb, oC #[nv (leV Y) lv15] 49) :: (gt, oC #[sB (X.drop ((bsz (leV Y) + 7) / 8 * k)), iN (0 + (bsz (leV Y) + 7) / 8 * k)] 73) :: O30)) (by kernel_rfl) (fun _ => by kernel_rfl) (⟨⟨en_tused, fun w Hw => tused_any gt (X.drop ((bsz (leV Y) + 7) / 8 * k)) (0 + (bsz (leV Y) + 7) / 8 * k) w (Hw 2 _ rfl)⟩, (Nat.lt_of_le_of_lt (Nat.mul_le_mul hkb.2 hs41) (by decide)), (by rw [Nat.zero_add, Nat.mul_comm]), rfl, rfl, ⟨en_ntext, fun w Hw => ntext0_w lv26 w ((hN32.get 0 rfl).at (Has.tl (Has.tl (Has.tl Hw))))⟩, rfl, ⟨en_wakes, fun w Hw => wakes_w w (hT_34.at (Has.tl (Has.tl (Has.tl Hw))))⟩, fun ac40 wd40 FF40 MM40 => then_n ?_⟩))
      refine wp_ret ?_
      repeat first | refine then_ret ?_ | refine inb_ret ?_
      exact (ret_fr FF40 0 Tryd.results5 rfl ⟨rfl, MM40.belowN H (fun _ hx => List.mem_cons_of_mem _ (List.mem_cons_of_mem _ (List.mem_cons_of_mem _ (hz35 _ hx))))⟩)
set_option maxRecDepth 100000 in
theorem under_ok (O : Blks) (hD : Distinct O) (hT : TabO O) (X Y : List Nat) (hX : ∀ i, X.getD i 0 < 256) (hY : ∀ i, Y.getD i 0 < 256) (z : Int) (hz1 : -9223372036854775808 ≤ z) (hz2 : z < 9223372036854775808) (k : Nat) (hk : 1 + modZ z 16 = k) (h0 : 1 ≤ bsz (leV Y)) (hE1 : (undN (leV Y) (bsz (leV Y)) k X).1 < leV Y) (hE2 : (undN (leV Y) (bsz (leV Y)) k X).2.1 = 0) (i : Nat) (hi : i < k) (hE3 : (undN (leV Y) (bsz (leV Y)) k X).2.2 = (bsz (leV Y) + 7) / 8 * (i + 1)) (w0 : World) (H : Has w0 O) :
    Calls Tryd.prog 5 #[sB X, sB Y, .int .i64 z] w0 fun e w' => e = .returned (.bool true) ∧ Below w0.heap.size w0 w' := by
  refine enter_fr Tryd.func5 rfl Tryd.ntmps5 (by simp) fun ac (FF : Fr 100 ac [(0, sB X), (1, sB Y), (2, .int .i64 (z : Int))]) => ?_
  have MM : MemS (fun k => k < w0.heap.size ∧ ∀ x ∈ O, x.1 ≠ k) w0 w0 O [] := MemS.startN H hD
  refine wp_seq (rg_seq FF MM [o_] [0, 1, 2, 6] (fun Kt => Kt [(6, .bool false), (0, sB X), (1, sB Y), (2, .int .i64 (z : Int))] O) (by kernel_rfl) (fun _ => by kernel_rfl) (fun ac1 wd1 FF1 MM1 => then_n ?_))
  refine wp_seq ?_
  by_cases h1 : X.length > 500
  · skip
    refine wp_seq (rg_seq FF1 MM1 [o_, t_ (iN X.length), w_ 2, o_, o_, o_, o_, o_] [6, 0, 1, 2, 20] (fun Kt => iN ((bs X).size) = iN X.length ∧ X.length > 500 ∧ Kt [(20, .bool true), (6, .bool false), (0, sB X), (1, sB Y), (2, .int .i64 (z : Int))] O) (by kernel_rfl) (fun _ => by kernel_rfl) (⟨(vI (bs_size _)), h1, fun ac2 wd2 FF2 MM2 => then_n ?_⟩))
    refine wp_cond_true (FF2.ev 0 rfl) ?_
    refine wp_seq (rg_seq FF2 MM2 [u_ 1 (.bool true), o_] [6, 0, 1, 2] (fun Kt => CallP Tryd.prog 9 [] O (.bool true) ∧ Kt [(6, .bool true), (0, sB X), (1, sB Y), (2, .int .i64 (z : Int))] O) (by kernel_rfl) (fun _ => by kernel_rfl) (⟨⟨en_wakes, fun w Hw => wakes_w w (hT.at Hw)⟩, fun ac3 wd3 FF3 MM3 => then_n ?_⟩))
    refine wp_ret ?_
    repeat first | refine then_ret ?_ | refine inb_ret ?_
    exact (ret_fr FF3 0 Tryd.results5 rfl ⟨rfl, MM3.belowN H (fun _ hx => hx)⟩)
  · by_cases h2 : Y.length > 40
    · skip
      refine wp_seq (rg_seq FF1 MM1 [o_, t_ (iN X.length), w_ 3, o_, o_, t_ (iN Y.length), w_ 2, o_] [6, 0, 1, 2, 20] (fun Kt => iN ((bs X).size) = iN X.length ∧ ¬ (X.length > 500) ∧ iN ((bs Y).size) = iN Y.length ∧ Y.length > 40 ∧ Kt [(20, .bool true), (6, .bool false), (0, sB X), (1, sB Y), (2, .int .i64 (z : Int))] O) (by kernel_rfl) (fun _ => by kernel_rfl) (⟨(vI (bs_size _)), h1, (vI (bs_size _)), h2, fun ac4 wd4 FF4 MM4 => then_n ?_⟩))
      refine wp_cond_true (FF4.ev 0 rfl) ?_
      refine wp_seq (rg_seq FF4 MM4 [u_ 1 (.bool true), o_] [6, 0, 1, 2] (fun Kt => CallP Tryd.prog 9 [] O (.bool true) ∧ Kt [(6, .bool true), (0, sB X), (1, sB Y), (2, .int .i64 (z : Int))] O) (by kernel_rfl) (fun _ => by kernel_rfl) (⟨⟨en_wakes, fun w Hw => wakes_w w (hT.at Hw)⟩, fun ac5 wd5 FF5 MM5 => then_n ?_⟩))
      refine wp_ret ?_
      repeat first | refine then_ret ?_ | refine inb_ret ?_
      exact (ret_fr FF5 0 Tryd.results5 rfl ⟨rfl, MM5.belowN H (fun _ hx => hx)⟩)
    · skip
      refine wp_seq (rg_seq FF1 MM1 [o_, t_ (iN X.length), w_ 3, o_, o_, t_ (iN Y.length), w_ 3, o_] [6, 0, 1, 2, 20] (fun Kt => iN ((bs X).size) = iN X.length ∧ ¬ (X.length > 500) ∧ iN ((bs Y).size) = iN Y.length ∧ ¬ (Y.length > 40) ∧ Kt [(20, .bool false), (6, .bool false), (0, sB X), (1, sB Y), (2, .int .i64 (z : Int))] O) (by kernel_rfl) (fun _ => by kernel_rfl) (⟨(vI (bs_size _)), h1, (vI (bs_size _)), h2, fun ac6 wd6 FF6 MM6 => then_n ?_⟩))
      refine wp_cond_false (FF6.ev 0 rfl) ?_
      refine wp_skip ?_
      refine then_n ?_
      have hq := qok (leV_100 hY (by omega))
      have hbb := leV_40 hY (by omega)
      have hs41 : (bsz (leV Y) + 7) / 8 ≤ 41 := by omega
      have hkb : 1 ≤ k ∧ k ≤ 16 := by have := modZ_lt z (m := 16) (by decide); omega
      refine wp_seq (wp_region_list ?_)
      refine rg_part 1 FF6 MM6 [o_] [6, 0, 1, 2, 22] (fun Kt => Kt [(22, sB X), (6, .bool false), (0, sB X), (1, sB Y), (2, .int .i64 (z : Int))] O) (by kernel_rfl) (fun _ => by kernel_rfl) (fun ac7 wd7 FF7 MM7 => ?_)
      refine st_callE [6, 0, 1, 2, 23] FF7 (d := 23) (mk := fun v => v) en_tnew rfl rfl (tnew_any X _) rfl (by kernel_rfl) (by decide) fun ac9 wd9 lv8 (FF9 : Fr 100 ac9 [(23, lv8), (6, .bool false), (0, sB X), (1, sB Y), (2, .int .i64 (z : Int))]) hr10 => ?_
      obtain ⟨gt, rfl, hB_gt, hf_gt, hb_gt⟩ := hr10
      have MM11 := MM7.keep hB_gt
      have MM12 : MemS (fun k => k < w0.heap.size ∧ ∀ x ∈ O, x.1 ≠ k) w0 wd9 ((gt, oC #[sB X, iN 0] 73) :: O) [] := MM7.addFresh MM11 hb_gt hf_gt
      refine rg_part 1 FF9 MM12 [o_] [6, 0, 1, 2, 7] (fun Kt => Kt [(7, pT gt), (6, .bool false), (0, sB X), (1, sB Y), (2, .int .i64 (z : Int))] ((gt, oC #[sB X, iN 0] 73) :: O)) (by kernel_rfl) (fun _ => by kernel_rfl) (fun ac13 wd13 FF13 MM13 => ?_)
      refine wpl_nil (then_n ?_)
      refine wp_seq (wp_region_list ?_)
      refine rg_part 1 FF13 MM13 [o_] [7, 6, 0, 1, 2, 24] (fun Kt => Kt [(24, sB Y), (7, pT gt), (6, .bool false), (0, sB X), (1, sB Y), (2, .int .i64 (z : Int))] ((gt, oC #[sB X, iN 0] 73) :: O)) (by kernel_rfl) (fun _ => by kernel_rfl) (fun ac14 wd14 FF14 MM14 => ?_)
      refine st_callE [7, 6, 0, 1, 2, 25] FF14 (d := 25) (mk := fun v => .agg #[nv (leV Y) v]) en_nbytes rfl rfl (nbytes_any Y hY (by omega) _) rfl (by kernel_rfl) (by decide) fun ac16 wd16 lv15 (FF16 : Fr 100 ac16 [(25, aG #[nv (leV Y) lv15]), (7, pT gt), (6, .bool false), (0, sB X), (1, sB Y), (2, .int .i64 (z : Int))]) hr17 => ?_
      obtain ⟨O18, MM190, hN20, hs21⟩ := MemS.addNats (K := [(gt, oC #[sB X, iN 0] 73)]) (O := O) MM14 hr17.1 hr17.2 (Nats.nil O)
      have MM19 : MemS (fun k => k < w0.heap.size ∧ ∀ x ∈ O, x.1 ≠ k) w0 wd16 ((gt, oC #[sB X, iN 0] 73) :: O18) [] := MM190
      have hT_22 := hT.mono hs21
      refine rg_part 2 FF16 MM19 [o_, b_ 0] [7, 6, 0, 1, 2, 8] (fun Kt => ∀ bb, bb = bb ∧ (#[.slice none 0 0] : Array Value).size = 1 ∧ (#[nv (leV Y) lv15] : Array Value).size = 1 ∧ (#[nv (leV Y) lv15] : Array Value).all (·.oneCell') = true ∧ (0, 0).2 = 0 ∧ Kt [(8, pT bb), (7, pT gt), (6, .bool false), (0, sB X), (1, sB Y), (2, .int .i64 (z : Int))] ((bb, oC #[nv (leV Y) lv15] 49) :: (gt, oC #[sB X, iN 0] 73) :: O18)) (by kernel_rfl) (fun _ => by kernel_rfl) (fun bb => ⟨rfl, rfl, rfl, (by kernel_rfl), rfl, fun ac23 wd23 FF23 MM23 => ?_⟩)
      refine wpl_nil (then_n ?_)
      refine wp_seq (rg_seq FF23 MM23 [o_, t_ (iN (modZ z 16)), t_ (iN k), o_] [8, 7, 6, 0, 1, 9] (fun Kt => CallP Tryd.prog 25 [.int .i64 (z : Int), iN 16] [] (iN (modZ z 16)) ∧ 1 + (modZ z 16) < 9223372036854775808 ∧ iN (1 + (modZ z 16)) = iN k ∧ Kt [(9, iN k), (8, pT bb), (7, pT gt), (6, .bool false), (0, sB X), (1, sB Y)] ((bb, oC #[nv (leV Y) lv15] 49) :: (gt, oC #[sB X, iN 0] 73) :: O18)) (by kernel_rfl) (fun _ => by kernel_rfl) (⟨(callP_of en_kmod (kmod_any z 16 hz1 hz2 (by decide) (by decide)) _), (by have := modZ_lt z (m := 16) (by decide); omega), (vI hk), fun ac24 wd24 FF24 MM24 => then_n ?_⟩))
      refine wp_seq (wp_region_list ?_)
      refine rg_part 3 FF24 MM24 [o_, b_ 0, o_] [9, 8, 7, 6, 0, 1, 30, 31, 32] (fun Kt => bb = bb ∧ (#[nv (leV Y) lv15] : Array Value).size = 1 ∧ Kt [(32, iN k), (31, aG #[nv (leV Y) lv15]), (30, pT gt), (9, iN k), (8, pT bb), (7, pT gt), (6, .bool false), (0, sB X), (1, sB Y)] ((bb, oC #[nv (leV Y) lv15] 49) :: (gt, oC #[sB X, iN 0] 73) :: O18)) (by kernel_rfl) (fun _ => by kernel_rfl) (⟨rfl, rfl, fun ac25 wd25 FF25 MM25 => ?_⟩)
      refine st_callE [9, 8, 7, 6, 0, 1, 33] FF25 (d := 33) (mk := fun v => .tuple #[.agg #[nv ((undN (leV Y) (bsz (leV Y)) k X).1) v], iN 0]) en_tunder rfl rfl (by have h0 := tunder_any gt X 0 hX (by decide) (leV Y) lv15 k (by omega) (by omega) (by omega) (by omega) wd25 (MM25.get 1 rfl) ((hN20.get 0 rfl).at (Has.tl (Has.tl MM25.hasL))) (natO_ne (hN20.get 0 rfl) (MemS.apartO (K := [(bb, oC #[nv (leV Y) lv15] 49), (gt, oC #[sB X, iN 0] 73)]) MM25 1 rfl)); rw [hE2, hE3] at h0; exact h0) rfl (by kernel_rfl) (by decide) fun ac27 wd27 lv26 (FF27 : Fr 100 ac27 [(33, .tuple #[aG #[nv ((undN (leV Y) (bsz (leV Y)) k X).1) lv26], iN 0]), (9, iN k), (8, pT bb), (7, pT gt), (6, .bool false), (0, sB X), (1, sB Y)]) hr28 => ?_
      obtain ⟨ht9, hn9⟩ := hr28
      have MM29 : MemS (fun k => k < w0.heap.size ∧ ∀ x ∈ O, x.1 ≠ k) w0 wd27 ((bb, oC #[nv (leV Y) lv15] 49) :: (gt, oC #[sB (X.drop ((bsz (leV Y) + 7) / 8 * (i + 1))), iN (0 + (bsz (leV Y) + 7) / 8 * (i + 1))] 73) :: O18) [] := MM25.turnAt ht9 1 rfl
      obtain ⟨O30, MM310, hN32, hs33⟩ := MemS.addNatsT (K := [(bb, oC #[nv (leV Y) lv15] 49), (gt, oC #[sB (X.drop ((bsz (leV Y) + 7) / 8 * (i + 1))), iN (0 + (bsz (leV Y) + 7) / 8 * (i + 1))] 73)]) (O := O18) MM25 MM29 rfl hn9 hN20
      have MM31 : MemS (fun k => k < w0.heap.size ∧ ∀ x ∈ O, x.1 ≠ k) w0 wd27 ((bb, oC #[nv (leV Y) lv15] 49) :: (gt, oC #[sB (X.drop ((bsz (leV Y) + 7) / 8 * (i + 1))), iN (0 + (bsz (leV Y) + 7) / 8 * (i + 1))] 73) :: O30) [] := MM310
      have hT_34 := hT_22.mono hs33
      have hz35 : ∀ x ∈ O, x ∈ O30 := fun x hx => hs33 x (hs21 x hx)
      refine rg_part 6 FF27 MM31 [o_, o_, o_, o_, b_ 0, o_] [9, 8, 7, 6, 0, 1, 10, 11] (fun Kt => ∀ ba, ba = ba ∧ (#[.slice none 0 0] : Array Value).size = 1 ∧ (#[nv ((undN (leV Y) (bsz (leV Y)) k X).1) lv26] : Array Value).size = 1 ∧ (#[nv ((undN (leV Y) (bsz (leV Y)) k X).1) lv26] : Array Value).all (·.oneCell') = true ∧ (0, 0).2 = 0 ∧ Kt [(11, iN 0), (10, pT ba), (9, iN k), (8, pT bb), (7, pT gt), (6, .bool false), (0, sB X), (1, sB Y)] ((ba, oC #[nv ((undN (leV Y) (bsz (leV Y)) k X).1) lv26] 49) :: (bb, oC #[nv (leV Y) lv15] 49) :: (gt, oC #[sB (X.drop ((bsz (leV Y) + 7) / 8 * (i + 1))), iN (0 + (bsz (leV Y) + 7) / 8 * (i + 1))] 73) :: O30)) (by kernel_rfl) (fun _ => by kernel_rfl) (fun ba => ⟨rfl, rfl, rfl, (by kernel_rfl), rfl, fun ac36 wd36 FF36 MM36 => ?_⟩)
      refine wpl_nil (then_n ?_)
      refine wp_seq (rg_seq FF36 MM36 [b_ 1, u_ 1 (iN (bsz (leV Y))), o_, o_, o_] [11, 10, 9, 8, 7, 6, 0, 1, 12] (fun Kt => bb = bb ∧ (#[nv (leV Y) lv15] : Array Value).size = 1 ∧ CallP Tryd.prog 26 [aG #[nv (leV Y) lv15]] ((ba, oC #[nv ((undN (leV Y) (bsz (leV Y)) k X).1) lv26] 49) :: (bb, oC #[nv (leV Y) lv15] 49) :: (gt, oC #[sB (X.drop ((bsz (leV Y) + 7) / 8 * (i + 1))), iN (0 + (bsz (leV Y) + 7) / 8 * (i + 1))] 73) :: O30) (iN (bsz (leV Y))) ∧ (bsz (leV Y)) + 7 < 9223372036854775808 ∧ 8 ≠ 0 ∧ ((bsz (leV Y)) + 7) / 8 < 9223372036854775808 ∧ Kt [(12, iN (((bsz (leV Y)) + 7) / 8)), (11, iN 0), (10, pT ba), (9, iN k), (8, pT bb), (7, pT gt), (6, .bool false), (0, sB X), (1, sB Y)] ((ba, oC #[nv ((undN (leV Y) (bsz (leV Y)) k X).1) lv26] 49) :: (bb, oC #[nv (leV Y) lv15] 49) :: (gt, oC #[sB (X.drop ((bsz (leV Y) + 7) / 8 * (i + 1))), iN (0 + (bsz (leV Y) + 7) / 8 * (i + 1))] 73) :: O30)) (by kernel_rfl) (fun _ => by kernel_rfl) (⟨rfl, rfl, ⟨en_nbits, fun w Hw => nbits_any (leV Y) lv15 hq w ((hN32.get 1 rfl).at (Has.tl (Has.tl (Has.tl Hw))))⟩, (by have := hbb; omega), (by decide), (by have := hbb; omega), fun ac37 wd37 FF37 MM37 => then_n ?_⟩))
      refine wp_seq ?_
      refine wp_seq (rg_seq FF37 MM37 [o_, w_ 3] [12, 11, 10, 9, 8, 7, 6, 0, 1, 41] (fun Kt => ¬ ((((bsz (leV Y)) + 7) / 8) = 0) ∧ Kt [(41, .bool false), (12, iN (((bsz (leV Y)) + 7) / 8)), (11, iN 0), (10, pT ba), (9, iN k), (8, pT bb), (7, pT gt), (6, .bool false), (0, sB X), (1, sB Y)] ((ba, oC #[nv ((undN (leV Y) (bsz (leV Y)) k X).1) lv26] 49) :: (bb, oC #[nv (leV Y) lv15] 49) :: (gt, oC #[sB (X.drop ((bsz (leV Y) + 7) / 8 * (i + 1))), iN (0 + (bsz (leV Y) + 7) / 8 * (i + 1))] 73) :: O30)) (by kernel_rfl) (fun _ => by kernel_rfl) (⟨(by omega), fun ac38 wd38 FF38 MM38 => then_n ?_⟩))
      refine wp_cond_false (FF38.ev 0 rfl) ?_
      refine wp_skip ?_
      refine then_n ?_
      refine wp_seq ?_
      refine wp_seq (rg_seq FF38 MM38 [o_, w_ 3] [12, 11, 10, 9, 8, 7, 6, 0, 1, 53] (fun Kt => ¬ (0 = 3) ∧ Kt [(53, .bool false), (12, iN (((bsz (leV Y)) + 7) / 8)), (11, iN 0), (10, pT ba), (9, iN k), (8, pT bb), (7, pT gt), (6, .bool false), (0, sB X), (1, sB Y)] ((ba, oC #[nv ((undN (leV Y) (bsz (leV Y)) k X).1) lv26] 49) :: (bb, oC #[nv (leV Y) lv15] 49) :: (gt, oC #[sB (X.drop ((bsz (leV Y) + 7) / 8 * (i + 1))), iN (0 + (bsz (leV Y) + 7) / 8 * (i + 1))] 73) :: O30)) (by kernel_rfl) (fun _ => by kernel_rfl) (⟨(by decide), fun ac39 wd39 FF39 MM39 => then_n ?_⟩))
      refine wp_cond_false (FF39.ev 0 rfl) ?_
      refine wp_skip ?_
      refine then_n ?_
      refine wp_seq (rg_seq FF39 MM39 [o_, w_ 2, o_, b_ 0, b_ 1, u_ 1 (.int .i64 (cmpN ((undN (leV Y) (bsz (leV Y)) k X).1) (leV Y) : Int)), u_ 4 (.bool true), o_, o_, o_, u_ 1 (iN (0 + (bsz (leV Y) + 7) / 8 * (i + 1))), o_, w_ 2, o_, o_, o_, u_ 1 (iN (0 + (bsz (leV Y) + 7) / 8 * (i + 1))), o_, o_, o_, w_ 2, o_, o_, o_, u_ 1 (iN (0 + (bsz (leV Y) + 7) / 8 * (i + 1))), o_, o_, w_ 2, o_, o_, u_ 1 (.bool true), o_, o_] [12, 11, 10, 9, 8, 7, 6, 0, 1] (fun Kt => 0 = 0 ∧ ba = ba ∧ (#[nv ((undN (leV Y) (bsz (leV Y)) k X).1) lv26] : Array Value).size = 1 ∧ bb = bb ∧ (#[nv (leV Y) lv15] : Array Value).size = 1 ∧ CallP Tryd.prog 28 [aG #[nv ((undN (leV Y) (bsz (leV Y)) k X).1) lv26], aG #[nv (leV Y) lv15]] ((ba, oC #[nv ((undN (leV Y) (bsz (leV Y)) k X).1) lv26] 49) :: (bb, oC #[nv (leV Y) lv15] 49) :: (gt, oC #[sB (X.drop ((bsz (leV Y) + 7) / 8 * (i + 1))), iN (0 + (bsz (leV Y) + 7) / 8 * (i + 1))] 73) :: O30) (.int .i64 (cmpN ((undN (leV Y) (bsz (leV Y)) k X).1) (leV Y) : Int)) ∧ Value.bool (decide ((cmpN ((undN (leV Y) (bsz (leV Y)) k X).1) (leV Y)) < ((0 : Nat) : Int))) = .bool true ∧ CallP Tryd.prog 24 [pT gt] ((ba, oC #[nv ((undN (leV Y) (bsz (leV Y)) k X).1) lv26] 49) :: (bb, oC #[nv (leV Y) lv15] 49) :: (gt, oC #[sB (X.drop ((bsz (leV Y) + 7) / 8 * (i + 1))), iN (0 + (bsz (leV Y) + 7) / 8 * (i + 1))] 73) :: O30) (iN (0 + (bsz (leV Y) + 7) / 8 * (i + 1))) ∧ (0 + (bsz (leV Y) + 7) / 8 * (i + 1)) ≥ (((bsz (leV Y)) + 7) / 8) ∧ CallP Tryd.prog 24 [pT gt] ((ba, oC #[nv ((undN (leV Y) (bsz (leV Y)) k X).1) lv26] 49) :: (bb, oC #[nv (leV Y) lv15] 49) :: (gt, oC #[sB (X.drop ((bsz (leV Y) + 7) / 8 * (i + 1))), iN (0 + (bsz (leV Y) + 7) / 8 * (i + 1))] 73) :: O30) (iN (0 + (bsz (leV Y) + 7) / 8 * (i + 1))) ∧ k * (((bsz (leV Y)) + 7) / 8) < 9223372036854775808 ∧ (0 + (bsz (leV Y) + 7) / 8 * (i + 1)) ≤ (k * (((bsz (leV Y)) + 7) / 8)) ∧ CallP Tryd.prog 24 [pT gt] ((ba, oC #[nv ((undN (leV Y) (bsz (leV Y)) k X).1) lv26] 49) :: (bb, oC #[nv (leV Y) lv15] 49) :: (gt, oC #[sB (X.drop ((bsz (leV Y) + 7) / 8 * (i + 1))), iN (0 + (bsz (leV Y) + 7) / 8 * (i + 1))] 73) :: O30) (iN (0 + (bsz (leV Y) + 7) / 8 * (i + 1))) ∧ (((bsz (leV Y)) + 7) / 8) ≠ 0 ∧ ((0 + (bsz (leV Y) + 7) / 8 * (i + 1)) % (((bsz (leV Y)) + 7) / 8)) = 0 ∧ CallP Tryd.prog 9 [] ((ba, oC #[nv ((undN (leV Y) (bsz (leV Y)) k X).1) lv26] 49) :: (bb, oC #[nv (leV Y) lv15] 49) :: (gt, oC #[sB (X.drop ((bsz (leV Y) + 7) / 8 * (i + 1))), iN (0 + (bsz (leV Y) + 7) / 8 * (i + 1))] 73) :: O30) (.bool true) ∧ Kt [(6, .bool true), (12, iN (((bsz (leV Y)) + 7) / 8)), (11, iN 0), (10, pT ba), (9, iN k), (8, pT bb), (7, pT gt), (0, sB X), (1, sB Y)] ((ba, oC #[nv ((undN (leV Y) (bsz (leV Y)) k X).1) lv26] 49) :: (bb, oC #[nv (leV Y) lv15] 49) :: (gt, oC #[sB (X.drop ((bsz (leV Y) + 7) / 8 * (i + 1))), iN (0 + (bsz (leV Y) + 7) / 8 * (i + 1))] 73) :: O30)) (by kernel_rfl) (fun _ => by kernel_rfl) (⟨(by decide), rfl, rfl, rfl, rfl, ⟨en_ncmp, fun w Hw => ncmp_any ((undN (leV Y) (bsz (leV Y)) k X).1) lv26 (qsz_un (bsz_ok _).1 (by omega)) (leV Y) lv15 w ((hN32.get 0 rfl).at (Has.tl (Has.tl (Has.tl Hw)))) ((hN32.get 1 rfl).at (Has.tl (Has.tl (Has.tl Hw))))⟩, (dec_t ((cmp_neg _ _).2 hE1)), ⟨en_tused, fun w Hw => tused_any gt (X.drop ((bsz (leV Y) + 7) / 8 * (i + 1))) (0 + (bsz (leV Y) + 7) / 8 * (i + 1)) w (Hw 2 _ rfl)⟩, (by rw [Nat.zero_add]; exact Nat.le_mul_of_pos_right _ (by omega)), ⟨en_tused, fun w Hw => tused_any gt (X.drop ((bsz (leV Y) + 7) / 8 * (i + 1))) (0 + (bsz (leV Y) + 7) / 8 * (i + 1)) w (Hw 2 _ rfl)⟩, (Nat.lt_of_le_of_lt (Nat.mul_le_mul hkb.2 hs41) (by decide)), (by rw [Nat.zero_add, Nat.mul_comm]; exact Nat.mul_le_mul_right _ hi), ⟨en_tused, fun w Hw => tused_any gt (X.drop ((bsz (leV Y) + 7) / 8 * (i + 1))) (0 + (bsz (leV Y) + 7) / 8 * (i + 1)) w (Hw 2 _ rfl)⟩, (by have := hbb; omega), (by rw [Nat.zero_add, Nat.mul_mod_right]), ⟨en_wakes, fun w Hw => wakes_w w (hT_34.at (Has.tl (Has.tl (Has.tl Hw))))⟩, fun ac40 wd40 FF40 MM40 => then_n ?_⟩))
      refine wp_ret ?_
      repeat first | refine then_ret ?_ | refine inb_ret ?_
      exact (ret_fr FF40 0 Tryd.results5 rfl ⟨rfl, MM40.belowN H (fun _ hx => List.mem_cons_of_mem _ (List.mem_cons_of_mem _ (List.mem_cons_of_mem _ (hz35 _ hx))))⟩)
theorem under_any (O : Blks) (hD : Distinct O) (hT : TabO O) (X Y : List Nat) (hX : ∀ i, X.getD i 0 < 256) (hY : ∀ i, Y.getD i 0 < 256) (z : Int) (hz1 : -9223372036854775808 ≤ z) (hz2 : z < 9223372036854775808) (w0 : World) (H : Has w0 O) : Calls Tryd.prog 5 #[sB X, sB Y, .int .i64 z] w0 fun e w' => e = .returned (.bool true) ∧ Below w0.heap.size w0 w' := by
  obtain ⟨k, hk⟩ : ∃ k, 1 + modZ z 16 = k := ⟨_, rfl⟩
  by_cases h0 : bsz (leV Y) < 1
  · exact under_zero O hD hT X Y hY z hz1 hz2 k hk h0 w0 H
  · rcases und_ways (leV Y) (bsz (leV Y)) k X with h | ⟨h1, h2, i, h3, h4⟩
    · exact under_cap O hD hT X Y hX hY z hz1 hz2 k hk (by omega) h w0 H
    · exact under_ok O hD hT X Y hX hY z hz1 hz2 k hk (by omega) h1 h2 i h3 h4 w0 H
end Go.Proofs.YtdeiodcfblldgaaDoor
namespace Go.Proofs.YtdeiodcfblldgaaDoor
open Go.RowKit
def pw10 : List Nat := [1, 10, 100, 1000, 10000, 100000, 1000000, 10000000, 100000000, 1000000000, 10000000000, 100000000000, 1000000000000, 10000000000000, 100000000000000, 1000000000000000, 10000000000000000, 100000000000000000, 1000000000000000000, 10000000000000000000]
theorem pw10_at : ∀ i : Fin 20, pw10[i.val]? = some (10 ^ i.val) := by decide +kernel
theorem tab_in {w : World} {T : TypeId} {fr : Nat × Nat} (h : w.heap[2]? = some (.cells (cn .u64 pw10) T fr)) : TabIn w := .inr ⟨2, _, T, fr, rfl, h, fun j hj => by
  have := pw10_at ⟨j, hj⟩
  simp [cn, this]⟩
end Go.Proofs.YtdeiodcfblldgaaDoor
namespace Go.Proofs.YtdeiodcfblldgaaDoor
open Go.ChangeShapes Go.WideShapes Go.ChangeAt Go.RowKit
theorem Tryd.own : ownKnob Tryd.prog.godebug = Option.none := by kernel_rfl
theorem Tryd.laidOut : laidOutB Tryd.prog = true := by kernel_rfl
section
variable {H : Type} {enc : TypeId × Value → H} {P : Program}
theorem trodAll_below (hl : laidOutB P = true) {W W' : World} (hb : Below W.heap.size W W') : ∀ (ts : List TypeId) (vs : List Value) (ds : List (DataW H)) (ps : List MemPlace), (∀ t ∈ ts, P.readableRec t = true ∧ t < P.types.size) →
    DataW.TrodAll enc P W 0 (fun _ => true) true ts vs ds ps → (∀ x ∈ ps, x.block < W.heap.size) → DataW.TrodAll enc P W' 0 (fun b => decide (b < W.heap.size)) true ts vs ds ps
  | [], [], [], _, _, h, _ => h
  | t :: ts, v :: vs, d :: ds, ps, hr, ⟨p, q, h1, h2, e⟩, hlt => by
    subst e
    obtain ⟨r1, r2⟩ := hr t (by simp)
    exact ⟨p, q, Below.trod hl r1 r2 h1 hb (fun x hx => hlt x (by simp [hx])), trodAll_below hl hb ts vs ds q (fun t ht => hr t (by simp [ht])) h2 (fun x hx => hlt x (by simp [hx])), rfl⟩
  | [], [], _ :: _, _, _, h, _ => h.elim
  | [], _ :: _, _, _, _, h, _ => by cases h
  | _ :: _, [], _, _, _, h, _ => by cases h
  | _ :: _, _ :: _, [], _, _, h, _ => h.elim
/-- What is asked behind a law's walk. -/
theorem post_true {f : Func} {s : ChangeSpec} {W W' : World} {args : Array Value} {ds : List (DataW H)} {before : List MemPlace} {T : TypeId} (hl : laidOutB P = true) (hr : ∀ t ∈ f.params.toList, P.readableRec t = true ∧ t < P.types.size) (hv : s.vars = [])
    (hW : DataW.Whole enc P f.params.toList s.vars false W args.toList ds [] before) (hres : (s.fn H (ds ++ [])).results = [.lit (.bool true)]) (hargs : (s.fn H (ds ++ [])).args = ds) (hvs : (s.fn H (ds ++ [])).vars = [])
    (hT : f.resultTypes = #[T]) (hu : P.underlying T = some .bool) (hb : Below W.heap.size W W') : s.post enc P f false true false false W args (.bool true) W' := by
  have hlt := hW.lt
  have hW' := hW
  obtain ⟨p, q, hA, hV, rfl, _, _⟩ := hW'
  refine ⟨ds, [], p ++ q, [], p, [], hW, ?_, ?_, ?_, hb.frame _, fun h => by cases h⟩
  · rw [hres, hT]
    exact trodAll_cons_mk (shut_bool hu _) rfl
  · rw [hargs]
    exact trodAll_below hl hb _ _ _ _ hr hA (fun x hx => hlt x (by simp [hx]))
  · rw [hvs, hv]
    exact rfl
end
section
variable {H : Type} {enc : TypeId × Value → H} {P : Program}
end
end Go.Proofs.YtdeiodcfblldgaaDoor
namespace Go.Proofs.YtdeiodcfblldgaaDoor
open Go.RowKit
theorem laid_mem {P : Program} {W : World} : ∀ (laid : List (String × DataW Unit)) (ps : List MemPlace), DataW.LaidVars P W laid ps → ∀ x ∈ laid, ∃ g t cs fuel p, P.globalNamed x.1 = some g ∧ (P.globals[g]?).map (·.type) = some t ∧ W.var? P x.1 = some cs ∧ DataW.trod (fun _ => ()) P W 0 (fun _ => true) false fuel t cs.toList = some (x.2, p)
  | [], _, _, _, hx => by cases hx
  | (n, d) :: r, ps, h, x, hx => by
    obtain ⟨g, t, cs, fuel, p, q, h1, h2, h3, h4, h5, _⟩ := h
    rcases List.mem_cons.1 hx with rfl | hx
    · exact ⟨g, t, cs, fuel, p, h1, h2, h3, h4⟩
    · exact laid_mem r q h5 x hx
/-- A table of numbers that is laid lies in its block. -/
theorem tab_of {P : Program} {W : World} {laid : List (String × DataW Unit)} {n : String} {D : DataW Unit} {g : Nat} {t e : TypeId} {m : Nat} {k : IntKind} {K : List Nat} (h : laidMetH P laid W) (hH : (laid.all fun x => x.2.handleName?.isNone) = true) (hx : (n, D) ∈ laid)
    (hg : P.globalNamed n = some g) (ht : (P.globals[g]?).map (·.type) = some t) (hu : P.underlying t = some (.array m e)) (he : P.underlying e = some (.int k)) (hc : P.cellsOf e = 1) (hct : P.cellsOf t = m) (hD : D = .agg (K.map fun (x : Nat) => .lit (.int k (x : Int)))) (hK : K.length = m) :
    ∃ T fr, W.heap[g]? = some (.cells (cn k K) T fr) := by
  rw [MakeChecks.laidMetH_plain _ _ _ hH] at h
  obtain ⟨ps, hl, _⟩ := h
  obtain ⟨g', t', cs, fuel, p, h1, h2, h3, h4⟩ := laid_mem laid ps hl _ hx
  obtain rfl := Option.some.inj (hg.symm.trans h1)
  obtain rfl := Option.some.inj (ht.symm.trans h2)
  have hb : ∃ T fr, W.heap[g]? = some (.cells cs T fr) := by
    simp only [World.var?, hg, Option.bind_some] at h3
    split at h3
    · rename_i c T fr hb
      cases h3
      exact ⟨T, fr, hb⟩
    · cases h3
  obtain ⟨T, fr, hb⟩ := hb
  refine ⟨T, fr, ?_⟩
  rw [hb]
  obtain ⟨xs, m1, _, hx1, hlen, hn, hel⟩ := DataW.trod_array hu h4
  have hx2 : D = .agg (xs.map fun x => x.1) := (Prod.mk.inj hx1).1
  rw [hD] at hx2
  have hx3 : (K.map fun (x : Nat) => (DataW.lit (.int k (x : Int)) : DataW Unit)) = xs.map fun x => x.1 := by injection hx2
  have hcs : cs = cn k K := by
    refine Array.ext_getElem? fun i => ?_
    rcases Nat.lt_or_ge i m with hi | hi
    · have e1 := hel i hi
      have e2 : xs[i]? = some (xs[i]'(by omega)) := by simp
      rw [e2, hc] at e1
      obtain ⟨z, e3, e4, _⟩ := DataW.trod_int he e1
      have e5 := congrArg (fun l => l[i]?) hx3
      simp only [List.getElem?_map, e2, e4, List.getElem?_eq_getElem (show i < K.length by omega), Option.map_some, Option.some.injEq, DataW.lit.injEq, Lit.int.injEq] at e5
      have e6 := congrArg (fun l => l[0]?) e3
      rw [Nat.mul_one] at e6
      have e7 : cs[i]? = some (.int k z) := by simpa using e6
      rw [e7, cn_get k K i (by omega), ← e5.2]
      simp [show i < K.length by omega]
    · rw [Array.getElem?_eq_none (by rw [← Array.length_toList, hlen, hct]; exact hi), Array.getElem?_eq_none (by rw [cn_size, hK]; exact hi)]
  rw [hcs]
end Go.Proofs.YtdeiodcfblldgaaDoor
