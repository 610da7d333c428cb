/- Several texts in one: The laws of the table: what they share. The law TableRatio. The law TableDraws. The table of the powers of ten, as the text lays it. Package-level tables of numbers: what the row says that they hold, as a block. -/
import Derived.Test.YtlljedijldkcbaaDoorZ6
import Derived.Test.YtlljedijldkcbaaDoorZ3
import Derived.Test.YtlljedijldkcbaaDoorZ1
import Derived.ProofKit
import Derived.OpenShut
import Derived.MakeChecks
import Derived.LaidMore
import Derived.LaidHandle
import Derived.Stop.Joined
namespace Go.Proofs.YtlljedijldkcbaaDoor
open Go.RowKit
theorem le_bK {a k K : Nat} (h : a < 2 ^ k) (hk : k ≤ 64 * K) : a < 18446744073709551616 ^ K := by
  rw [q_pow2]
  exact Nat.lt_of_lt_of_le h (Nat.pow_le_pow_right (by decide) hk)
theorem le_b {a k : Nat} (h : a < 2 ^ k) (hk : k ≤ 64 * 100) : a < 18446744073709551616 ^ 100 := le_bK h hk
set_option maxRecDepth 100000 in
theorem wakes_any (O : Blks) (hD : Distinct O) (hT : TabO O) (w0 : World) (H : Has w0 O) :
    Calls Tryd.prog 8 #[] w0 fun e w' => e = .returned (.bool true) ∧ Below w0.heap.size w0 w' := by
  refine enter_fr Tryd.func8 rfl Tryd.ntmps8 (by simp) fun ac (FF : Fr 92 ac []) => ?_
  have MM : MemS (fun k => k < w0.heap.size ∧ ∀ x ∈ O, x.1 ≠ k) w0 w0 O [] := MemS.startN H hD
  have hk21 : TOk 2 1 1 1 := by unfold TOk; decide
  refine wp_seq (rg_seq FF MM [o_] [0] (fun Kt => Kt [(0, .bool false)] O) (by kernel_rfl) (fun _ => by kernel_rfl) (fun ac1 wd1 FF1 MM1 => then_n ?_))
  refine wp_seq (wp_region_list ?_)
  refine st_callE [0, 12] FF1 (d := 12) (mk := fun v => .tuple #[v, iN 0]) en_knew rfl rfl (knew_yes 2 1 1 1 hk21 _) rfl (by kernel_rfl) (by decide) fun ac3 wd3 lv2 (FF3 : Fr 92 ac3 [(12, .tuple #[lv2, iN 0]), (0, .bool false)]) hr4 => ?_
  obtain ⟨gk, rfl, hB_gk, hf_gk, hb_gk⟩ := hr4
  have MM5 := MM1.keep hB_gk
  have MM6 : MemS (fun k => k < w0.heap.size ∧ ∀ x ∈ O, x.1 ≠ k) w0 wd3 ((gk, oC #[iN 2, iN 1, iN 1, iN 1] 73) :: O) [] := MM1.addFresh MM5 hb_gk hf_gk
  refine rg_part 5 FF3 MM6 [o_, o_, o_, o_, o_] [0, 1, 2] (fun Kt => Kt [(2, iN 0), (1, pT gk), (0, .bool false)] ((gk, oC #[iN 2, iN 1, iN 1, iN 1] 73) :: O)) (by kernel_rfl) (fun _ => by kernel_rfl) (fun ac7 wd7 FF7 MM7 => ?_)
  refine wpl_nil (then_n ?_)
  refine wp_seq ?_
  refine wp_seq (rg_seq FF7 MM7 [o_, w_ 3, o_, o_, f_ (.bool false), o_] [1, 0, 20] (fun Kt => ¬ (0 ≠ 0) ∧ RunV Tryd.prog [(18, pT gk), (17, .bool false), (16, .bool false), (15, iN 0), (2, iN 0), (1, pT gk), (0, .bool false)] ((gk, oC #[iN 2, iN 1, iN 1, iN 1] 73) :: O) (opAt Tryd.f8 2 4) (.bool false) ∧ Kt [(20, .bool false), (1, pT gk), (0, .bool false)] ((gk, oC #[iN 2, iN 1, iN 1, iN 1] 73) :: O)) (by kernel_rfl) (fun _ => by kernel_rfl) (⟨(by decide), (ptrSome_ok (t := 28) (t' := 28) (x := (.tmp 18)) (y := (.const (.pointer none))) (by kernel_rfl) rfl rfl Tryd.underlying28), fun ac8 wd8 FF8 MM8 => then_n ?_⟩))
  refine wp_cond_false (FF8.ev 0 rfl) ?_
  refine wp_skip ?_
  refine then_n ?_
  refine wp_seq (wp_region_list ?_)
  refine rg_part 1 FF8 MM8 [o_] [1, 0, 22] (fun Kt => Kt [(22, pT gk), (1, pT gk), (0, .bool false)] ((gk, oC #[iN 2, iN 1, iN 1, iN 1] 73) :: O)) (by kernel_rfl) (fun _ => by kernel_rfl) (fun ac9 wd9 FF9 MM9 => ?_)
  refine st_callE [22, 1, 0, 23] FF9 (d := 23) (mk := fun v => .agg #[nv (2) v]) en_nof rfl rfl (nof_any 2 (by decide) _) rfl (by kernel_rfl) (by decide) fun ac11 wd11 lv10 (FF11 : Fr 92 ac11 [(23, aG #[nv 2 lv10]), (22, pT gk), (1, pT gk), (0, .bool false)]) hr12 => ?_
  obtain ⟨O13, MM140, hN15, hs16⟩ := MemS.addNats (K := [(gk, oC #[iN 2, iN 1, iN 1, iN 1] 73)]) (O := O) MM9 hr12.1 hr12.2 (Nats.nil O)
  have MM14 : MemS (fun k => k < w0.heap.size ∧ ∀ x ∈ O, x.1 ≠ k) w0 wd11 ((gk, oC #[iN 2, iN 1, iN 1, iN 1] 73) :: O13) [] := MM140
  have hT_17 := hT.mono hs16
  refine rg_part 6 FF11 MM14 [u_ 1 (.tuple #[iN 1, .bool true]), o_, o_, o_, o_, o_] [1, 0, 3, 4] (fun Kt => CallP Tryd.prog 21 [pT gk, aG #[nv 2 lv10]] ((gk, oC #[iN 2, iN 1, iN 1, iN 1] 73) :: O13) (.tuple #[iN 1, .bool true]) ∧ Kt [(4, .bool true), (3, iN 1), (1, pT gk), (0, .bool false)] ((gk, oC #[iN 2, iN 1, iN 1, iN 1] 73) :: O13)) (by kernel_rfl) (fun _ => by kernel_rfl) (⟨⟨en_kat, fun w Hw => (by have h0 := kat_any gk 2 1 1 1 hk21 2 lv10 (qok (by decide +kernel)) w (Hw 0 _ rfl) ((hN15.get 0 rfl).at (Has.tl Hw)); rw [show aN 2 1 1 1 2 = 1 by decide +kernel, show decide (2 < toN 2 1 1 1 (2 * 1 + 1)) = true by decide +kernel] at h0; exact h0)⟩, fun ac18 wd18 FF18 MM18 => ?_⟩)
  refine wpl_nil (then_n ?_)
  refine wp_seq (wp_region_list ?_)
  refine rg_part 1 FF18 MM18 [o_] [4, 3, 1, 0, 28] (fun Kt => Kt [(28, pT gk), (4, .bool true), (3, iN 1), (1, pT gk), (0, .bool false)] ((gk, oC #[iN 2, iN 1, iN 1, iN 1] 73) :: O13)) (by kernel_rfl) (fun _ => by kernel_rfl) (fun ac19 wd19 FF19 MM19 => ?_)
  refine st_callE [28, 4, 3, 1, 0, 29] FF19 (d := 29) (mk := fun v => .agg #[nv (4) v]) en_nof rfl rfl (nof_any 4 (by decide) _) rfl (by kernel_rfl) (by decide) fun ac21 wd21 lv20 (FF21 : Fr 92 ac21 [(29, aG #[nv 4 lv20]), (28, pT gk), (4, .bool true), (3, iN 1), (1, pT gk), (0, .bool false)]) hr22 => ?_
  obtain ⟨O23, MM240, hN25, hs26⟩ := MemS.addNats (K := [(gk, oC #[iN 2, iN 1, iN 1, iN 1] 73)]) (O := O13) MM19 hr22.1 hr22.2 hN15
  have MM24 : MemS (fun k => k < w0.heap.size ∧ ∀ x ∈ O, x.1 ≠ k) w0 wd21 ((gk, oC #[iN 2, iN 1, iN 1, iN 1] 73) :: O23) [] := MM240
  have hT_27 := hT_17.mono hs26
  have hz28 : ∀ x ∈ O, x ∈ O23 := fun x hx => hs26 x (hs16 x hx)
  refine rg_part 6 FF21 MM24 [u_ 1 (.tuple #[iN 0, .bool false]), o_, o_, o_, o_, o_] [4, 3, 1, 0, 6] (fun Kt => CallP Tryd.prog 21 [pT gk, aG #[nv 4 lv20]] ((gk, oC #[iN 2, iN 1, iN 1, iN 1] 73) :: O23) (.tuple #[iN 0, .bool false]) ∧ Kt [(6, .bool false), (4, .bool true), (3, iN 1), (1, pT gk), (0, .bool false)] ((gk, oC #[iN 2, iN 1, iN 1, iN 1] 73) :: O23)) (by kernel_rfl) (fun _ => by kernel_rfl) (⟨⟨en_kat, fun w Hw => (by have h0 := kat_any gk 2 1 1 1 hk21 4 lv20 (qok (by decide +kernel)) w (Hw 0 _ rfl) ((hN25.get 0 rfl).at (Has.tl Hw)); rw [show aN 2 1 1 1 4 = 0 by decide +kernel, show decide (4 < toN 2 1 1 1 (2 * 1 + 1)) = false by decide +kernel] at h0; exact h0)⟩, fun ac29 wd29 FF29 MM29 => ?_⟩)
  refine wpl_nil (then_n ?_)
  refine wp_seq (wp_region_list ?_)
  refine rg_part 1 FF29 MM29 [o_] [6, 4, 3, 1, 0, 34] (fun Kt => Kt [(34, pT gk), (6, .bool false), (4, .bool true), (3, iN 1), (1, pT gk), (0, .bool false)] ((gk, oC #[iN 2, iN 1, iN 1, iN 1] 73) :: O23)) (by kernel_rfl) (fun _ => by kernel_rfl) (fun ac30 wd30 FF30 MM30 => ?_)
  refine st_callE [34, 6, 4, 3, 1, 0, 35] FF30 (d := 35) (mk := fun v => v) en_tnew rfl rfl (tnew_any [3] _) rfl (by kernel_rfl) (by decide) fun ac32 wd32 lv31 (FF32 : Fr 92 ac32 [(35, lv31), (34, pT gk), (6, .bool false), (4, .bool true), (3, iN 1), (1, pT gk), (0, .bool false)]) hr33 => ?_
  obtain ⟨gt, rfl, hB_gt, hf_gt, hb_gt⟩ := hr33
  have MM34 := MM30.keep hB_gt
  have MM35 : MemS (fun k => k < w0.heap.size ∧ ∀ x ∈ O, x.1 ≠ k) w0 wd32 ((gt, oC #[sB [3], iN 0] 81) :: (gk, oC #[iN 2, iN 1, iN 1, iN 1] 73) :: O23) [] := MM30.addFresh MM34 hb_gt hf_gt
  refine st_callE [6, 4, 3, 1, 0, 36] FF32 (d := 36) (mk := fun _ => .tuple #[iN 2, iN 0]) (R' := fun _ w9 => Turn gt (TB ([]) (1)) wd32 w9) en_kdraw rfl rfl (by have h0 := kdraw_any gk gt 2 1 1 1 hk21 [3] 0 (lit_lt (by kernel_rfl)) (by decide) 1 (by decide) (by decide) wd32 (MM35.get 1 rfl) (MM35.get 0 rfl); rw [show drN 2 1 1 1 1 [3] = 2 by decide +kernel, show uN 2 1 1 1 1 [3] = (3, 0, 1) by decide +kernel] at h0; exact h0.mono fun _ _ ⟨h1, h2⟩ => ⟨undef, h1, h2⟩) rfl (by kernel_rfl) (by decide) fun ac37 wd37 lv36 (FF37 : Fr 92 ac37 [(36, .tuple #[iN 2, iN 0]), (6, .bool false), (4, .bool true), (3, iN 1), (1, pT gk), (0, .bool false)]) hr38 => ?_
  have MM39 : MemS (fun k => k < w0.heap.size ∧ ∀ x ∈ O, x.1 ≠ k) w0 wd37 ((gt, oC #[sB [], iN 1] 81) :: (gk, oC #[iN 2, iN 1, iN 1, iN 1] 73) :: O23) [] := MM35.turnAt hr38 0 rfl
  refine rg_part 5 FF37 MM39 [o_, o_, o_, o_, o_] [6, 4, 3, 1, 0, 7, 8] (fun Kt => Kt [(8, iN 0), (7, iN 2), (6, .bool false), (4, .bool true), (3, iN 1), (1, pT gk), (0, .bool false)] ((gt, oC #[sB [], iN 1] 81) :: (gk, oC #[iN 2, iN 1, iN 1, iN 1] 73) :: O23)) (by kernel_rfl) (fun _ => by kernel_rfl) (fun ac40 wd40 FF40 MM40 => ?_)
  refine wpl_nil (then_n ?_)
  refine wp_seq (rg_seq FF40 MM40 [t_ (.tuple #[.pointer none, iN 1]), o_, o_, o_, o_, o_] [8, 7, 6, 4, 3, 1, 0, 10] (fun Kt => CallP Tryd.prog 36 [iN 1, iN 1, iN 1, iN 1] [] (.tuple #[.pointer none, iN 1]) ∧ Kt [(10, iN 1), (8, iN 0), (7, iN 2), (6, .bool false), (4, .bool true), (3, iN 1), (1, pT gk), (0, .bool false)] ((gt, oC #[sB [], iN 1] 81) :: (gk, oC #[iN 2, iN 1, iN 1, iN 1] 73) :: O23)) (by kernel_rfl) (fun _ => by kernel_rfl) (⟨(callP_of en_knew (knew_no ((1 : Nat) : Int) ((1 : Nat) : Int) ((1 : Nat) : Int) ((1 : Nat) : Int) (by unfold TOz; decide) (by omega) (by omega) (by omega) (by omega) (by omega) (by omega) (by omega) (by omega)) _), fun ac41 wd41 FF41 MM41 => then_n ?_⟩))
  refine wp_seq (wp_region_list ?_)
  refine rg_part 10 FF41 MM41 [o_, u_ 1 (iN 0), w_ 2, o_, o_, u_ 1 (iN 2), w_ 2, o_, o_, o_] [10, 8, 7, 6, 4, 3, 1, 0, 51, 52] (fun Kt => CallP Tryd.prog 11 [pT gk] ((gt, oC #[sB [], iN 1] 81) :: (gk, oC #[iN 2, iN 1, iN 1, iN 1] 73) :: O23) (iN 0) ∧ 0 = 0 ∧ CallP Tryd.prog 13 [pT gk] ((gt, oC #[sB [], iN 1] 81) :: (gk, oC #[iN 2, iN 1, iN 1, iN 1] 73) :: O23) (iN 2) ∧ 2 = 2 ∧ Kt [(52, pT gk), (51, .bool true), (10, iN 1), (8, iN 0), (7, iN 2), (6, .bool false), (4, .bool true), (3, iN 1), (1, pT gk), (0, .bool false)] ((gt, oC #[sB [], iN 1] 81) :: (gk, oC #[iN 2, iN 1, iN 1, iN 1] 73) :: O23)) (by kernel_rfl) (fun _ => by kernel_rfl) (⟨⟨en_kleast, fun w Hw => kleast_any gk 2 1 1 1 hk21 w (Hw 1 _ rfl)⟩, (by decide), ⟨en_kmost, fun w Hw => kmost_any gk 2 1 1 1 hk21 w (Hw 1 _ rfl)⟩, (by decide), fun ac42 wd42 FF42 MM42 => ?_⟩)
  refine st_callE [51, 10, 8, 7, 6, 4, 3, 1, 0, 53] FF42 (d := 53) (mk := fun v => .agg #[nv (2) v]) en_kweight rfl rfl (by have h0 := (kweight_any gk 2 1 1 1 hk21 ((1 : Nat) : Int) (by omega) (by omega) _ (MM42.get 1 rfl)); rw [show wgZ 2 1 1 1 ((1 : Nat) : Int) = 2 by decide +kernel] at h0; exact h0) rfl (by kernel_rfl) (by decide) fun ac44 wd44 lv43 (FF44 : Fr 92 ac44 [(53, aG #[nv 2 lv43]), (51, .bool true), (10, iN 1), (8, iN 0), (7, iN 2), (6, .bool false), (4, .bool true), (3, iN 1), (1, pT gk), (0, .bool false)]) hr45 => ?_
  have hfr46 : ∀ g, (nv 2 lv43).ownBlock = some g → w0.heap.size ≤ g := fun g hg => Nat.le_trans MM42.size (hr45.2.2 g hg)
  obtain ⟨O47, MM480, hN49, hs50⟩ := MemS.addNats (K := [(gt, oC #[sB [], iN 1] 81), (gk, oC #[iN 2, iN 1, iN 1, iN 1] 73)]) (O := O23) MM42 hr45.1 hr45.2 hN25
  have MM48 : MemS (fun k => k < w0.heap.size ∧ ∀ x ∈ O, x.1 ≠ k) w0 wd44 ((gt, oC #[sB [], iN 1] 81) :: (gk, oC #[iN 2, iN 1, iN 1, iN 1] 73) :: O47) [] := MM480
  have hT_51 := hT_27.mono hs50
  have hz52 : ∀ x ∈ O, x ∈ O47 := fun x hx => hs50 x (hz28 x hx)
  refine rg_part 5 FF44 MM48 [u_ 1 (sB (decN 2)), w_ 2, o_, o_, o_] [10, 8, 7, 6, 4, 3, 1, 0, 57, 58] (fun Kt => CallP Tryd.prog 37 [aG #[nv 2 lv43]] ((gt, oC #[sB [], iN 1] 81) :: (gk, oC #[iN 2, iN 1, iN 1, iN 1] 73) :: O47) (sB (decN 2)) ∧ bs (decN 2) = bs [50] ∧ Kt [(58, pT gk), (57, .bool true), (10, iN 1), (8, iN 0), (7, iN 2), (6, .bool false), (4, .bool true), (3, iN 1), (1, pT gk), (0, .bool false)] ((gt, oC #[sB [], iN 1] 81) :: (gk, oC #[iN 2, iN 1, iN 1, iN 1] 73) :: O47)) (by kernel_rfl) (fun _ => by kernel_rfl) (⟨⟨en_ntext, fun w Hw => ntext_any 2 lv43 (qok (by decide +kernel)) w (hT_51.at (Has.tl (Has.tl Hw))) ((hN49.get 0 rfl).at (Has.tl (Has.tl Hw)))⟩, (congrArg bs ((decN_of (N := 2) (n := 1) (by decide +kernel) (by decide) (by decide +kernel)).trans (by decide +kernel))), fun ac53 wd53 FF53 MM53 => ?_⟩)
  refine st_callE [57, 10, 8, 7, 6, 4, 3, 1, 0, 59] FF53 (d := 59) (mk := fun v => .agg #[nv (toN 2 1 1 1 (2 * 1 + 1)) v]) en_ktotal rfl rfl (ktotal_any gk 2 1 1 1 hk21 _ (MM53.get 1 rfl)) rfl (by kernel_rfl) (by decide) fun ac55 wd55 lv54 (FF55 : Fr 92 ac55 [(59, aG #[nv (toN 2 1 1 1 (2 * 1 + 1)) lv54]), (57, .bool true), (10, iN 1), (8, iN 0), (7, iN 2), (6, .bool false), (4, .bool true), (3, iN 1), (1, pT gk), (0, .bool false)]) hr56 => ?_
  have hfr57 : ∀ g, (nv (toN 2 1 1 1 (2 * 1 + 1)) lv54).ownBlock = some g → w0.heap.size ≤ g := fun g hg => Nat.le_trans MM53.size (hr56.2.2 g hg)
  obtain ⟨O58, MM590, hN60, hs61⟩ := MemS.addNats (K := [(gt, oC #[sB [], iN 1] 81), (gk, oC #[iN 2, iN 1, iN 1, iN 1] 73)]) (O := O47) MM53 hr56.1 hr56.2 hN49
  have MM59 : MemS (fun k => k < w0.heap.size ∧ ∀ x ∈ O, x.1 ≠ k) w0 wd55 ((gt, oC #[sB [], iN 1] 81) :: (gk, oC #[iN 2, iN 1, iN 1, iN 1] 73) :: O58) [] := MM590
  have hT_62 := hT_51.mono hs61
  have hz63 : ∀ x ∈ O, x ∈ O58 := fun x hx => hs61 x (hz52 x hx)
  refine rg_part 5 FF55 MM59 [u_ 1 (sB (decN (toN 2 1 1 1 (2 * 1 + 1)))), w_ 2, o_, o_, o_] [10, 8, 7, 6, 4, 3, 1, 0, 63, 64] (fun Kt => CallP Tryd.prog 37 [aG #[nv (toN 2 1 1 1 (2 * 1 + 1)) lv54]] ((gt, oC #[sB [], iN 1] 81) :: (gk, oC #[iN 2, iN 1, iN 1, iN 1] 73) :: O58) (sB (decN (toN 2 1 1 1 (2 * 1 + 1)))) ∧ bs (decN (toN 2 1 1 1 (2 * 1 + 1))) = bs [52] ∧ Kt [(64, pT gk), (63, .bool true), (10, iN 1), (8, iN 0), (7, iN 2), (6, .bool false), (4, .bool true), (3, iN 1), (1, pT gk), (0, .bool false)] ((gt, oC #[sB [], iN 1] 81) :: (gk, oC #[iN 2, iN 1, iN 1, iN 1] 73) :: O58)) (by kernel_rfl) (fun _ => by kernel_rfl) (⟨⟨en_ntext, fun w Hw => ntext_any (toN 2 1 1 1 (2 * 1 + 1)) lv54 (qok (by decide +kernel)) w (hT_62.at (Has.tl (Has.tl Hw))) ((hN60.get 0 rfl).at (Has.tl (Has.tl Hw)))⟩, (congrArg bs ((congrArg decN (show toN 2 1 1 1 (2 * 1 + 1) = 4 by decide +kernel)).trans ((decN_of (N := 4) (n := 1) (by decide +kernel) (by decide) (by decide +kernel)).trans (by decide +kernel)))), fun ac64 wd64 FF64 MM64 => ?_⟩)
  refine st_callE [63, 10, 8, 7, 6, 4, 3, 1, 0, 65] FF64 (d := 65) (mk := fun v => .agg #[nv (wgZ 2 1 1 1 ((1 - 1 : Nat) : Int)) v]) en_kedge rfl rfl (kedge_any gk 2 1 1 1 hk21 _ (MM64.get 1 rfl)) rfl (by kernel_rfl) (by decide) fun ac66 wd66 lv65 (FF66 : Fr 92 ac66 [(65, aG #[nv (wgZ 2 1 1 1 ((1 - 1 : Nat) : Int)) lv65]), (63, .bool true), (10, iN 1), (8, iN 0), (7, iN 2), (6, .bool false), (4, .bool true), (3, iN 1), (1, pT gk), (0, .bool false)]) hr67 => ?_
  have hfr68 : ∀ g, (nv (wgZ 2 1 1 1 ((1 - 1 : Nat) : Int)) lv65).ownBlock = some g → w0.heap.size ≤ g := fun g hg => Nat.le_trans MM64.size (hr67.2.2 g hg)
  obtain ⟨O69, MM700, hN71, hs72⟩ := MemS.addNats (K := [(gt, oC #[sB [], iN 1] 81), (gk, oC #[iN 2, iN 1, iN 1, iN 1] 73)]) (O := O58) MM64 hr67.1 hr67.2 hN60
  have MM70 : MemS (fun k => k < w0.heap.size ∧ ∀ x ∈ O, x.1 ≠ k) w0 wd66 ((gt, oC #[sB [], iN 1] 81) :: (gk, oC #[iN 2, iN 1, iN 1, iN 1] 73) :: O69) [] := MM700
  have hT_73 := hT_62.mono hs72
  have hz74 : ∀ x ∈ O, x ∈ O69 := fun x hx => hs72 x (hz63 x hx)
  refine rg_part 27 FF66 MM70 [u_ 1 (sB (decN (wgZ 2 1 1 1 ((1 - 1 : Nat) : Int)))), w_ 2, o_, o_, o_, w_ 2, o_, o_, o_, o_, o_, o_, o_, o_, o_, o_, w_ 2, o_, o_, o_, w_ 2, o_, o_, o_, w_ 2, o_, o_] [1, 0] (fun Kt => CallP Tryd.prog 37 [aG #[nv (wgZ 2 1 1 1 ((1 - 1 : Nat) : Int)) lv65]] ((gt, oC #[sB [], iN 1] 81) :: (gk, oC #[iN 2, iN 1, iN 1, iN 1] 73) :: O69) (sB (decN (wgZ 2 1 1 1 ((1 - 1 : Nat) : Int)))) ∧ bs (decN (wgZ 2 1 1 1 ((1 - 1 : Nat) : Int))) = bs [49] ∧ 1 = 1 ∧ 2 = 2 ∧ 0 = 0 ∧ 1 = 1 ∧ Kt [(0, .bool true), (1, pT gk)] ((gt, oC #[sB [], iN 1] 81) :: (gk, oC #[iN 2, iN 1, iN 1, iN 1] 73) :: O69)) (by kernel_rfl) (fun _ => by kernel_rfl) (⟨⟨en_ntext, fun w Hw => ntext_any (wgZ 2 1 1 1 ((1 - 1 : Nat) : Int)) lv65 (qok (by decide +kernel)) w (hT_73.at (Has.tl (Has.tl Hw))) ((hN71.get 0 rfl).at (Has.tl (Has.tl Hw)))⟩, (congrArg bs ((congrArg decN (show wgZ 2 1 1 1 ((1 - 1 : Nat) : Int) = 1 by decide +kernel)).trans ((decN_of (N := 1) (n := 1) (by decide +kernel) (by decide) (by decide +kernel)).trans (by decide +kernel)))), (by decide), (by decide), (by decide), (by decide), fun ac75 wd75 FF75 MM75 => ?_⟩)
  refine wpl_nil (then_n ?_)
  refine wp_ret ?_
  repeat first | refine then_ret ?_ | refine inb_ret ?_
  exact (ret_fr FF75 0 Tryd.results8 rfl ⟨rfl, MM75.belowN H (fun _ hx => List.mem_cons_of_mem _ (List.mem_cons_of_mem _ (hz74 _ hx)))⟩)
theorem wakes_w (w : World) (hT : TabIn w) : Calls Tryd.prog 8 #[] w fun e w' => e = .returned (.bool true) ∧ Below w.heap.size w w' := by
  obtain ⟨O, g1, g2, g3⟩ := tab_O hT
  exact wakes_any O (distinct_of g2) g3 w g1
end Go.Proofs.YtlljedijldkcbaaDoor
namespace Go.Proofs.YtlljedijldkcbaaDoor
open Go.RowKit
theorem en_lFew : Enters Tryd.prog 29 := fun args w => by simp [go_sem]
set_option maxRecDepth 100000 in
theorem few_any (X : List Nat) (hl : X.length = 4) (hX : ∀ i, X.getD i 0 < 256) (a b r m : Nat) (hb : 1 + X.getD 0 0 % 15 = b) (hr : X.getD 1 0 % 5 = r) (ha : b + 1 + X.getD 2 0 % (16 - b) = a) (hm : r + X.getD 3 0 % (9 - 2 * r) = m) (w0 : World) :
    Calls Tryd.prog 29 #[.agg (cn .u8 X)] w0 fun e w' => e = .returned (.agg #[iN a, iN b, iN r, iN m]) ∧ Below w0.heap.size w0 w' := by
  refine enter_fr Tryd.func29 rfl Tryd.ntmps29 (by simp) fun ac (FF : Fr 35 ac [(0, .agg (cn .u8 X))]) => ?_
  have MM := MemS.start w0
  have hX2 := hX 2
  have hX3 := hX 3
  have ha2 := Nat.mod_lt (X.getD 2 0) (show 0 < 16 - b by omega)
  have hm2 := Nat.mod_lt (X.getD 3 0) (show 0 < 9 - 2 * r by omega)
  refine wp_seq (rg_seq FF MM [o_, o_] [1, 2] (fun Kt => ∀ bn, ∀ bq, Kt [(2, pT bq), (1, pT bn)] [(bq, oC #[iN 0, iN 0, iN 0, iN 0] 27), (bn, .cells (cn .u8 X) 58)]) (by kernel_rfl) (fun _ => by kernel_rfl) (fun bn => fun bq => fun ac1 wd1 FF1 MM1 => then_n ?_))
  refine wp_seq (rg_seq FF1 MM1 [w_ 1, l_ 1 (iB (X.getD 0 0)), w_ 1, o_, t_ (iN b), o_] [2, 1, 3] (fun Kt => 0 < 4 ∧ bn = bn ∧ (cn .u8 X)[0]? = some (iB (X.getD 0 0)) ∧ (X.getD 0 0) < 9223372036854775808 ∧ 15 ≠ 0 ∧ 1 + ((X.getD 0 0) % 15) < 9223372036854775808 ∧ iN (1 + ((X.getD 0 0) % 15)) = iN b ∧ Kt [(3, iN b), (2, pT bq), (1, pT bn)] [(bq, oC #[iN 0, iN 0, iN 0, iN 0] 27), (bn, .cells (cn .u8 X) 58)]) (by kernel_rfl) (fun _ => by kernel_rfl) (⟨(by decide), rfl, (cn_get _ _ _ (by rw [hl]; decide)), (by have := hX 0; omega), (by decide), (by have := hX 0; omega), (vI hb), fun ac2 wd2 FF2 MM2 => then_n ?_⟩))
  refine wp_seq (rg_seq FF2 MM2 [w_ 1, l_ 1 (iB (X.getD 1 0)), w_ 1, t_ (iN r), o_] [3, 2, 1, 4] (fun Kt => 1 < 4 ∧ bn = bn ∧ (cn .u8 X)[1]? = some (iB (X.getD 1 0)) ∧ (X.getD 1 0) < 9223372036854775808 ∧ 5 ≠ 0 ∧ iN ((X.getD 1 0) % 5) = iN r ∧ Kt [(4, iN r), (3, iN b), (2, pT bq), (1, pT bn)] [(bq, oC #[iN 0, iN 0, iN 0, iN 0] 27), (bn, .cells (cn .u8 X) 58)]) (by kernel_rfl) (fun _ => by kernel_rfl) (⟨(by decide), rfl, (cn_get _ _ _ (by rw [hl]; decide)), (by have := hX 1; omega), (by decide), (vI hr), fun ac3 wd3 FF3 MM3 => then_n ?_⟩))
  refine wp_seq (rg_draw FF3 MM3 [.inl (iN b), .inl (iN (b + 1)), .inl (.pointer (some ⟨bn, 2, none⟩)), .inl (iB (X.getD 2 0)), .inl (iN (X.getD 2 0)), .inl (iN b), .inl (iN (16 - b)), .inl (iN ((X.getD 2 0) % (16 - b))), .inl (iN a), .inl (iN b), .inl (iN r), .inl (iN r), .inl (.pointer (some ⟨bn, 3, none⟩)), .inl (iB (X.getD 3 0)), .inl (iN (X.getD 3 0)), .inl (iN r), .inl (iN (2 * r)), .inl (iN (9 - (2 * r))), .inl (iN ((X.getD 3 0) % (9 - (2 * r)))), .inl (iN m), .inl (aG #[iN a, iN b, iN r, iN m])] [] [o_, o_, w_ 1, l_ 1 (iB (X.getD 2 0)), w_ 1, o_, o_, o_, t_ (iN a), o_, o_, o_, w_ 1, l_ 1 (iB (X.getD 3 0)), w_ 1, o_, o_, o_, o_, t_ (iN m), o_] [b_ 0] [2, 1] (fun nb => [b + 1 < 9223372036854775808, 2 < 4, bn = bn, (cn .u8 X)[2]? = some (iB (X.getD 2 0)), (X.getD 2 0) < 9223372036854775808, b ≤ 16, 16 - b < 9223372036854775808, (16 - b) ≠ 0, (b + 1) + ((X.getD 2 0) % (16 - b)) < 9223372036854775808, iN ((b + 1) + ((X.getD 2 0) % (16 - b))) = iN a, 3 < 4, bn = bn, (cn .u8 X)[3]? = some (iB (X.getD 3 0)), (X.getD 3 0) < 9223372036854775808, 2 * r < 9223372036854775808, (2 * r) ≤ 9, 9 - (2 * r) < 9223372036854775808, (9 - (2 * r)) ≠ 0, r + ((X.getD 3 0) % (9 - (2 * r))) < 9223372036854775808, iN (r + ((X.getD 3 0) % (9 - (2 * r)))) = iN m]) (fun nb Kt => bq = bq ∧ (#[iN 0, iN 0, iN 0, iN 0] : Array Value).size = 4 ∧ (#[iN a, iN b, iN r, iN m] : Array Value).size = 4 ∧ (#[iN a, iN b, iN r, iN m] : Array Value).all (·.oneCell') = true ∧ (0, 0).2 = 0 ∧ Kt [(2, pT bq), (1, pT bn)] [(bq, oC #[iN a, iN b, iN r, iN m] 27), (bn, .cells (cn .u8 X) 58)]) (by kernel_rfl) (by kernel_rfl) (by kernel_rfl) (fun _ => by kernel_rfl) (fun _ _ => by kernel_rfl) trivial (fun nb => ⟨(by omega), (by decide), rfl, (cn_get _ _ _ (by rw [hl]; decide)), (by have := hX 2; omega), (by omega), (by omega), (by have := hX 2; omega), (by have := hX 2; omega), (vI ha), (by decide), rfl, (cn_get _ _ _ (by rw [hl]; decide)), (by have := hX 3; omega), (by omega), (by omega), (by omega), (by have := hX 3; omega), (by have := hX 3; omega), (vI hm), trivial⟩) (fun nb => ⟨rfl, rfl, rfl, (by kernel_rfl), rfl, fun ac4 wd4 FF4 MM4 => then_n ?_⟩))
  refine wp_ret ?_
  repeat first | refine then_ret ?_ | refine inb_ret ?_
  exact (retc FF4 MM4 (k := 4) (i := 0) (j := 0) Tryd.results29 rfl rfl Tryd.underlying27 rfl (by kernel_rfl) rfl ⟨rfl, MM4.below⟩)
theorem few_ex (X : List Nat) (hl : X.length = 4) (hX : ∀ i, X.getD i 0 < 256) : ∃ a b r m : Nat, TOk a b r m ∧ ∀ w, Calls Tryd.prog 29 #[.agg (cn .u8 X)] w fun e w' => e = .returned (.agg #[iN a, iN b, iN r, iN m]) ∧ Below w.heap.size w w' := by
  obtain ⟨b, hb⟩ : ∃ b, 1 + X.getD 0 0 % 15 = b := ⟨_, rfl⟩
  obtain ⟨r, hr⟩ : ∃ r, X.getD 1 0 % 5 = r := ⟨_, rfl⟩
  obtain ⟨a, ha⟩ : ∃ a, b + 1 + X.getD 2 0 % (16 - b) = a := ⟨_, rfl⟩
  obtain ⟨m, hm⟩ : ∃ m, r + X.getD 3 0 % (9 - 2 * r) = m := ⟨_, rfl⟩
  have ha2 := Nat.mod_lt (X.getD 2 0) (show 0 < 16 - b by omega)
  have hm2 := Nat.mod_lt (X.getD 3 0) (show 0 < 9 - 2 * r by omega)
  exact ⟨a, b, r, m, ⟨by omega, by omega, by omega, by omega, by omega⟩, few_any X hl hX a b r m hb hr ha hm⟩
end Go.Proofs.YtlljedijldkcbaaDoor
namespace Go.Proofs.YtlljedijldkcbaaDoor
open Go.RowKit
theorem cmp_ge0 {M N : Nat} (h : N ≤ M) : cmpN M N ≥ ((0 : Nat) : Int) := by
  have := mt (cmp_neg M N).1 (Nat.not_lt.2 h)
  omega
theorem cmp_lt0 {M N : Nat} (h : M < N) : ¬ cmpN M N ≥ ((0 : Nat) : Int) := by
  have := (cmp_neg M N).2 h
  omega
theorem takN_self {Z : List Nat} {n : Nat} (h : Z.length = n) : takN n Z = Z := by subst h; simp [takN]
theorem strZ_app {Z Y : List Nat} {n : Nat} (hl : Z.length = n) (hb : ∀ i, (Z ++ Y).getD i 0 < 256) : StrAt (cn .u8 (Z ++ Y)) 0 n (bs Z) := by
  have h5 := str_part (X := Z ++ Y) (n := Z.length + Y.length) (off := 0) (len := n) (by simp) hb (by omega)
  rw [List.drop_zero, ← hl, List.take_left] at h5
  rw [hl] at h5
  exact h5
theorem app_lt9 {X Y : List Nat} (hX : ∀ i, X.getD i 0 < 256) (hY : ∀ i, Y.getD i 0 < 256) (i : Nat) : (X ++ Y).getD i 0 < 256 := by
  rw [List.getD_eq_getElem?_getD]
  rcases Nat.lt_or_ge i X.length with h | h
  · rw [List.getElem?_append_left h, ← List.getD_eq_getElem?_getD]; exact hX i
  · rw [List.getElem?_append_right h, ← List.getD_eq_getElem?_getD]; exact hY _
/-- The first n bytes of a text with n noughts behind it. -/
theorem tak_cut (Y : List Nat) (n c : Nat) : ∃ R : List Nat, (∀ i, R.getD i 0 < 256 ∨ ∃ j, R.getD i 0 = Y.getD j 0) ∧ R.length = Y.length + c ∧ (Y ++ List.replicate n 0) ++ List.replicate c 0 = takN n Y ++ R := by
  refine ⟨((Y ++ List.replicate n 0) ++ List.replicate c 0).drop n, fun i => ?_, by simp; omega, ?_⟩
  · rw [dropD]
    rcases Nat.lt_or_ge (n + i) Y.length with h | h
    · right
      exact ⟨n + i, by rw [List.append_assoc, getD_app_l _ _ _ h]⟩
    · left
      rw [List.append_assoc, getD_app_r _ _ _ h]
      rw [show List.replicate n 0 ++ List.replicate c 0 = List.replicate (n + c) 0 by simp, rep_get]; decide
  · have e : takN n Y = ((Y ++ List.replicate n 0) ++ List.replicate c 0).take n := by
      refine ext_getD (by simp [takN_len]; omega) fun i hi => ?_
      rw [takN_len] at hi
      rw [takN_get Y hi, List.getD_eq_getElem?_getD (l := List.take _ _), List.getElem?_take, if_pos hi, ← List.getD_eq_getElem?_getD]
      rcases Nat.lt_or_ge i Y.length with h | h
      · rw [List.append_assoc, getD_app_l _ _ _ h]
      · rw [List.append_assoc, getD_app_r _ _ _ h, show List.replicate n 0 ++ List.replicate c 0 = List.replicate (n + c) 0 by simp, rep_get, getD_out h]
    rw [e, List.take_append_drop]
theorem un1_yes {a b r m bb : Nat} {Z : List Nat} (hl : Z.length = (bb + 7) / 8) (hbit : leV Z < 2 ^ bb) (hbb : bsz (toN a b r m (2 * r + 1)) = bb) (hV : leV Z < toN a b r m (2 * r + 1)) : uN a b r m 1 Z = (leV Z, 0, (bb + 7) / 8) := by
  have e : bitN bb Z = leV Z := by rw [bitN, takN_self hl, Nat.mod_eq_of_lt hbit]
  rw [uN, hbb, undN, e, if_pos hV]
theorem un1_no {a b r m bb : Nat} {Z : List Nat} (hl : Z.length = (bb + 7) / 8) (hbit : leV Z < 2 ^ bb) (hbb : bsz (toN a b r m (2 * r + 1)) = bb) (hV : ¬ leV Z < toN a b r m (2 * r + 1)) : uN a b r m 1 Z = (0, 3, (bb + 7) / 8) := by
  have e : bitN bb Z = leV Z := by rw [bitN, takN_self hl, Nat.mod_eq_of_lt hbit]
  rw [uN, hbb, undN, e, if_neg hV]
  rfl
set_option maxRecDepth 100000 in
theorem draws_any (O : Blks) (hD : Distinct O) (hT : TabO O) (X : List Nat) (hl : X.length = 4) (hX : ∀ i, X.getD i 0 < 256) (Y : List Nat) (hY : ∀ i, Y.getD i 0 < 256) (w0 : World) (H : Has w0 O) :
    Calls Tryd.prog 6 #[.agg (cn .u8 X), sB Y] w0 fun e w' => e = .returned (.bool true) ∧ Below w0.heap.size w0 w' := by
  refine enter_fr Tryd.func6 rfl Tryd.ntmps6 (by simp) fun ac (FF : Fr 137 ac [(0, .agg (cn .u8 X)), (1, sB Y)]) => ?_
  have MM : MemS (fun k => k < w0.heap.size ∧ ∀ x ∈ O, x.1 ≠ k) w0 w0 O [] := MemS.startN H hD
  obtain ⟨a, b, r, m, hk, hF⟩ := few_ex X hl hX
  have ⟨k1, k2, k3, k4, k5⟩ := hk
  refine wp_seq (rg_seq FF MM [o_, o_] [1, 2, 4] (fun Kt => ∀ bn, Kt [(4, .bool false), (2, pT bn), (1, sB Y)] ((bn, .cells (cn .u8 X) 58) :: O)) (by kernel_rfl) (fun _ => by kernel_rfl) (fun bn => fun ac1 wd1 FF1 MM1 => then_n ?_))
  refine wp_seq (rg_seq FF1 MM1 [b_ 0, t_ (aG #[iN a, iN b, iN r, iN m]), o_, b_ 0] [4, 1, 5] (fun Kt => bn = bn ∧ (cn .u8 X).size = 4 ∧ CallP Tryd.prog 29 [.agg (cn .u8 X)] [] (aG #[iN a, iN b, iN r, iN m]) ∧ ∀ bq, bq = bq ∧ (#[iN 0, iN 0, iN 0, iN 0] : Array Value).size = 4 ∧ (#[iN a, iN b, iN r, iN m] : Array Value).size = 4 ∧ (#[iN a, iN b, iN r, iN m] : Array Value).all (·.oneCell') = true ∧ (0, 0).2 = 0 ∧ Kt [(5, pT bq), (4, .bool false), (1, sB Y)] ((bq, oC #[iN a, iN b, iN r, iN m] 27) :: (bn, .cells (cn .u8 X) 58) :: O)) (by kernel_rfl) (fun _ => by kernel_rfl) (⟨rfl, ((cn_size _ _).trans hl), (callP_of en_lFew hF _), fun bq => ⟨rfl, rfl, rfl, (by kernel_rfl), rfl, fun ac2 wd2 FF2 MM2 => then_n ?_⟩⟩))
  refine wp_seq (wp_region_list ?_)
  refine rg_part 1 FF2 MM2 [b_ 0] [5, 4, 1, 19] (fun Kt => bq = bq ∧ (#[iN a, iN b, iN r, iN m] : Array Value).size = 4 ∧ Kt [(19, aG #[iN a, iN b, iN r, iN m]), (5, pT bq), (4, .bool false), (1, sB Y)] ((bq, oC #[iN a, iN b, iN r, iN m] 27) :: (bn, .cells (cn .u8 X) 58) :: O)) (by kernel_rfl) (fun _ => by kernel_rfl) (⟨rfl, rfl, fun ac3 wd3 FF3 MM3 => ?_⟩)
  refine st_callE [5, 4, 1, 20] FF3 (d := 20) (mk := fun v => .tuple #[v, iN 0]) en_lawOf rfl rfl (kof_yes a b r m hk _) rfl (by kernel_rfl) (by decide) fun ac5 wd5 lv4 (FF5 : Fr 137 ac5 [(20, .tuple #[lv4, iN 0]), (5, pT bq), (4, .bool false), (1, sB Y)]) hr6 => ?_
  obtain ⟨gk, rfl, hB_gk, hf_gk, hb_gk⟩ := hr6
  have MM7 := MM3.keep hB_gk
  have MM8 : MemS (fun k => k < w0.heap.size ∧ ∀ x ∈ O, x.1 ≠ k) w0 wd5 ((gk, oC #[iN a, iN b, iN r, iN m] 73) :: (bq, oC #[iN a, iN b, iN r, iN m] 27) :: (bn, .cells (cn .u8 X) 58) :: O) [] := MM3.addFresh MM7 hb_gk hf_gk
  refine rg_part 5 FF5 MM8 [o_, o_, o_, o_, o_] [5, 4, 1, 6, 7] (fun Kt => Kt [(7, iN 0), (6, pT gk), (5, pT bq), (4, .bool false), (1, sB Y)] ((gk, oC #[iN a, iN b, iN r, iN m] 73) :: (bq, oC #[iN a, iN b, iN r, iN m] 27) :: (bn, .cells (cn .u8 X) 58) :: O)) (by kernel_rfl) (fun _ => by kernel_rfl) (fun ac9 wd9 FF9 MM9 => ?_)
  refine wpl_nil (then_n ?_)
  refine wp_seq ?_
  by_cases h1 : Y.length > 100
  · skip
    refine wp_seq (rg_seq FF9 MM9 [o_, w_ 3, o_, o_, f_ (.bool false), o_, o_, o_, t_ (iN Y.length), w_ 2, o_] [7, 6, 5, 4, 1, 33] (fun Kt => ¬ (0 ≠ 0) ∧ RunV Tryd.prog [(26, pT gk), (25, .bool false), (24, .bool false), (23, iN 0), (7, iN 0), (6, pT gk), (5, pT bq), (4, .bool false), (1, sB Y)] ((gk, oC #[iN a, iN b, iN r, iN m] 73) :: (bq, oC #[iN a, iN b, iN r, iN m] 27) :: (bn, .cells (cn .u8 X) 58) :: O) (opAt Tryd.f6 3 4) (.bool false) ∧ iN ((bs Y).size) = iN Y.length ∧ Y.length > 100 ∧ Kt [(33, .bool true), (7, iN 0), (6, pT gk), (5, pT bq), (4, .bool false), (1, sB Y)] ((gk, oC #[iN a, iN b, iN r, iN m] 73) :: (bq, oC #[iN a, iN b, iN r, iN m] 27) :: (bn, .cells (cn .u8 X) 58) :: O)) (by kernel_rfl) (fun _ => by kernel_rfl) (⟨(by decide), (ptrSome_ok (t := 28) (t' := 28) (x := (.tmp 26)) (y := (.const (.pointer none))) (by kernel_rfl) rfl rfl Tryd.underlying28), (vI (bs_size _)), h1, fun ac10 wd10 FF10 MM10 => then_n ?_⟩))
    refine wp_cond_true (FF10.ev 0 rfl) ?_
    refine wp_seq (rg_seq FF10 MM10 [o_, w_ 2, o_, o_, f_ (.bool true), o_, o_, u_ 1 (.bool true), o_, o_] [7, 6, 5, 4, 1] (fun Kt => 0 = 0 ∧ RunV Tryd.prog [(37, pT gk), (36, .bool true), (35, .bool true), (34, iN 0), (33, .bool true), (7, iN 0), (6, pT gk), (5, pT bq), (4, .bool false), (1, sB Y)] ((gk, oC #[iN a, iN b, iN r, iN m] 73) :: (bq, oC #[iN a, iN b, iN r, iN m] 27) :: (bn, .cells (cn .u8 X) 58) :: O) (opAt Tryd.f6 4 4) (.bool true) ∧ CallP Tryd.prog 8 [] ((gk, oC #[iN a, iN b, iN r, iN m] 73) :: (bq, oC #[iN a, iN b, iN r, iN m] 27) :: (bn, .cells (cn .u8 X) 58) :: O) (.bool true) ∧ Kt [(4, .bool true), (7, iN 0), (6, pT gk), (5, pT bq), (1, sB Y)] ((gk, oC #[iN a, iN b, iN r, iN m] 73) :: (bq, oC #[iN a, iN b, iN r, iN m] 27) :: (bn, .cells (cn .u8 X) 58) :: O)) (by kernel_rfl) (fun _ => by kernel_rfl) (⟨(by decide), (ptrSomeN_ok (t := 28) (t' := 28) (x := (.tmp 37)) (y := (.const (.pointer none))) (by kernel_rfl) rfl rfl Tryd.underlying28), ⟨en_lawwakes, fun w Hw => wakes_w w (hT.at (Has.tl (Has.tl (Has.tl Hw))))⟩, fun ac11 wd11 FF11 MM11 => then_n ?_⟩))
    refine wp_ret ?_
    repeat first | refine then_ret ?_ | refine inb_ret ?_
    exact (ret_fr FF11 0 Tryd.results6 rfl ⟨rfl, MM11.belowN H (fun _ hx => List.mem_cons_of_mem _ (List.mem_cons_of_mem _ (List.mem_cons_of_mem _ (hx))))⟩)
  · skip
    refine wp_seq (rg_seq FF9 MM9 [o_, w_ 3, o_, o_, f_ (.bool false), o_, o_, o_, t_ (iN Y.length), w_ 3, o_] [7, 6, 5, 4, 1, 33] (fun Kt => ¬ (0 ≠ 0) ∧ RunV Tryd.prog [(26, pT gk), (25, .bool false), (24, .bool false), (23, iN 0), (7, iN 0), (6, pT gk), (5, pT bq), (4, .bool false), (1, sB Y)] ((gk, oC #[iN a, iN b, iN r, iN m] 73) :: (bq, oC #[iN a, iN b, iN r, iN m] 27) :: (bn, .cells (cn .u8 X) 58) :: O) (opAt Tryd.f6 3 4) (.bool false) ∧ iN ((bs Y).size) = iN Y.length ∧ ¬ (Y.length > 100) ∧ Kt [(33, .bool false), (7, iN 0), (6, pT gk), (5, pT bq), (4, .bool false), (1, sB Y)] ((gk, oC #[iN a, iN b, iN r, iN m] 73) :: (bq, oC #[iN a, iN b, iN r, iN m] 27) :: (bn, .cells (cn .u8 X) 58) :: O)) (by kernel_rfl) (fun _ => by kernel_rfl) (⟨(by decide), (ptrSome_ok (t := 28) (t' := 28) (x := (.tmp 26)) (y := (.const (.pointer none))) (by kernel_rfl) rfl rfl Tryd.underlying28), (vI (bs_size _)), h1, fun ac12 wd12 FF12 MM12 => then_n ?_⟩))
    refine wp_cond_false (FF12.ev 0 rfl) ?_
    refine wp_skip ?_
    refine then_n ?_
    obtain ⟨bb, hbb⟩ : ∃ bb, bsz (toN a b r m (2 * r + 1)) = bb := ⟨_, rfl⟩
    have hb1 : 1 ≤ bb := by rw [← hbb]; exact tot_b1 hk
    have hb2 : bb ≤ 20 := by rw [← hbb]; exact tot_b2 hk
    refine wp_seq (wp_region_list ?_)
    refine rg_part 1 FF12 MM12 [o_] [7, 6, 5, 4, 1, 43] (fun Kt => Kt [(43, pT gk), (7, iN 0), (6, pT gk), (5, pT bq), (4, .bool false), (1, sB Y)] ((gk, oC #[iN a, iN b, iN r, iN m] 73) :: (bq, oC #[iN a, iN b, iN r, iN m] 27) :: (bn, .cells (cn .u8 X) 58) :: O)) (by kernel_rfl) (fun _ => by kernel_rfl) (fun ac13 wd13 FF13 MM13 => ?_)
    refine st_callE [7, 6, 5, 4, 1, 44] FF13 (d := 44) (mk := fun v => .agg #[nv (toN a b r m (2 * r + 1)) v]) en_ktotal rfl rfl (ktotal_any gk a b r m hk _ (MM13.get 0 rfl)) rfl (by kernel_rfl) (by decide) fun ac15 wd15 lv14 (FF15 : Fr 137 ac15 [(44, aG #[nv (toN a b r m (2 * r + 1)) lv14]), (7, iN 0), (6, pT gk), (5, pT bq), (4, .bool false), (1, sB Y)]) hr16 => ?_
    have hfr17 : ∀ g, (nv (toN a b r m (2 * r + 1)) lv14).ownBlock = some g → w0.heap.size ≤ g := fun g hg => Nat.le_trans MM13.size (hr16.2.2 g hg)
    obtain ⟨O18, MM190, hN20, hs21⟩ := MemS.addNats (K := [(gk, oC #[iN a, iN b, iN r, iN m] 73), (bq, oC #[iN a, iN b, iN r, iN m] 27), (bn, .cells (cn .u8 X) 58)]) (O := O) MM13 hr16.1 hr16.2 (Nats.nil O)
    have MM19 : MemS (fun k => k < w0.heap.size ∧ ∀ x ∈ O, x.1 ≠ k) w0 wd15 ((gk, oC #[iN a, iN b, iN r, iN m] 73) :: (bq, oC #[iN a, iN b, iN r, iN m] 27) :: (bn, .cells (cn .u8 X) 58) :: O18) [] := MM190
    have hT_22 := hT.mono hs21
    refine rg_part 2 FF15 MM19 [u_ 1 (iN bb), o_] [7, 6, 5, 4, 1, 8] (fun Kt => CallP Tryd.prog 35 [aG #[nv (toN a b r m (2 * r + 1)) lv14]] ((gk, oC #[iN a, iN b, iN r, iN m] 73) :: (bq, oC #[iN a, iN b, iN r, iN m] 27) :: (bn, .cells (cn .u8 X) 58) :: O18) (iN bb) ∧ Kt [(8, iN bb), (7, iN 0), (6, pT gk), (5, pT bq), (4, .bool false), (1, sB Y)] ((gk, oC #[iN a, iN b, iN r, iN m] 73) :: (bq, oC #[iN a, iN b, iN r, iN m] 27) :: (bn, .cells (cn .u8 X) 58) :: O18)) (by kernel_rfl) (fun _ => by kernel_rfl) (⟨⟨en_nbits, fun w Hw => by have h0 := nbits_any (toN a b r m (2 * r + 1)) lv14 (tot_q hk) w ((hN20.get 0 rfl).at (Has.tl (Has.tl (Has.tl Hw)))); rw [hbb] at h0; exact h0⟩, fun ac23 wd23 FF23 MM23 => ?_⟩)
    refine wpl_nil (then_n ?_)
    refine wp_seq (rg_seq FF23 MM23 [o_, o_, o_, o_] [8, 7, 6, 5, 4, 1, 9] (fun Kt => bb + 7 < 9223372036854775808 ∧ 8 ≠ 0 ∧ (bb + 7) / 8 < 9223372036854775808 ∧ Kt [(9, iN ((bb + 7) / 8)), (8, iN bb), (7, iN 0), (6, pT gk), (5, pT bq), (4, .bool false), (1, sB Y)] ((gk, oC #[iN a, iN b, iN r, iN m] 73) :: (bq, oC #[iN a, iN b, iN r, iN m] 27) :: (bn, .cells (cn .u8 X) 58) :: O18)) (by kernel_rfl) (fun _ => by kernel_rfl) (⟨(by omega), (by decide), (by omega), fun ac24 wd24 FF24 MM24 => then_n ?_⟩))
    refine wp_seq ?_
    refine wp_seq (rg_seq FF24 MM24 [o_, w_ 3, o_, o_, w_ 3, o_] [9, 8, 7, 6, 5, 4, 1, 54] (fun Kt => ¬ (((bb + 7) / 8) < 1) ∧ ¬ (((bb + 7) / 8) > 9) ∧ Kt [(54, .bool false), (9, iN ((bb + 7) / 8)), (8, iN bb), (7, iN 0), (6, pT gk), (5, pT bq), (4, .bool false), (1, sB Y)] ((gk, oC #[iN a, iN b, iN r, iN m] 73) :: (bq, oC #[iN a, iN b, iN r, iN m] 27) :: (bn, .cells (cn .u8 X) 58) :: O18)) (by kernel_rfl) (fun _ => by kernel_rfl) (⟨(by omega), (by omega), fun ac25 wd25 FF25 MM25 => then_n ?_⟩))
    refine wp_cond_false (FF25.ev 0 rfl) ?_
    refine wp_skip ?_
    refine then_n ?_
    obtain ⟨Y0, hY0⟩ : ∃ Y0, Y ++ List.replicate ((bb + 7) / 8) 0 = Y0 := ⟨_, rfl⟩
    have hY0b : ∀ i, Y0.getD i 0 < 256 := by rw [← hY0]; exact app_lt9 hY rep0_lt
    have hY0l : Y0.length = Y.length + ((bb + 7) / 8) := by rw [← hY0]; simp
    refine wp_seq (wp_region_list ?_)
    refine rg_part 5 FF25 MM25 [o_, o_, n_ (.slice none ((bb + 7) / 8) ((bb + 7) / 8)) (.cells (cn .u8 (List.replicate ((bb + 7) / 8) 0)) 5), l_ 0 (sB (List.replicate ((bb + 7) / 8) 0)), t_ (sB Y0)] [9, 8, 7, 6, 5, 4, 1, 59] (fun Kt => RunN Tryd.prog [(56, iN ((bb + 7) / 8)), (55, sB Y), (54, .bool false), (9, iN ((bb + 7) / 8)), (8, iN bb), (7, iN 0), (6, pT gk), (5, pT bq), (4, .bool false), (1, sB Y)] ((gk, oC #[iN a, iN b, iN r, iN m] 73) :: (bq, oC #[iN a, iN b, iN r, iN m] 27) :: (bn, .cells (cn .u8 X) 58) :: O18) (opAt Tryd.f6 9 2) (mkOf (.slice none ((bb + 7) / 8) ((bb + 7) / 8))) (.cells (cn .u8 (List.replicate ((bb + 7) / 8) 0)) 5) ∧ ∀ bz, bz = bz ∧ StrAt (cn .u8 (List.replicate ((bb + 7) / 8) 0)) 0 ((bb + 7) / 8) (bs (List.replicate ((bb + 7) / 8) 0)) ∧ (bs Y).size + (bs (List.replicate ((bb + 7) / 8) 0)).size ≤ 9223372036854775807 ∧ Value.string (bs Y ++ bs (List.replicate ((bb + 7) / 8) 0)) = sB Y0 ∧ Kt [(59, sB Y0), (9, iN ((bb + 7) / 8)), (8, iN bb), (7, iN 0), (6, pT gk), (5, pT bq), (4, .bool false), (1, sB Y)] ((bz, .cells (cn .u8 (List.replicate ((bb + 7) / 8) 0)) 5) :: (gk, oC #[iN a, iN b, iN r, iN m] 73) :: (bq, oC #[iN a, iN b, iN r, iN m] 27) :: (bn, .cells (cn .u8 X) 58) :: O18)) (by kernel_rfl) (fun _ => by kernel_rfl) (⟨(make_ok (t := 67) (e := 5) (p := (.tmp 56)) (q := (.tmp 56)) (by kernel_rfl) rfl rfl Tryd.underlying67 (by kernel_rfl) (by omega)), fun bz => ⟨rfl, (str_all (List.length_replicate ..) (rep0_lt)), (by simp only [bs_size, List.length_replicate]; omega), (vS2 ((bs_app _ _).trans (congrArg bs hY0))), fun ac26 wd26 FF26 MM26 => ?_⟩⟩)
    refine st_new [9, 8, 7, 6, 5, 4, 1, 60] FF26 MM26 (d := 60) (bytes_ok (e := 5) (x := (.tmp 59)) (by kernel_rfl) rfl hY0b Tryd.underlying9 Tryd.underlying67 Tryd.underlying5) rfl rfl (by decide) fun ac27 wd27 br cz (FF27 : Fr 137 ac27 [(60, .slice (some ⟨br, 0, none⟩) Y0.length (Y0.length + cz)), (9, iN ((bb + 7) / 8)), (8, iN bb), (7, iN 0), (6, pT gk), (5, pT bq), (4, .bool false), (1, sB Y)]) (MM27 : MemS (fun k => k < w0.heap.size ∧ ∀ x ∈ O, x.1 ≠ k) w0 wd27 ((br, .cells (cn .u8 (Y0 ++ List.replicate cz 0)) 5 (Y0.length + cz, Y0.length + cz + 1)) :: (bz, .cells (cn .u8 (List.replicate ((bb + 7) / 8) 0)) 5) :: (gk, oC #[iN a, iN b, iN r, iN m] 73) :: (bq, oC #[iN a, iN b, iN r, iN m] 27) :: (bn, .cells (cn .u8 X) 58) :: O18) []) => ?_
    refine rg_part 3 FF27 MM27 [o_, t_ (.slice (some ⟨br, 0, none⟩) ((bb + 7) / 8) (Y0.length + cz)), o_] [9, 8, 7, 6, 5, 4, 1, 10] (fun Kt => 0 ≤ ((bb + 7) / 8) ∧ (bb + 7) / 8 ≤ (Y0.length + cz) ∧ 0 < (Y0.length + cz) ∧ Value.slice (some ⟨br, 0, none⟩) ((bb + 7) / 8) (Y0.length + cz) = .slice (some ⟨br, 0, none⟩) ((bb + 7) / 8) (Y0.length + cz) ∧ Kt [(10, .slice (some ⟨br, 0, none⟩) ((bb + 7) / 8) (Y0.length + cz)), (9, iN ((bb + 7) / 8)), (8, iN bb), (7, iN 0), (6, pT gk), (5, pT bq), (4, .bool false), (1, sB Y)] ((br, .cells (cn .u8 (Y0 ++ List.replicate cz 0)) 5 (Y0.length + cz, Y0.length + cz + 1)) :: (bz, .cells (cn .u8 (List.replicate ((bb + 7) / 8) 0)) 5) :: (gk, oC #[iN a, iN b, iN r, iN m] 73) :: (bq, oC #[iN a, iN b, iN r, iN m] 27) :: (bn, .cells (cn .u8 X) 58) :: O18)) (by kernel_rfl) (fun _ => by kernel_rfl) (⟨(by omega), (by omega), (by omega), rfl, fun ac28 wd28 FF28 MM28 => ?_⟩)
    refine wpl_nil (then_n ?_)
    obtain ⟨Rz, hRz, hRl, hRe⟩ := tak_cut Y ((bb + 7) / 8) cz
    have hRz := fun i => (hRz i).elim (fun h => h) (fun ⟨j, h⟩ => by rw [h]; exact hY j)
    rw [hY0] at hRe
    have MMr : MemS (fun k => k < w0.heap.size ∧ ∀ x ∈ O, x.1 ≠ k) w0 wd28 ((br, .cells (cn .u8 (takN ((bb + 7) / 8) Y ++ Rz)) 5 (Y0.length + cz, Y0.length + cz + 1)) :: (bz, .cells (cn .u8 (List.replicate ((bb + 7) / 8) 0)) 5) :: (gk, oC #[iN a, iN b, iN r, iN m] 73) :: (bq, oC #[iN a, iN b, iN r, iN m] 27) :: (bn, .cells (cn .u8 X) 58) :: O18) [] := by rw [← hRe]; exact MM28
    refine wp_mid (fun a' w' => ∃ Z : List Nat, Z.length = (bb + 7) / 8 ∧ (∀ i, Z.getD i 0 < 256) ∧ leV Z = bitN bb Y ∧ Fr 137 a' [(10, .slice (some ⟨br, 0, none⟩) ((bb + 7) / 8) (Y0.length + cz)), (9, iN ((bb + 7) / 8)), (8, iN bb), (7, iN 0), (6, pT gk), (5, pT bq), (4, .bool false), (1, sB Y)] ∧ MemS (fun k => k < w0.heap.size ∧ ∀ x ∈ O, x.1 ≠ k) w0 w' ((br, .cells (cn .u8 (Z ++ Rz)) 5 (Y0.length + cz, Y0.length + cz + 1)) :: (bz, .cells (cn .u8 (List.replicate ((bb + 7) / 8) 0)) 5) :: (gk, oC #[iN a, iN b, iN r, iN m] 73) :: (bq, oC #[iN a, iN b, iN r, iN m] 27) :: (bn, .cells (cn .u8 X) 58) :: O18) []) ?_ ?_
    · skip
      refine wp_seq (rg_seq FF28 MMr [o_, o_, o_] [10, 9, 8, 7, 6, 5, 4, 1, 65] (fun Kt => 8 ≠ 0 ∧ Kt [(65, .bool (decide ((bb % 8) ≠ 0))), (10, .slice (some ⟨br, 0, none⟩) ((bb + 7) / 8) (Y0.length + cz)), (9, iN ((bb + 7) / 8)), (8, iN bb), (7, iN 0), (6, pT gk), (5, pT bq), (4, .bool false), (1, sB Y)] ((br, .cells (cn .u8 (takN ((bb + 7) / 8) Y ++ Rz)) 5 (Y0.length + cz, Y0.length + cz + 1)) :: (bz, .cells (cn .u8 (List.replicate ((bb + 7) / 8) 0)) 5) :: (gk, oC #[iN a, iN b, iN r, iN m] 73) :: (bq, oC #[iN a, iN b, iN r, iN m] 27) :: (bn, .cells (cn .u8 X) 58) :: O18)) (by kernel_rfl) (fun _ => by kernel_rfl) (⟨(by decide), fun ac29 wd29 FF29 MM29 => then_n ?_⟩))
      by_cases hs65 : (bb % 8) ≠ 0
      · refine wp_cond_true ((FF29.ev 0 rfl).trans (dec_t hs65)) ?_
        have hmk : (takN ((bb + 7) / 8) Y).getD ((bb + 7) / 8 - 1) 0 &&& ((1 * 2 ^ (bb % 8) % 256 + (256 - 1)) % 256) < 256 := Nat.lt_of_le_of_lt Nat.and_le_left (takN_lt hY _ _)
        have hY2 := setY_lt (i := (bb + 7) / 8 - 1) (takN_lt hY ((bb + 7) / 8)) hmk
        refine rg_draw FF29 MM29 [.inl (.slice (some ⟨br, 0, none⟩) ((bb + 7) / 8) (Y0.length + cz)), .inl (iN ((bb + 7) / 8)), .inl (iN (((bb + 7) / 8) - 1)), .inl (.pointer (some ⟨br, ((bb + 7) / 8) - 1, none⟩)), .inl (iB ((takN ((bb + 7) / 8) Y).getD ((bb + 7) / 8 - 1) 0)), .inl (iN bb), .inl (iN (bb % 8)), .inl (iB (1 * (2 ^ (bb % 8)) % 256)), .inl (iB (((1 * (2 ^ (bb % 8)) % 256) + (256 - 1)) % 256)), .inl (iB (((takN ((bb + 7) / 8) Y).getD ((bb + 7) / 8 - 1) 0) &&& (((1 * (2 ^ (bb % 8)) % 256) + (256 - 1)) % 256))), .inl (.pointer (some ⟨br, ((bb + 7) / 8) - 1, none⟩))] [] [o_, o_, o_, w_ 1, l_ 0 (iB ((takN ((bb + 7) / 8) Y).getD ((bb + 7) / 8 - 1) 0)), o_, o_, o_, o_, o_, w_ 1] [s_ 0 (.cells (cn .u8 ((takN ((bb + 7) / 8) Y).set ((bb + 7) / 8 - 1) ((takN ((bb + 7) / 8) Y).getD ((bb + 7) / 8 - 1) 0 &&& ((1 * 2 ^ (bb % 8) % 256 + (256 - 1)) % 256)) ++ Rz)) 5)] [10, 9, 8, 7, 6, 5, 4, 1] (fun nb => [1 ≤ ((bb + 7) / 8), ((bb + 7) / 8) - 1 < 9223372036854775808, (((bb + 7) / 8) - 1) < ((bb + 7) / 8), br = br, (cn .u8 (takN ((bb + 7) / 8) Y ++ Rz))[((bb + 7) / 8) - 1]? = some (iB ((takN ((bb + 7) / 8) Y).getD ((bb + 7) / 8 - 1) 0)), 8 ≠ 0, 1 ≤ 256, ((takN ((bb + 7) / 8) Y).getD ((bb + 7) / 8 - 1) 0) < 256, (((1 * (2 ^ (bb % 8)) % 256) + (256 - 1)) % 256) < 256, (((bb + 7) / 8) - 1) < ((bb + 7) / 8)]) (fun nb Kt => br = br ∧ ((bb + 7) / 8) - 1 < (cn .u8 (takN ((bb + 7) / 8) Y ++ Rz)).size ∧ (((Y0.length + cz, Y0.length + cz + 1)).2 = 0 ∨ ((bb + 7) / 8) - 1 < ((Y0.length + cz, Y0.length + cz + 1)).1) ∧ (cn .u8 (takN ((bb + 7) / 8) Y ++ Rz)).setIfInBounds (((bb + 7) / 8) - 1) (iB (((takN ((bb + 7) / 8) Y).getD ((bb + 7) / 8 - 1) 0) &&& (((1 * (2 ^ (bb % 8)) % 256) + (256 - 1)) % 256))) = cn .u8 ((takN ((bb + 7) / 8) Y).set ((bb + 7) / 8 - 1) ((takN ((bb + 7) / 8) Y).getD ((bb + 7) / 8 - 1) 0 &&& ((1 * 2 ^ (bb % 8) % 256 + (256 - 1)) % 256)) ++ Rz) ∧ Kt [(10, .slice (some ⟨br, 0, none⟩) ((bb + 7) / 8) (Y0.length + cz)), (9, iN ((bb + 7) / 8)), (8, iN bb), (7, iN 0), (6, pT gk), (5, pT bq), (4, .bool false), (1, sB Y)] ((br, .cells (cn .u8 ((takN ((bb + 7) / 8) Y).set ((bb + 7) / 8 - 1) ((takN ((bb + 7) / 8) Y).getD ((bb + 7) / 8 - 1) 0 &&& ((1 * 2 ^ (bb % 8) % 256 + (256 - 1)) % 256)) ++ Rz)) 5 (Y0.length + cz, Y0.length + cz + 1)) :: (bz, .cells (cn .u8 (List.replicate ((bb + 7) / 8) 0)) 5) :: (gk, oC #[iN a, iN b, iN r, iN m] 73) :: (bq, oC #[iN a, iN b, iN r, iN m] 27) :: (bn, .cells (cn .u8 X) 58) :: O18)) (by kernel_rfl) (by kernel_rfl) (by kernel_rfl) (fun _ => by kernel_rfl) (fun _ _ => by kernel_rfl) trivial (fun nb => ⟨(by omega), (by omega), (by omega), rfl, ((cn_get _ _ _ (by rw [List.length_append, takN_len]; omega)).trans (congrArg some (vI (getD_app_l _ _ _ (by rw [takN_len]; omega))))), (by decide), (by decide), (takN_lt hY _ _), (Nat.mod_lt _ (by decide)), (by omega), trivial⟩) (fun nb => ⟨rfl, (by rw [cn_size, List.length_append, takN_len]; omega), (.inr (by show _ < _; omega)), ((cn_set _ _ _ _).trans (congrArg _ (List.set_append_left _ _ (by rw [takN_len]; omega)))), fun ac30 wd30 FF30 MM30 => ?_⟩)
        refine then_n ?_
        exact ⟨(takN ((bb + 7) / 8) Y).set ((bb + 7) / 8 - 1) ((takN ((bb + 7) / 8) Y).getD ((bb + 7) / 8 - 1) 0 &&& ((1 * 2 ^ (bb % 8) % 256 + (256 - 1)) % 256)), (by rw [List.length_set, takN_len]), hY2, (bit_ref hY hs65), FF30.pick [0, 1, 2, 3, 4, 5, 6, 7], MM30⟩
      · refine wp_cond_false ((FF29.ev 0 rfl).trans (dec_f hs65)) ?_
        refine wp_skip ?_
        refine then_n ?_
        exact ⟨takN ((bb + 7) / 8) Y, (takN_len _ _), (takN_lt hY _), (bit_ref0 hY (Classical.byContradiction hs65)), FF29.pick [1, 2, 3, 4, 5, 6, 7, 8], MM29⟩
    · rintro ac31 wd31 ⟨Z, hZl, hZb, hZv, FF31, MM31⟩
      have hRb := app_lt9 hZb hRz
      have hbit : leV Z < 2 ^ bb := by rw [hZv]; exact bitN_lt _ _
      have hV20 : leV Z < 2 ^ 20 := Nat.lt_of_lt_of_le hbit (Nat.pow_le_pow_right (by decide) hb2)
      refine wp_seq (wp_region_list ?_)
      refine rg_part 2 FF31 MM31 [o_, l_ 0 (sB Z)] [10, 9, 8, 7, 6, 5, 4, 1, 78] (fun Kt => br = br ∧ StrAt (cn .u8 (Z ++ Rz)) 0 ((bb + 7) / 8) (bs Z) ∧ Kt [(78, sB Z), (10, .slice (some ⟨br, 0, none⟩) ((bb + 7) / 8) (Y0.length + cz)), (9, iN ((bb + 7) / 8)), (8, iN bb), (7, iN 0), (6, pT gk), (5, pT bq), (4, .bool false), (1, sB Y)] ((br, .cells (cn .u8 (Z ++ Rz)) 5 (Y0.length + cz, Y0.length + cz + 1)) :: (bz, .cells (cn .u8 (List.replicate ((bb + 7) / 8) 0)) 5) :: (gk, oC #[iN a, iN b, iN r, iN m] 73) :: (bq, oC #[iN a, iN b, iN r, iN m] 27) :: (bn, .cells (cn .u8 X) 58) :: O18)) (by kernel_rfl) (fun _ => by kernel_rfl) (⟨rfl, (strZ_app hZl hRb), fun ac32 wd32 FF32 MM32 => ?_⟩)
      refine st_callE [10, 9, 8, 7, 6, 5, 4, 1, 79] FF32 (d := 79) (mk := fun v => .agg #[nv (leV Z) v]) en_nbytes rfl rfl (nbytes_any Z hZb (by rw [hZl]; omega) _) rfl (by kernel_rfl) (by decide) fun ac34 wd34 lv33 (FF34 : Fr 137 ac34 [(79, aG #[nv (leV Z) lv33]), (10, .slice (some ⟨br, 0, none⟩) ((bb + 7) / 8) (Y0.length + cz)), (9, iN ((bb + 7) / 8)), (8, iN bb), (7, iN 0), (6, pT gk), (5, pT bq), (4, .bool false), (1, sB Y)]) hr35 => ?_
      obtain ⟨O36, MM370, hN38, hs39⟩ := MemS.addNats (K := [(br, .cells (cn .u8 (Z ++ Rz)) 5 (Y0.length + cz, Y0.length + cz + 1)), (bz, .cells (cn .u8 (List.replicate ((bb + 7) / 8) 0)) 5), (gk, oC #[iN a, iN b, iN r, iN m] 73), (bq, oC #[iN a, iN b, iN r, iN m] 27), (bn, .cells (cn .u8 X) 58)]) (O := O18) MM32 hr35.1 hr35.2 hN20
      have MM37 : MemS (fun k => k < w0.heap.size ∧ ∀ x ∈ O, x.1 ≠ k) w0 wd34 ((br, .cells (cn .u8 (Z ++ Rz)) 5 (Y0.length + cz, Y0.length + cz + 1)) :: (bz, .cells (cn .u8 (List.replicate ((bb + 7) / 8) 0)) 5) :: (gk, oC #[iN a, iN b, iN r, iN m] 73) :: (bq, oC #[iN a, iN b, iN r, iN m] 27) :: (bn, .cells (cn .u8 X) 58) :: O36) [] := MM370
      have hT_40 := hT_22.mono hs39
      have hz41 : ∀ x ∈ O, x ∈ O36 := fun x hx => hs39 x (hs21 x hx)
      refine rg_part 2 FF34 MM37 [o_, b_ 0] [10, 9, 8, 7, 6, 5, 4, 1, 11] (fun Kt => ∀ bw, bw = bw ∧ (#[.slice none 0 0] : Array Value).size = 1 ∧ (#[nv (leV Z) lv33] : Array Value).size = 1 ∧ (#[nv (leV Z) lv33] : Array Value).all (·.oneCell') = true ∧ (0, 0).2 = 0 ∧ Kt [(11, pT bw), (10, .slice (some ⟨br, 0, none⟩) ((bb + 7) / 8) (Y0.length + cz)), (9, iN ((bb + 7) / 8)), (8, iN bb), (7, iN 0), (6, pT gk), (5, pT bq), (4, .bool false), (1, sB Y)] ((bw, oC #[nv (leV Z) lv33] 37) :: (br, .cells (cn .u8 (Z ++ Rz)) 5 (Y0.length + cz, Y0.length + cz + 1)) :: (bz, .cells (cn .u8 (List.replicate ((bb + 7) / 8) 0)) 5) :: (gk, oC #[iN a, iN b, iN r, iN m] 73) :: (bq, oC #[iN a, iN b, iN r, iN m] 27) :: (bn, .cells (cn .u8 X) 58) :: O36)) (by kernel_rfl) (fun _ => by kernel_rfl) (fun bw => ⟨rfl, rfl, rfl, (by kernel_rfl), rfl, fun ac42 wd42 FF42 MM42 => ?_⟩)
      refine wpl_nil (then_n ?_)
      by_cases hV : leV Z < toN a b r m (2 * r + 1)
      · skip
        obtain ⟨i, hi, h2, h3⟩ := atw_find hV
        have hU := un1_yes hZl hbit hbb hV
        have hD : drN a b r m 1 Z = m - r + i := by rw [drN, hU, if_pos rfl]; exact a_yes hi h2 h3
        refine wp_seq (rg_seq FF42 MM42 [o_, b_ 0, u_ 1 (.tuple #[iN (m - r + i), .bool true]), o_, o_, o_, o_, o_] [11, 10, 9, 8, 7, 6, 5, 4, 1, 12, 13] (fun Kt => bw = bw ∧ (#[nv (leV Z) lv33] : Array Value).size = 1 ∧ CallP Tryd.prog 21 [pT gk, aG #[nv (leV Z) lv33]] ((bw, oC #[nv (leV Z) lv33] 37) :: (br, .cells (cn .u8 (Z ++ Rz)) 5 (Y0.length + cz, Y0.length + cz + 1)) :: (bz, .cells (cn .u8 (List.replicate ((bb + 7) / 8) 0)) 5) :: (gk, oC #[iN a, iN b, iN r, iN m] 73) :: (bq, oC #[iN a, iN b, iN r, iN m] 27) :: (bn, .cells (cn .u8 X) 58) :: O36) (.tuple #[iN (m - r + i), .bool true]) ∧ Kt [(13, .bool true), (12, iN (m - r + i)), (11, pT bw), (10, .slice (some ⟨br, 0, none⟩) ((bb + 7) / 8) (Y0.length + cz)), (9, iN ((bb + 7) / 8)), (8, iN bb), (7, iN 0), (6, pT gk), (5, pT bq), (4, .bool false), (1, sB Y)] ((bw, oC #[nv (leV Z) lv33] 37) :: (br, .cells (cn .u8 (Z ++ Rz)) 5 (Y0.length + cz, Y0.length + cz + 1)) :: (bz, .cells (cn .u8 (List.replicate ((bb + 7) / 8) 0)) 5) :: (gk, oC #[iN a, iN b, iN r, iN m] 73) :: (bq, oC #[iN a, iN b, iN r, iN m] 27) :: (bn, .cells (cn .u8 X) 58) :: O36)) (by kernel_rfl) (fun _ => by kernel_rfl) (⟨rfl, rfl, ⟨en_kat, fun w Hw => (by have h0 := kat_any gk a b r m hk (leV Z) lv33 (qok (le_b hV20 (by decide))) w (Hw 3 _ rfl) ((hN38.get 0 rfl).at (Has.tl (Has.tl (Has.tl (Has.tl (Has.tl (Has.tl Hw))))))); rw [a_yes hi h2 h3, decide_eq_true hV] at h0; exact h0)⟩, fun ac43 wd43 FF43 MM43 => then_n ?_⟩))
        refine wp_seq (wp_region_list ?_)
        refine rg_part 3 FF43 MM43 [o_, o_, l_ 1 (sB Z)] [13, 12, 11, 10, 9, 8, 7, 6, 5, 4, 1, 87, 89] (fun Kt => br = br ∧ StrAt (cn .u8 (Z ++ Rz)) 0 ((bb + 7) / 8) (bs Z) ∧ Kt [(89, sB Z), (87, pT gk), (13, .bool true), (12, iN (m - r + i)), (11, pT bw), (10, .slice (some ⟨br, 0, none⟩) ((bb + 7) / 8) (Y0.length + cz)), (9, iN ((bb + 7) / 8)), (8, iN bb), (7, iN 0), (6, pT gk), (5, pT bq), (4, .bool false), (1, sB Y)] ((bw, oC #[nv (leV Z) lv33] 37) :: (br, .cells (cn .u8 (Z ++ Rz)) 5 (Y0.length + cz, Y0.length + cz + 1)) :: (bz, .cells (cn .u8 (List.replicate ((bb + 7) / 8) 0)) 5) :: (gk, oC #[iN a, iN b, iN r, iN m] 73) :: (bq, oC #[iN a, iN b, iN r, iN m] 27) :: (bn, .cells (cn .u8 X) 58) :: O36)) (by kernel_rfl) (fun _ => by kernel_rfl) (⟨rfl, (strZ_app hZl hRb), fun ac44 wd44 FF44 MM44 => ?_⟩)
        refine st_callE [87, 13, 12, 11, 10, 9, 8, 7, 6, 5, 4, 1, 90] FF44 (d := 90) (mk := fun v => v) en_tnew rfl rfl (tnew_any Z _) rfl (by kernel_rfl) (by decide) fun ac46 wd46 lv45 (FF46 : Fr 137 ac46 [(90, lv45), (87, pT gk), (13, .bool true), (12, iN (m - r + i)), (11, pT bw), (10, .slice (some ⟨br, 0, none⟩) ((bb + 7) / 8) (Y0.length + cz)), (9, iN ((bb + 7) / 8)), (8, iN bb), (7, iN 0), (6, pT gk), (5, pT bq), (4, .bool false), (1, sB Y)]) hr47 => ?_
        obtain ⟨gt, rfl, hB_gt, hf_gt, hb_gt⟩ := hr47
        have MM48 := MM44.keep hB_gt
        have MM49 : MemS (fun k => k < w0.heap.size ∧ ∀ x ∈ O, x.1 ≠ k) w0 wd46 ((gt, oC #[sB Z, iN 0] 81) :: (bw, oC #[nv (leV Z) lv33] 37) :: (br, .cells (cn .u8 (Z ++ Rz)) 5 (Y0.length + cz, Y0.length + cz + 1)) :: (bz, .cells (cn .u8 (List.replicate ((bb + 7) / 8) 0)) 5) :: (gk, oC #[iN a, iN b, iN r, iN m] 73) :: (bq, oC #[iN a, iN b, iN r, iN m] 27) :: (bn, .cells (cn .u8 X) 58) :: O36) [] := MM44.addFresh MM48 hb_gt hf_gt
        refine st_callE [13, 12, 11, 10, 9, 8, 7, 6, 5, 4, 1, 91] FF46 (d := 91) (mk := fun _ => .tuple #[iN (m - r + i), iN 0]) (R' := fun _ w9 => Turn gt (TB (Z.drop ((bb + 7) / 8)) (0 + ((bb + 7) / 8))) wd46 w9) en_kdraw rfl rfl (by have h0 := kdraw_any gk gt a b r m hk Z 0 hZb (by decide) 1 (by decide) (by decide) wd46 (MM49.get 4 rfl) (MM49.get 0 rfl); rw [hD, hU] at h0; exact h0.mono fun _ _ ⟨h1, h2⟩ => ⟨undef, h1, h2⟩) rfl (by kernel_rfl) (by decide) fun ac51 wd51 lv50 (FF51 : Fr 137 ac51 [(91, .tuple #[iN (m - r + i), iN 0]), (13, .bool true), (12, iN (m - r + i)), (11, pT bw), (10, .slice (some ⟨br, 0, none⟩) ((bb + 7) / 8) (Y0.length + cz)), (9, iN ((bb + 7) / 8)), (8, iN bb), (7, iN 0), (6, pT gk), (5, pT bq), (4, .bool false), (1, sB Y)]) hr52 => ?_
        have MM53 : MemS (fun k => k < w0.heap.size ∧ ∀ x ∈ O, x.1 ≠ k) w0 wd51 ((gt, oC #[sB (Z.drop ((bb + 7) / 8)), iN (0 + ((bb + 7) / 8))] 81) :: (bw, oC #[nv (leV Z) lv33] 37) :: (br, .cells (cn .u8 (Z ++ Rz)) 5 (Y0.length + cz, Y0.length + cz + 1)) :: (bz, .cells (cn .u8 (List.replicate ((bb + 7) / 8) 0)) 5) :: (gk, oC #[iN a, iN b, iN r, iN m] 73) :: (bq, oC #[iN a, iN b, iN r, iN m] 27) :: (bn, .cells (cn .u8 X) 58) :: O36) [] := MM49.turnAt hr52 0 rfl
        refine rg_part 5 FF51 MM53 [o_, o_, o_, o_, o_] [13, 12, 11, 10, 9, 8, 7, 6, 5, 4, 1, 14, 15] (fun Kt => Kt [(15, iN 0), (14, iN (m - r + i)), (13, .bool true), (12, iN (m - r + i)), (11, pT bw), (10, .slice (some ⟨br, 0, none⟩) ((bb + 7) / 8) (Y0.length + cz)), (9, iN ((bb + 7) / 8)), (8, iN bb), (7, iN 0), (6, pT gk), (5, pT bq), (4, .bool false), (1, sB Y)] ((gt, oC #[sB (Z.drop ((bb + 7) / 8)), iN (0 + ((bb + 7) / 8))] 81) :: (bw, oC #[nv (leV Z) lv33] 37) :: (br, .cells (cn .u8 (Z ++ Rz)) 5 (Y0.length + cz, Y0.length + cz + 1)) :: (bz, .cells (cn .u8 (List.replicate ((bb + 7) / 8) 0)) 5) :: (gk, oC #[iN a, iN b, iN r, iN m] 73) :: (bq, oC #[iN a, iN b, iN r, iN m] 27) :: (bn, .cells (cn .u8 X) 58) :: O36)) (by kernel_rfl) (fun _ => by kernel_rfl) (fun ac54 wd54 FF54 MM54 => ?_)
        refine wpl_nil (then_n ?_)
        refine wp_seq ?_
        refine wp_seq (rg_pred FF54 MM54 [.inl (aG #[nv (leV Z) lv33]), .inl (pT gk), (.inr (fun v => .agg #[nv (toN a b r m (2 * r + 1)) v], fun v w => NatNew wd54.heap.size w (nv (toN a b r m (2 * r + 1)) v) (toN a b r m (2 * r + 1))) : Spec), (.inr (fun _ => .int .i64 (cmpN (leV Z) (toN a b r m (2 * r + 1))), fun v w => True) : Spec), .inl (.bool false)] [some (b_ 1), some (o_), none, none, some (u_ 4 (.bool false))] [98, 15, 14, 13, 12, 11, 10, 9, 8, 7, 6, 5, 4, 1] (fun lx wq => [(bw = bw ∧ (#[nv (leV Z) lv33] : Array Value).size = 1 ∧ aG #[nv (leV Z) lv33] = aG #[nv (leV Z) lv33]), (pT gk = pT gk), (CallQ Tryd.prog 16 [pT gk] wq (.inr (fun v => .agg #[nv (toN a b r m (2 * r + 1)) v], fun v w => NatNew wd54.heap.size w (nv (toN a b r m (2 * r + 1)) v) (toN a b r m (2 * r + 1))) : Spec)), (NatNew wd54.heap.size wq (nv (toN a b r m (2 * r + 1)) (lx 2)) (toN a b r m (2 * r + 1)) → NatNew wd54.heap.size wq (nv (toN a b r m (2 * r + 1)) (lx 2)) (toN a b r m (2 * r + 1)) → CallQ Tryd.prog 33 [aG #[nv (leV Z) lv33], aG #[nv (toN a b r m (2 * r + 1)) (lx 2)]] wq (.inr (fun _ => .int .i64 (cmpN (leV Z) (toN a b r m (2 * r + 1))), fun v w => True) : Spec)), (True → Value.bool (decide ((cmpN (leV Z) (toN a b r m (2 * r + 1))) ≥ ((0 : Nat) : Int))) = .bool false ∧ Value.bool false = .bool false)]) (fun lx => [(98, .bool false), (15, iN 0), (14, iN (m - r + i)), (13, .bool true), (12, iN (m - r + i)), (11, pT bw), (10, .slice (some ⟨br, 0, none⟩) ((bb + 7) / 8) (Y0.length + cz)), (9, iN ((bb + 7) / 8)), (8, iN bb), (7, iN 0), (6, pT gk), (5, pT bq), (4, .bool false), (1, sB Y)]) (by kernel_rfl) (by kernel_rfl) (by kernel_rfl) ⟨(fun v w w1 => natNew_st _ _ (nv _ v) w w1), (fun _ _ _ _ _ => trivial), trivial⟩ (fun _ _ => by kernel_rfl) (fun _ => by kernel_rfl) (fun lx wq hB9 hH9 => ⟨(⟨rfl, rfl, rfl⟩), (rfl), (⟨en_ktotal, (ktotal_any gk a b r m hk wq (hH9 4 _ rfl)).mono fun _ _ ⟨v, h1, h2, h3⟩ => ⟨v, h1, h2, h3.mono hB9.size⟩⟩), (fun h2_0 h2_1 => ⟨en_ncmp, (ncmp_any (leV Z) lv33 (qok (le_b hV20 (by decide))) (toN a b r m (2 * r + 1)) (lx 2) wq ((hN38.get 0 rfl).at (Has.tl (Has.tl (Has.tl (Has.tl (Has.tl (Has.tl (Has.tl hH9)))))))) h2_1.1).mono fun _ _ ⟨h1, h2⟩ => ⟨undef, h1, h2, trivial⟩⟩), (fun h3_0 => ⟨(dec_f (cmp_lt0 hV)), rfl⟩), trivial⟩) (fun lx ac55 wd55 hx56 hB57 FF55 MM55 => ?_))
        obtain ⟨hl2, hl3, -⟩ := hx56
        generalize lx 2 = lv59 at *
        generalize lx 3 = lv60 at *
        refine wpl_nil (then_n ?_)
        refine wp_cond_false (FF55.ev 0 rfl) ?_
        refine wp_skip ?_
        refine then_n ?_
        refine wp_seq (rg_seq FF55 MM55 [o_, o_, o_, w_ 2, o_, o_, o_, o_, w_ 2, o_, o_, o_, o_, u_ 1 (iN (m - r)), w_ 2, o_, o_, o_, o_, u_ 1 (iN (m + r)), w_ 2, o_, o_, u_ 1 (.bool true), o_, o_] [15, 14, 13, 11, 10, 9, 8, 7, 6, 5, 4, 1] (fun Kt => 0 = 0 ∧ (m - r + i) = (m - r + i) ∧ CallP Tryd.prog 11 [pT gk] ((gt, oC #[sB (Z.drop ((bb + 7) / 8)), iN (0 + ((bb + 7) / 8))] 81) :: (bw, oC #[nv (leV Z) lv33] 37) :: (br, .cells (cn .u8 (Z ++ Rz)) 5 (Y0.length + cz, Y0.length + cz + 1)) :: (bz, .cells (cn .u8 (List.replicate ((bb + 7) / 8) 0)) 5) :: (gk, oC #[iN a, iN b, iN r, iN m] 73) :: (bq, oC #[iN a, iN b, iN r, iN m] 27) :: (bn, .cells (cn .u8 X) 58) :: O36) (iN (m - r)) ∧ (m - r + i) ≥ (m - r) ∧ CallP Tryd.prog 13 [pT gk] ((gt, oC #[sB (Z.drop ((bb + 7) / 8)), iN (0 + ((bb + 7) / 8))] 81) :: (bw, oC #[nv (leV Z) lv33] 37) :: (br, .cells (cn .u8 (Z ++ Rz)) 5 (Y0.length + cz, Y0.length + cz + 1)) :: (bz, .cells (cn .u8 (List.replicate ((bb + 7) / 8) 0)) 5) :: (gk, oC #[iN a, iN b, iN r, iN m] 73) :: (bq, oC #[iN a, iN b, iN r, iN m] 27) :: (bn, .cells (cn .u8 X) 58) :: O36) (iN (m + r)) ∧ (m - r + i) ≤ (m + r) ∧ CallP Tryd.prog 8 [] ((gt, oC #[sB (Z.drop ((bb + 7) / 8)), iN (0 + ((bb + 7) / 8))] 81) :: (bw, oC #[nv (leV Z) lv33] 37) :: (br, .cells (cn .u8 (Z ++ Rz)) 5 (Y0.length + cz, Y0.length + cz + 1)) :: (bz, .cells (cn .u8 (List.replicate ((bb + 7) / 8) 0)) 5) :: (gk, oC #[iN a, iN b, iN r, iN m] 73) :: (bq, oC #[iN a, iN b, iN r, iN m] 27) :: (bn, .cells (cn .u8 X) 58) :: O36) (.bool true) ∧ Kt [(4, .bool true), (15, iN 0), (14, iN (m - r + i)), (13, .bool true), (11, pT bw), (10, .slice (some ⟨br, 0, none⟩) ((bb + 7) / 8) (Y0.length + cz)), (9, iN ((bb + 7) / 8)), (8, iN bb), (7, iN 0), (6, pT gk), (5, pT bq), (1, sB Y)] ((gt, oC #[sB (Z.drop ((bb + 7) / 8)), iN (0 + ((bb + 7) / 8))] 81) :: (bw, oC #[nv (leV Z) lv33] 37) :: (br, .cells (cn .u8 (Z ++ Rz)) 5 (Y0.length + cz, Y0.length + cz + 1)) :: (bz, .cells (cn .u8 (List.replicate ((bb + 7) / 8) 0)) 5) :: (gk, oC #[iN a, iN b, iN r, iN m] 73) :: (bq, oC #[iN a, iN b, iN r, iN m] 27) :: (bn, .cells (cn .u8 X) 58) :: O36)) (by kernel_rfl) (fun _ => by kernel_rfl) (⟨rfl, rfl, ⟨en_kleast, fun w Hw => kleast_any gk a b r m hk w (Hw 4 _ rfl)⟩, (by omega), ⟨en_kmost, fun w Hw => kmost_any gk a b r m hk w (Hw 4 _ rfl)⟩, (by omega), ⟨en_lawwakes, fun w Hw => wakes_w w (hT_40.at (Has.tl (Has.tl (Has.tl (Has.tl (Has.tl (Has.tl (Has.tl Hw))))))))⟩, fun ac61 wd61 FF61 MM61 => then_n ?_⟩))
        refine wp_ret ?_
        repeat first | refine then_ret ?_ | refine inb_ret ?_
        exact (ret_fr FF61 0 Tryd.results6 rfl ⟨rfl, MM61.belowN H (fun _ hx => List.mem_cons_of_mem _ (List.mem_cons_of_mem _ (List.mem_cons_of_mem _ (List.mem_cons_of_mem _ (List.mem_cons_of_mem _ (List.mem_cons_of_mem _ (List.mem_cons_of_mem _ (hz41 _ hx))))))))⟩)
      · skip
        have hU := un1_no hZl hbit hbb hV
        have hD : drN a b r m 1 Z = 0 := by rw [drN, hU, if_neg (show ¬ (3 : Nat) = 0 by decide)]
        refine wp_seq (rg_seq FF42 MM42 [o_, b_ 0, u_ 1 (.tuple #[iN 0, .bool false]), o_, o_, o_, o_, o_] [11, 10, 9, 8, 7, 6, 5, 4, 1, 12, 13] (fun Kt => bw = bw ∧ (#[nv (leV Z) lv33] : Array Value).size = 1 ∧ CallP Tryd.prog 21 [pT gk, aG #[nv (leV Z) lv33]] ((bw, oC #[nv (leV Z) lv33] 37) :: (br, .cells (cn .u8 (Z ++ Rz)) 5 (Y0.length + cz, Y0.length + cz + 1)) :: (bz, .cells (cn .u8 (List.replicate ((bb + 7) / 8) 0)) 5) :: (gk, oC #[iN a, iN b, iN r, iN m] 73) :: (bq, oC #[iN a, iN b, iN r, iN m] 27) :: (bn, .cells (cn .u8 X) 58) :: O36) (.tuple #[iN 0, .bool false]) ∧ Kt [(13, .bool false), (12, iN 0), (11, pT bw), (10, .slice (some ⟨br, 0, none⟩) ((bb + 7) / 8) (Y0.length + cz)), (9, iN ((bb + 7) / 8)), (8, iN bb), (7, iN 0), (6, pT gk), (5, pT bq), (4, .bool false), (1, sB Y)] ((bw, oC #[nv (leV Z) lv33] 37) :: (br, .cells (cn .u8 (Z ++ Rz)) 5 (Y0.length + cz, Y0.length + cz + 1)) :: (bz, .cells (cn .u8 (List.replicate ((bb + 7) / 8) 0)) 5) :: (gk, oC #[iN a, iN b, iN r, iN m] 73) :: (bq, oC #[iN a, iN b, iN r, iN m] 27) :: (bn, .cells (cn .u8 X) 58) :: O36)) (by kernel_rfl) (fun _ => by kernel_rfl) (⟨rfl, rfl, ⟨en_kat, fun w Hw => (by have h0 := kat_any gk a b r m hk (leV Z) lv33 (qok (le_b hV20 (by decide))) w (Hw 3 _ rfl) ((hN38.get 0 rfl).at (Has.tl (Has.tl (Has.tl (Has.tl (Has.tl (Has.tl Hw))))))); rw [a_no (Nat.le_of_not_lt hV), decide_eq_false hV] at h0; exact h0)⟩, fun ac62 wd62 FF62 MM62 => then_n ?_⟩))
        refine wp_seq (wp_region_list ?_)
        refine rg_part 3 FF62 MM62 [o_, o_, l_ 1 (sB Z)] [13, 12, 11, 10, 9, 8, 7, 6, 5, 4, 1, 87, 89] (fun Kt => br = br ∧ StrAt (cn .u8 (Z ++ Rz)) 0 ((bb + 7) / 8) (bs Z) ∧ Kt [(89, sB Z), (87, pT gk), (13, .bool false), (12, iN 0), (11, pT bw), (10, .slice (some ⟨br, 0, none⟩) ((bb + 7) / 8) (Y0.length + cz)), (9, iN ((bb + 7) / 8)), (8, iN bb), (7, iN 0), (6, pT gk), (5, pT bq), (4, .bool false), (1, sB Y)] ((bw, oC #[nv (leV Z) lv33] 37) :: (br, .cells (cn .u8 (Z ++ Rz)) 5 (Y0.length + cz, Y0.length + cz + 1)) :: (bz, .cells (cn .u8 (List.replicate ((bb + 7) / 8) 0)) 5) :: (gk, oC #[iN a, iN b, iN r, iN m] 73) :: (bq, oC #[iN a, iN b, iN r, iN m] 27) :: (bn, .cells (cn .u8 X) 58) :: O36)) (by kernel_rfl) (fun _ => by kernel_rfl) (⟨rfl, (strZ_app hZl hRb), fun ac63 wd63 FF63 MM63 => ?_⟩)
        refine st_callE [87, 13, 12, 11, 10, 9, 8, 7, 6, 5, 4, 1, 90] FF63 (d := 90) (mk := fun v => v) en_tnew rfl rfl (tnew_any Z _) rfl (by kernel_rfl) (by decide) fun ac65 wd65 lv64 (FF65 : Fr 137 ac65 [(90, lv64), (87, pT gk), (13, .bool false), (12, iN 0), (11, pT bw), (10, .slice (some ⟨br, 0, none⟩) ((bb + 7) / 8) (Y0.length + cz)), (9, iN ((bb + 7) / 8)), (8, iN bb), (7, iN 0), (6, pT gk), (5, pT bq), (4, .bool false), (1, sB Y)]) hr66 => ?_
        obtain ⟨gt, rfl, hB_gt, hf_gt, hb_gt⟩ := hr66
        have MM67 := MM63.keep hB_gt
        have MM68 : MemS (fun k => k < w0.heap.size ∧ ∀ x ∈ O, x.1 ≠ k) w0 wd65 ((gt, oC #[sB Z, iN 0] 81) :: (bw, oC #[nv (leV Z) lv33] 37) :: (br, .cells (cn .u8 (Z ++ Rz)) 5 (Y0.length + cz, Y0.length + cz + 1)) :: (bz, .cells (cn .u8 (List.replicate ((bb + 7) / 8) 0)) 5) :: (gk, oC #[iN a, iN b, iN r, iN m] 73) :: (bq, oC #[iN a, iN b, iN r, iN m] 27) :: (bn, .cells (cn .u8 X) 58) :: O36) [] := MM63.addFresh MM67 hb_gt hf_gt
        refine st_callE [13, 12, 11, 10, 9, 8, 7, 6, 5, 4, 1, 91] FF65 (d := 91) (mk := fun _ => .tuple #[iN 0, iN 3]) (R' := fun _ w9 => Turn gt (TB (Z.drop ((bb + 7) / 8)) (0 + ((bb + 7) / 8))) wd65 w9) en_kdraw rfl rfl (by have h0 := kdraw_any gk gt a b r m hk Z 0 hZb (by decide) 1 (by decide) (by decide) wd65 (MM68.get 4 rfl) (MM68.get 0 rfl); rw [hD, hU] at h0; exact h0.mono fun _ _ ⟨h1, h2⟩ => ⟨undef, h1, h2⟩) rfl (by kernel_rfl) (by decide) fun ac70 wd70 lv69 (FF70 : Fr 137 ac70 [(91, .tuple #[iN 0, iN 3]), (13, .bool false), (12, iN 0), (11, pT bw), (10, .slice (some ⟨br, 0, none⟩) ((bb + 7) / 8) (Y0.length + cz)), (9, iN ((bb + 7) / 8)), (8, iN bb), (7, iN 0), (6, pT gk), (5, pT bq), (4, .bool false), (1, sB Y)]) hr71 => ?_
        have MM72 : MemS (fun k => k < w0.heap.size ∧ ∀ x ∈ O, x.1 ≠ k) w0 wd70 ((gt, oC #[sB (Z.drop ((bb + 7) / 8)), iN (0 + ((bb + 7) / 8))] 81) :: (bw, oC #[nv (leV Z) lv33] 37) :: (br, .cells (cn .u8 (Z ++ Rz)) 5 (Y0.length + cz, Y0.length + cz + 1)) :: (bz, .cells (cn .u8 (List.replicate ((bb + 7) / 8) 0)) 5) :: (gk, oC #[iN a, iN b, iN r, iN m] 73) :: (bq, oC #[iN a, iN b, iN r, iN m] 27) :: (bn, .cells (cn .u8 X) 58) :: O36) [] := MM68.turnAt hr71 0 rfl
        refine rg_part 5 FF70 MM72 [o_, o_, o_, o_, o_] [13, 12, 11, 10, 9, 8, 7, 6, 5, 4, 1, 14, 15] (fun Kt => Kt [(15, iN 3), (14, iN 0), (13, .bool false), (12, iN 0), (11, pT bw), (10, .slice (some ⟨br, 0, none⟩) ((bb + 7) / 8) (Y0.length + cz)), (9, iN ((bb + 7) / 8)), (8, iN bb), (7, iN 0), (6, pT gk), (5, pT bq), (4, .bool false), (1, sB Y)] ((gt, oC #[sB (Z.drop ((bb + 7) / 8)), iN (0 + ((bb + 7) / 8))] 81) :: (bw, oC #[nv (leV Z) lv33] 37) :: (br, .cells (cn .u8 (Z ++ Rz)) 5 (Y0.length + cz, Y0.length + cz + 1)) :: (bz, .cells (cn .u8 (List.replicate ((bb + 7) / 8) 0)) 5) :: (gk, oC #[iN a, iN b, iN r, iN m] 73) :: (bq, oC #[iN a, iN b, iN r, iN m] 27) :: (bn, .cells (cn .u8 X) 58) :: O36)) (by kernel_rfl) (fun _ => by kernel_rfl) (fun ac73 wd73 FF73 MM73 => ?_)
        refine wpl_nil (then_n ?_)
        refine wp_seq ?_
        refine wp_seq (rg_pred FF73 MM73 [.inl (aG #[nv (leV Z) lv33]), .inl (pT gk), (.inr (fun v => .agg #[nv (toN a b r m (2 * r + 1)) v], fun v w => NatNew wd73.heap.size w (nv (toN a b r m (2 * r + 1)) v) (toN a b r m (2 * r + 1))) : Spec), (.inr (fun _ => .int .i64 (cmpN (leV Z) (toN a b r m (2 * r + 1))), fun v w => True) : Spec), .inl (.bool true)] [some (b_ 1), some (o_), none, none, some (u_ 4 (.bool true))] [98, 15, 14, 13, 12, 11, 10, 9, 8, 7, 6, 5, 4, 1] (fun lx wq => [(bw = bw ∧ (#[nv (leV Z) lv33] : Array Value).size = 1 ∧ aG #[nv (leV Z) lv33] = aG #[nv (leV Z) lv33]), (pT gk = pT gk), (CallQ Tryd.prog 16 [pT gk] wq (.inr (fun v => .agg #[nv (toN a b r m (2 * r + 1)) v], fun v w => NatNew wd73.heap.size w (nv (toN a b r m (2 * r + 1)) v) (toN a b r m (2 * r + 1))) : Spec)), (NatNew wd73.heap.size wq (nv (toN a b r m (2 * r + 1)) (lx 2)) (toN a b r m (2 * r + 1)) → NatNew wd73.heap.size wq (nv (toN a b r m (2 * r + 1)) (lx 2)) (toN a b r m (2 * r + 1)) → CallQ Tryd.prog 33 [aG #[nv (leV Z) lv33], aG #[nv (toN a b r m (2 * r + 1)) (lx 2)]] wq (.inr (fun _ => .int .i64 (cmpN (leV Z) (toN a b r m (2 * r + 1))), fun v w => True) : Spec)), (True → Value.bool (decide ((cmpN (leV Z) (toN a b r m (2 * r + 1))) ≥ ((0 : Nat) : Int))) = .bool true ∧ Value.bool true = .bool true)]) (fun lx => [(98, .bool true), (15, iN 3), (14, iN 0), (13, .bool false), (12, iN 0), (11, pT bw), (10, .slice (some ⟨br, 0, none⟩) ((bb + 7) / 8) (Y0.length + cz)), (9, iN ((bb + 7) / 8)), (8, iN bb), (7, iN 0), (6, pT gk), (5, pT bq), (4, .bool false), (1, sB Y)]) (by kernel_rfl) (by kernel_rfl) (by kernel_rfl) ⟨(fun v w w1 => natNew_st _ _ (nv _ v) w w1), (fun _ _ _ _ _ => trivial), trivial⟩ (fun _ _ => by kernel_rfl) (fun _ => by kernel_rfl) (fun lx wq hB9 hH9 => ⟨(⟨rfl, rfl, rfl⟩), (rfl), (⟨en_ktotal, (ktotal_any gk a b r m hk wq (hH9 4 _ rfl)).mono fun _ _ ⟨v, h1, h2, h3⟩ => ⟨v, h1, h2, h3.mono hB9.size⟩⟩), (fun h2_0 h2_1 => ⟨en_ncmp, (ncmp_any (leV Z) lv33 (qok (le_b hV20 (by decide))) (toN a b r m (2 * r + 1)) (lx 2) wq ((hN38.get 0 rfl).at (Has.tl (Has.tl (Has.tl (Has.tl (Has.tl (Has.tl (Has.tl hH9)))))))) h2_1.1).mono fun _ _ ⟨h1, h2⟩ => ⟨undef, h1, h2, trivial⟩⟩), (fun h3_0 => ⟨(dec_t (cmp_ge0 (Nat.le_of_not_lt hV))), rfl⟩), trivial⟩) (fun lx ac74 wd74 hx75 hB76 FF74 MM74 => ?_))
        obtain ⟨hl2, hl3, -⟩ := hx75
        generalize lx 2 = lv78 at *
        generalize lx 3 = lv79 at *
        refine wpl_nil (then_n ?_)
        refine wp_cond_true (FF74.ev 0 rfl) ?_
        refine wp_seq (rg_seq FF74 MM74 [o_, o_, o_, o_, w_ 2, o_, o_, o_, w_ 2, o_, o_, u_ 1 (.bool true), o_, o_] [15, 14, 13, 12, 11, 10, 9, 8, 7, 6, 5, 4, 1] (fun Kt => 3 = 3 ∧ 0 = 0 ∧ CallP Tryd.prog 8 [] ((gt, oC #[sB (Z.drop ((bb + 7) / 8)), iN (0 + ((bb + 7) / 8))] 81) :: (bw, oC #[nv (leV Z) lv33] 37) :: (br, .cells (cn .u8 (Z ++ Rz)) 5 (Y0.length + cz, Y0.length + cz + 1)) :: (bz, .cells (cn .u8 (List.replicate ((bb + 7) / 8) 0)) 5) :: (gk, oC #[iN a, iN b, iN r, iN m] 73) :: (bq, oC #[iN a, iN b, iN r, iN m] 27) :: (bn, .cells (cn .u8 X) 58) :: O36) (.bool true) ∧ Kt [(4, .bool true), (15, iN 3), (14, iN 0), (13, .bool false), (12, iN 0), (11, pT bw), (10, .slice (some ⟨br, 0, none⟩) ((bb + 7) / 8) (Y0.length + cz)), (9, iN ((bb + 7) / 8)), (8, iN bb), (7, iN 0), (6, pT gk), (5, pT bq), (1, sB Y)] ((gt, oC #[sB (Z.drop ((bb + 7) / 8)), iN (0 + ((bb + 7) / 8))] 81) :: (bw, oC #[nv (leV Z) lv33] 37) :: (br, .cells (cn .u8 (Z ++ Rz)) 5 (Y0.length + cz, Y0.length + cz + 1)) :: (bz, .cells (cn .u8 (List.replicate ((bb + 7) / 8) 0)) 5) :: (gk, oC #[iN a, iN b, iN r, iN m] 73) :: (bq, oC #[iN a, iN b, iN r, iN m] 27) :: (bn, .cells (cn .u8 X) 58) :: O36)) (by kernel_rfl) (fun _ => by kernel_rfl) (⟨rfl, rfl, ⟨en_lawwakes, fun w Hw => wakes_w w (hT_40.at (Has.tl (Has.tl (Has.tl (Has.tl (Has.tl (Has.tl (Has.tl Hw))))))))⟩, fun ac80 wd80 FF80 MM80 => then_n ?_⟩))
        refine wp_ret ?_
        repeat first | refine then_ret ?_ | refine inb_ret ?_
        exact (ret_fr FF80 0 Tryd.results6 rfl ⟨rfl, MM80.belowN H (fun _ hx => List.mem_cons_of_mem _ (List.mem_cons_of_mem _ (List.mem_cons_of_mem _ (List.mem_cons_of_mem _ (List.mem_cons_of_mem _ (List.mem_cons_of_mem _ (List.mem_cons_of_mem _ (hz41 _ hx))))))))⟩)
end Go.Proofs.YtlljedijldkcbaaDoor
namespace Go.Proofs.YtlljedijldkcbaaDoor
open Go.RowKit
def pw10 : List Nat := [1, 10, 100, 1000, 10000, 100000, 1000000, 10000000, 100000000, 1000000000, 10000000000, 100000000000, 1000000000000, 10000000000000, 100000000000000, 1000000000000000, 10000000000000000, 100000000000000000, 1000000000000000000, 10000000000000000000]
theorem pw10_at : ∀ i : Fin 20, pw10[i.val]? = some (10 ^ i.val) := by decide +kernel
theorem tab_in {w : World} {T : TypeId} {fr : Nat × Nat} (h : w.heap[2]? = some (.cells (cn .u64 pw10) T fr)) : TabIn w := .inr ⟨2, _, T, fr, rfl, h, fun j hj => by
  have := pw10_at ⟨j, hj⟩
  simp [cn, this]⟩
end Go.Proofs.YtlljedijldkcbaaDoor
namespace Go.Proofs.YtlljedijldkcbaaDoor
open Go.RowKit
theorem laid_mem {P : Program} {W : World} : ∀ (laid : List (String × DataW Unit)) (ps : List MemPlace), DataW.LaidVars P W laid ps → ∀ x ∈ laid, ∃ g t cs fuel p, P.globalNamed x.1 = some g ∧ (P.globals[g]?).map (·.type) = some t ∧ W.var? P x.1 = some cs ∧ DataW.trod (fun _ => ()) P W 0 (fun _ => true) false fuel t cs.toList = some (x.2, p)
  | [], _, _, _, hx => by cases hx
  | (n, d) :: r, ps, h, x, hx => by
    obtain ⟨g, t, cs, fuel, p, q, h1, h2, h3, h4, h5, _⟩ := h
    rcases List.mem_cons.1 hx with rfl | hx
    · exact ⟨g, t, cs, fuel, p, h1, h2, h3, h4⟩
    · exact laid_mem r q h5 x hx
/-- A table of numbers that is laid lies in its block. -/
theorem tab_of {P : Program} {W : World} {laid : List (String × DataW Unit)} {n : String} {D : DataW Unit} {g : Nat} {t e : TypeId} {m : Nat} {k : IntKind} {K : List Nat} (h : laidMetH P laid W) (hH : (laid.all fun x => x.2.handleName?.isNone) = true) (hx : (n, D) ∈ laid)
    (hg : P.globalNamed n = some g) (ht : (P.globals[g]?).map (·.type) = some t) (hu : P.underlying t = some (.array m e)) (he : P.underlying e = some (.int k)) (hc : P.cellsOf e = 1) (hct : P.cellsOf t = m) (hD : D = .agg (K.map fun (x : Nat) => .lit (.int k (x : Int)))) (hK : K.length = m) :
    ∃ T fr, W.heap[g]? = some (.cells (cn k K) T fr) := by
  rw [MakeChecks.laidMetH_plain _ _ _ hH] at h
  obtain ⟨ps, hl, _⟩ := h
  obtain ⟨g', t', cs, fuel, p, h1, h2, h3, h4⟩ := laid_mem laid ps hl _ hx
  obtain rfl := Option.some.inj (hg.symm.trans h1)
  obtain rfl := Option.some.inj (ht.symm.trans h2)
  have hb : ∃ T fr, W.heap[g]? = some (.cells cs T fr) := by
    simp only [World.var?, hg, Option.bind_some] at h3
    split at h3
    · rename_i c T fr hb
      cases h3
      exact ⟨T, fr, hb⟩
    · cases h3
  obtain ⟨T, fr, hb⟩ := hb
  refine ⟨T, fr, ?_⟩
  rw [hb]
  obtain ⟨xs, m1, _, hx1, hlen, hn, hel⟩ := DataW.trod_array hu h4
  have hx2 : D = .agg (xs.map fun x => x.1) := (Prod.mk.inj hx1).1
  rw [hD] at hx2
  have hx3 : (K.map fun (x : Nat) => (DataW.lit (.int k (x : Int)) : DataW Unit)) = xs.map fun x => x.1 := by injection hx2
  have hcs : cs = cn k K := by
    refine Array.ext_getElem? fun i => ?_
    rcases Nat.lt_or_ge i m with hi | hi
    · have e1 := hel i hi
      have e2 : xs[i]? = some (xs[i]'(by omega)) := by simp
      rw [e2, hc] at e1
      obtain ⟨z, e3, e4, _⟩ := DataW.trod_int he e1
      have e5 := congrArg (fun l => l[i]?) hx3
      simp only [List.getElem?_map, e2, e4, List.getElem?_eq_getElem (show i < K.length by omega), Option.map_some, Option.some.injEq, DataW.lit.injEq, Lit.int.injEq] at e5
      have e6 := congrArg (fun l => l[0]?) e3
      rw [Nat.mul_one] at e6
      have e7 : cs[i]? = some (.int k z) := by simpa using e6
      rw [e7, cn_get k K i (by omega), ← e5.2]
      simp [show i < K.length by omega]
    · rw [Array.getElem?_eq_none (by rw [← Array.length_toList, hlen, hct]; exact hi), Array.getElem?_eq_none (by rw [cn_size, hK]; exact hi)]
  rw [hcs]
end Go.Proofs.YtlljedijldkcbaaDoor
