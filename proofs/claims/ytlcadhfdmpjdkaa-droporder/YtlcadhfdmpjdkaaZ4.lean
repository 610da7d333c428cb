/- Several texts in one: The law DropOrder. Rows that come in: of requests. -/
import Derived.Test.YtlcadhfdmpjdkaaZ3
import Derived.Test.YtlcadhfdmpjdkaaZ2
import Derived.ChangeMaps5
import Derived.SizedLaws
import Derived.SliceStrings
namespace Go.Proofs.Ytlcadhfdmpjdkaa
open Go.RowKit
set_option maxHeartbeats 4000000 in
set_option maxRecDepth 100000 in
theorem order_O (O : Blks) (hD : Distinct O) (p : Option Addr) (n cp : Nat) (fN fB : Nat → Nat) (fR : Nat → List Nat) (hN8 : ∀ i, fN i < 256) (hB8 : ∀ i, fB i < 256) (hR8 : ∀ i j, (fR i).getD j 0 < 256) (a : Nat) (ha : a < 256) (b : Nat) (hb : b < 256) (hA : RowO O p (n * 3) (madeV fN fB fR)) (w0 : World) (H : Has w0 O) :
    Calls Try.prog 5 #[.slice p n cp, iB a, iB b] w0 fun e w' => e = .returned (.bool true) ∧ Below w0.heap.size w0 w' := by
  refine enter_fr Try.func5 rfl Try.ntmps5 (by simp) fun ac (FF : Fr 83 ac [(0, .slice p n cp), (1, iB a), (2, iB b)]) => ?_
  have MM : MemS (fun k => k < w0.heap.size ∧ ∀ x ∈ O, x.1 ≠ k) w0 w0 O [] := MemS.startN H hD
  refine wp_seq (rg_c FF MM [] 7 [] [] (fun _ _ FF1 MM1 => then_n ?_))
  refine wp_seq ?_
  by_cases hP : FairP n fR
  · by_cases hn0 : n = 0
    · skip
      obtain ⟨s, hsd⟩ : ∃ s, s = reqM fN fB fR := ⟨_, rfl⟩
      have hs : ∀ i, i < n → ∀ j, (s i).getD j 0 < 256 := fun i _ => hsd ▸ reqM_lt (hN8 i) (hB8 i) (hR8 i)
      have hn40 := hP.1
      refine wp_seq (rg_c FF1 MM1 [(1, u_ 1 (.bool true)), (4, w_ 2)] 7 [19] [] (⟨⟨en_fair, fun w Hw => fair_w p n cp fN fB fR true ⟨fun _ => hP, fun _ => rfl⟩ w (hA.at Hw)⟩, by omega, fun _ _ FF2 MM2 => then_n ?_⟩))
      refine wp_cond_true (FF2.ev 0 rfl) ?_
      refine wp_seq (rg_c FF2 MM2 [(0, t_ (.bool true))] 7 [] [] (⟨(callP_of en_wakes wakes_w _), fun _ _ FF3 MM3 => then_n ?_⟩))
      refine wp_ret ?_
      repeat first | refine then_ret ?_ | refine inb_ret ?_
      exact (ret_fr FF3 0 Try.results5 rfl ⟨rfl, MM3.belowN H (fun _ hx => hx)⟩)
    · skip
      obtain ⟨s, hsd⟩ : ∃ s, s = reqM fN fB fR := ⟨_, rfl⟩
      have hs : ∀ i, i < n → ∀ j, (s i).getD j 0 < 256 := fun i _ => hsd ▸ reqM_lt (hN8 i) (hB8 i) (hR8 i)
      have hn40 := hP.1
      have hnp : 0 < n := Nat.pos_of_ne_zero hn0
      obtain ⟨i, hia⟩ : ∃ i, a % n = i := ⟨_, rfl⟩
      obtain ⟨j, hjb⟩ : ∃ j, b % n = j := ⟨_, rfl⟩
      have hi : i < n := hia ▸ Nat.mod_lt _ hnp
      have hj : j < n := hjb ▸ Nat.mod_lt _ hnp
      refine wp_seq (rg_c FF1 MM1 [(1, u_ 1 (.bool true)), (4, w_ 3)] 7 [19] [] (⟨⟨en_fair, fun w Hw => fair_w p n cp fN fB fR true ⟨fun _ => hP, fun _ => rfl⟩ w (hA.at Hw)⟩, by omega, fun _ _ FF4 MM4 => then_n ?_⟩))
      refine wp_cond_false (FF4.ev 0 rfl) ?_
      refine wp_skip ?_
      refine then_n ?_
      refine wp_seq (rg_dc 12 FF4 MM4 [(1, w_ 1), (2, t_ (iN i)), (1, w_ 1), (2, t_ (iN j))] [] 9 [] [1, 2] (⟨(by have := ha; omega), (by have := ha; omega), (vI hia), (by have := hb; omega), (by have := hb; omega), (vI hjb), fun _ _ FF5 MM5 => then_n ?_⟩))
      refine wp_seq (wp_region_list ?_)
      refine rp_c 1 FF5 MM5 [] 32 [] [] (fun _ wd6 FF6 MM6 => ?_)
      refine st_callE [8, 7, 6, 0, 32] FF6 (d := 32) (mk := fun v => v) en_req rfl rfl (by have h0 := reqb_w p n cp fN fB fR hN8 hB8 hR8 (by omega) wd6 (hA.at MM6.hasL); rw [← hsd] at h0; exact h0) rfl (by kernel_rfl) (by decide) fun ac8 wd8 lv7 FF8 hr9 => ?_
      obtain ⟨hB_gr, hX_gr⟩ := hr9
      obtain ⟨gr, cap_gr, rs_gr, rfl, hf_gr, hb_gr⟩ := hX_gr hn0
      have MM10 := MM6.keep hB_gr
      have MM11 : MemS (fun k => k < w0.heap.size ∧ ∀ x ∈ O, x.1 ≠ k) w0 wd8 ((gr, .cells ((fc n (fun k9 => sB (s k9))) ++ rs_gr) 9) :: O) [] := MM6.addFresh MM10 hb_gr hf_gr
      refine rp_c 1 FF8 MM11 [] 9 [9] [] (fun _ _ FF12 MM12 => ?_)
      refine wpl_nil (then_n ?_)
      refine wp_seq (wp_region_list ?_)
      refine rp_c 1 FF12 MM12 [] 34 [] [] (fun _ _ FF13 MM13 => ?_)
      refine st_callE [9, 8, 7, 6, 0, 34] FF13 (d := 34) (mk := fun v => v) en_dm rfl rfl (dmf_w (some ⟨gr, 0, none⟩) n cap_gr s (by omega) hs _ (rowIn_fcr (MM13.hasL 0 _ rfl))) rfl (by kernel_rfl) (by decide) fun ac15 wd15 lv14 FF15 hr16 => ?_
      obtain ⟨gm, rfl, hB_gm, hf_gm, hb_gm⟩ := hr16
      have MM17 := MM13.keep hB_gm
      have MM18 : MemS (fun k => k < w0.heap.size ∧ ∀ x ∈ O, x.1 ≠ k) w0 wd15 ((gm, .cells (fc n (fun k9 => sB (mAt s n k9))) 9) :: (gr, .cells ((fc n (fun k9 => sB (s k9))) ++ rs_gr) 9) :: O) [] := MM13.addFresh MM17 hb_gm hf_gm
      refine rp_c 1 FF15 MM18 [] 11 [] [] (fun _ _ FF19 MM19 => ?_)
      refine wpl_nil (then_n ?_)
      refine wp_seq (draw_open (N := 16) (by kernel_rfl) (by kernel_rfl) MM19 fun wd20 (MM21 : MemS (fun k => k < w0.heap.size ∧ ∀ x ∈ O, x.1 ≠ k) w0 wd20 ((gm, .cells (fc n (fun k9 => sB (mAt s n k9))) 9) :: (gr, .cells ((fc n (fun k9 => sB (s k9))) ++ rs_gr) 9) :: O) []) => ?_)
      refine take_op FF19 (i := 0) (oi := opAt Try.f5 6 0) (v := (.slice (some ⟨gr, 0, none⟩) n cap_gr)) (d := 35) (by kernel_rfl) (by kernel_rfl) (by kernel_rfl) (by kernel_rfl) (fun _ _ _ _ _ h => h) (by kernel_rfl) (by decide) (by kernel_rfl) (mvV (x := .tmp 9) (by kernel_rfl) rfl) fun ac22 (FF23 : Fr 83 ac22 [(35, .slice (some ⟨gr, 0, none⟩) n cap_gr), (10, .slice (some ⟨gm, 0, none⟩) n n), (9, .slice (some ⟨gr, 0, none⟩) n cap_gr), (8, iN j), (7, iN i), (6, .bool false), (0, .slice p n cp)]) => ?_
      refine take_op FF23 (i := 1) (oi := opAt Try.f5 6 1) (v := (iN i)) (d := 36) (by kernel_rfl) (by kernel_rfl) (by kernel_rfl) (by kernel_rfl) (fun _ _ _ _ _ h => h) (by kernel_rfl) (by decide) (by kernel_rfl) (mvV (x := .tmp 7) (by kernel_rfl) rfl) fun ac24 (FF25 : Fr 83 ac24 [(36, iN i), (35, .slice (some ⟨gr, 0, none⟩) n cap_gr), (10, .slice (some ⟨gm, 0, none⟩) n n), (9, .slice (some ⟨gr, 0, none⟩) n cap_gr), (8, iN j), (7, iN i), (6, .bool false), (0, .slice p n cp)]) => ?_
      refine take_op FF25 (i := 2) (oi := opAt Try.f5 6 2) (v := (.slice (some ⟨gr, 0, none⟩) n cap_gr)) (d := 37) (by kernel_rfl) (by kernel_rfl) (by kernel_rfl) (by kernel_rfl) (fun _ _ _ _ _ h => h) (by kernel_rfl) (by decide) (by kernel_rfl) (mvV (x := .tmp 9) (by kernel_rfl) rfl) fun ac26 (FF27 : Fr 83 ac26 [(37, .slice (some ⟨gr, 0, none⟩) n cap_gr), (36, iN i), (35, .slice (some ⟨gr, 0, none⟩) n cap_gr), (10, .slice (some ⟨gm, 0, none⟩) n n), (9, .slice (some ⟨gr, 0, none⟩) n cap_gr), (8, iN j), (7, iN i), (6, .bool false), (0, .slice p n cp)]) => ?_
      refine take_op FF27 (i := 3) (oi := opAt Try.f5 6 3) (v := (iN j)) (d := 38) (by kernel_rfl) (by kernel_rfl) (by kernel_rfl) (by kernel_rfl) (fun _ _ _ _ _ h => h) (by kernel_rfl) (by decide) (by kernel_rfl) (mvV (x := .tmp 8) (by kernel_rfl) rfl) fun ac28 (FF29 : Fr 83 ac28 [(38, iN j), (37, .slice (some ⟨gr, 0, none⟩) n cap_gr), (36, iN i), (35, .slice (some ⟨gr, 0, none⟩) n cap_gr), (10, .slice (some ⟨gm, 0, none⟩) n n), (9, .slice (some ⟨gr, 0, none⟩) n cap_gr), (8, iN j), (7, iN i), (6, .bool false), (0, .slice p n cp)]) => ?_
      refine take_op FF29 (i := 4) (oi := opAt Try.f5 6 4) (v := (.slice (some ⟨gr, 0, none⟩) n cap_gr)) (d := 39) (by kernel_rfl) (by kernel_rfl) (by kernel_rfl) (by kernel_rfl) (fun _ _ _ _ _ h => h) (by kernel_rfl) (by decide) (by kernel_rfl) (mvV (x := .tmp 9) (by kernel_rfl) rfl) fun ac30 (FF31 : Fr 83 ac30 [(39, .slice (some ⟨gr, 0, none⟩) n cap_gr), (38, iN j), (37, .slice (some ⟨gr, 0, none⟩) n cap_gr), (36, iN i), (35, .slice (some ⟨gr, 0, none⟩) n cap_gr), (10, .slice (some ⟨gm, 0, none⟩) n n), (9, .slice (some ⟨gr, 0, none⟩) n cap_gr), (8, iN j), (7, iN i), (6, .bool false), (0, .slice p n cp)]) => ?_
      refine take_op FF31 (i := 5) (oi := opAt Try.f5 6 5) (v := (iN j)) (d := 40) (by kernel_rfl) (by kernel_rfl) (by kernel_rfl) (by kernel_rfl) (fun _ _ _ _ _ h => h) (by kernel_rfl) (by decide) (by kernel_rfl) (mvV (x := .tmp 8) (by kernel_rfl) rfl) fun ac32 (FF33 : Fr 83 ac32 [(40, iN j), (39, .slice (some ⟨gr, 0, none⟩) n cap_gr), (38, iN j), (37, .slice (some ⟨gr, 0, none⟩) n cap_gr), (36, iN i), (35, .slice (some ⟨gr, 0, none⟩) n cap_gr), (10, .slice (some ⟨gm, 0, none⟩) n n), (9, .slice (some ⟨gr, 0, none⟩) n cap_gr), (8, iN j), (7, iN i), (6, .bool false), (0, .slice p n cp)]) => ?_
      refine take_op FF33 (i := 6) (oi := opAt Try.f5 6 6) (v := (.pointer (some ⟨gr, j, none⟩))) (d := 41) (by kernel_rfl) (by kernel_rfl) (by kernel_rfl) (by kernel_rfl) (fun _ _ _ _ _ h => h) (by kernel_rfl) (by decide) (by kernel_rfl) (addrV (x := .tmp 39) (y := .tmp 40) (t := 25) (by kernel_rfl) rfl rfl Try.underlying25 (by kernel_rfl) hj) fun ac34 (FF35 : Fr 83 ac34 [(41, .pointer (some ⟨gr, j, none⟩)), (40, iN j), (39, .slice (some ⟨gr, 0, none⟩) n cap_gr), (38, iN j), (37, .slice (some ⟨gr, 0, none⟩) n cap_gr), (36, iN i), (35, .slice (some ⟨gr, 0, none⟩) n cap_gr), (10, .slice (some ⟨gm, 0, none⟩) n n), (9, .slice (some ⟨gr, 0, none⟩) n cap_gr), (8, iN j), (7, iN i), (6, .bool false), (0, .slice p n cp)]) => ?_
      refine take_op FF35 (i := 8) (oi := opAt Try.f5 6 8) (v := (.slice (some ⟨gr, 0, none⟩) n cap_gr)) (d := 43) (by kernel_rfl) (by kernel_rfl) (by kernel_rfl) (by kernel_rfl) (fun _ _ _ _ _ h => h) (by kernel_rfl) (by decide) (by kernel_rfl) (mvV (x := .tmp 9) (by kernel_rfl) rfl) fun ac36 (FF37 : Fr 83 ac36 [(43, .slice (some ⟨gr, 0, none⟩) n cap_gr), (41, .pointer (some ⟨gr, j, none⟩)), (40, iN j), (39, .slice (some ⟨gr, 0, none⟩) n cap_gr), (38, iN j), (37, .slice (some ⟨gr, 0, none⟩) n cap_gr), (36, iN i), (35, .slice (some ⟨gr, 0, none⟩) n cap_gr), (10, .slice (some ⟨gm, 0, none⟩) n n), (9, .slice (some ⟨gr, 0, none⟩) n cap_gr), (8, iN j), (7, iN i), (6, .bool false), (0, .slice p n cp)]) => ?_
      refine take_op FF37 (i := 9) (oi := opAt Try.f5 6 9) (v := (iN i)) (d := 44) (by kernel_rfl) (by kernel_rfl) (by kernel_rfl) (by kernel_rfl) (fun _ _ _ _ _ h => h) (by kernel_rfl) (by decide) (by kernel_rfl) (mvV (x := .tmp 7) (by kernel_rfl) rfl) fun ac38 (FF39 : Fr 83 ac38 [(44, iN i), (43, .slice (some ⟨gr, 0, none⟩) n cap_gr), (41, .pointer (some ⟨gr, j, none⟩)), (40, iN j), (39, .slice (some ⟨gr, 0, none⟩) n cap_gr), (38, iN j), (37, .slice (some ⟨gr, 0, none⟩) n cap_gr), (36, iN i), (35, .slice (some ⟨gr, 0, none⟩) n cap_gr), (10, .slice (some ⟨gm, 0, none⟩) n n), (9, .slice (some ⟨gr, 0, none⟩) n cap_gr), (8, iN j), (7, iN i), (6, .bool false), (0, .slice p n cp)]) => ?_
      refine take_op FF39 (i := 10) (oi := opAt Try.f5 6 10) (v := (.pointer (some ⟨gr, i, none⟩))) (d := 45) (by kernel_rfl) (by kernel_rfl) (by kernel_rfl) (by kernel_rfl) (fun _ _ _ _ _ h => h) (by kernel_rfl) (by decide) (by kernel_rfl) (addrV (x := .tmp 43) (y := .tmp 44) (t := 25) (by kernel_rfl) rfl rfl Try.underlying25 (by kernel_rfl) hi) fun ac40 (FF41 : Fr 83 ac40 [(45, .pointer (some ⟨gr, i, none⟩)), (44, iN i), (43, .slice (some ⟨gr, 0, none⟩) n cap_gr), (41, .pointer (some ⟨gr, j, none⟩)), (40, iN j), (39, .slice (some ⟨gr, 0, none⟩) n cap_gr), (38, iN j), (37, .slice (some ⟨gr, 0, none⟩) n cap_gr), (36, iN i), (35, .slice (some ⟨gr, 0, none⟩) n cap_gr), (10, .slice (some ⟨gm, 0, none⟩) n n), (9, .slice (some ⟨gr, 0, none⟩) n cap_gr), (8, iN j), (7, iN i), (6, .bool false), (0, .slice p n cp)]) => ?_
      refine take_two FF41 MM21.hasL (i := 7) (j := 11) (oi := opAt Try.f5 6 7) (oj := opAt Try.f5 6 11) (u := (sB (s j))) (v := (sB (s i))) (d := 42) (e := 46) (by kernel_rfl) (by kernel_rfl) (by kernel_rfl) (by kernel_rfl) (by kernel_rfl) (by kernel_rfl) (by kernel_rfl) (by decide) (by decide) (by decide) (by decide) (by kernel_rfl) (by kernel_rfl) (by kernel_rfl) (by kernel_rfl) (loadV (x := .tmp 41) (t := 9) (by kernel_rfl) rfl Try.underlying9 rfl (List.mem_of_getElem? (i := 1) rfl) ((cat_l (by rw [fc_size]; exact hj)).trans (fc_get _ hj))) (loadV (x := .tmp 45) (t := 9) (by kernel_rfl) rfl Try.underlying9 rfl (List.mem_of_getElem? (i := 1) rfl) ((cat_l (by rw [fc_size]; exact hi)).trans (fc_get _ hi))) (loadV (x := .tmp 41) (t := 9) (by kernel_rfl) rfl Try.underlying9 rfl (List.mem_of_getElem? (i := 1) rfl) ((cat_l (by rw [fc_size]; exact hj)).trans (fc_get _ hj))) (loadV (x := .tmp 45) (t := 9) (by kernel_rfl) rfl Try.underlying9 rfl (List.mem_of_getElem? (i := 1) rfl) ((cat_l (by rw [fc_size]; exact hi)).trans (fc_get _ hi))) fun ac42 (FF43 : Fr 83 ac42 [(46, sB (s i)), (42, sB (s j)), (45, .pointer (some ⟨gr, i, none⟩)), (44, iN i), (43, .slice (some ⟨gr, 0, none⟩) n cap_gr), (41, .pointer (some ⟨gr, j, none⟩)), (40, iN j), (39, .slice (some ⟨gr, 0, none⟩) n cap_gr), (38, iN j), (37, .slice (some ⟨gr, 0, none⟩) n cap_gr), (36, iN i), (35, .slice (some ⟨gr, 0, none⟩) n cap_gr), (10, .slice (some ⟨gm, 0, none⟩) n n), (9, .slice (some ⟨gr, 0, none⟩) n cap_gr), (8, iN j), (7, iN i), (6, .bool false), (0, .slice p n cp)]) => ?_
      refine to_row 12 (by kernel_rfl) (by kernel_rfl) (Nat.le_of_ble_eq_true (by kernel_rfl)) (by kernel_rfl) (by kernel_rfl) (by kernel_rfl) (Nat.le_of_ble_eq_true (by kernel_rfl)) ?_
      refine rp_c 4 FF43 MM21 [(0, w_ 1), (0, s_ 1 (.cells ((fc n (fun k9 => sB (if k9 = i then s j else s k9))) ++ rs_gr) 9)), (0, w_ 1), (0, s_ 1 (.cells ((fc n (fun k9 => sB (swapS s i j k9))) ++ rs_gr) 9))] 11 [] [] (⟨hi, rfl, (by rw [Array.size_append, fc_size]; exact Nat.lt_of_lt_of_le hi (Nat.le_add_right _ _)), (.inl rfl), ((cat_set_l (by rw [fc_size]; exact hi)).trans (congrArg (· ++ _) ((fc_set _ _ _ _).trans (fc_cong fun k _ => ite_str)))), hj, rfl, (by rw [Array.size_append, fc_size]; exact Nat.lt_of_lt_of_le hj (Nat.le_add_right _ _)), (.inl rfl), ((cat_set_l (by rw [fc_size]; exact hj)).trans (congrArg (· ++ _) ((fc_set _ _ _ _).trans (fc_cong fun k _ => ite_str)))), fun _ _ FF44 MM44 => ?_⟩)
      refine wpl_nil (then_n ?_)
      refine wp_seq (wp_region_list ?_)
      refine rp_c 1 FF44 MM44 [] 50 [] [] (fun _ _ FF45 MM45 => ?_)
      refine st_callE [10, 9, 8, 7, 6, 0, 50] FF45 (d := 50) (mk := fun v => .slice (pOf v) n (cOf v)) en_dm rfl rfl (dm_w (some ⟨gr, 0, none⟩) n cap_gr (swapS s i j) (by omega) (swapS_lt hi hj hs) _ (rowIn_fcr (MM45.hasL 1 _ rfl))) rfl (by kernel_rfl) (by decide) fun ac48 wd48 lv47 FF48 hr49 => ?_
      obtain ⟨O50, MM510, hR52, hs53⟩ := MemS.addRow (K := [(gm, .cells (fc n (fun k9 => sB (mAt s n k9))) 9), (gr, .cells ((fc n (fun k9 => sB (swapS s i j k9))) ++ rs_gr) 9)]) (O := O) MM45 hr49.1 hr49.2
      have MM51 : MemS (fun k => k < w0.heap.size ∧ ∀ x ∈ O, x.1 ≠ k) w0 wd48 ((gm, .cells (fc n (fun k9 => sB (mAt s n k9))) 9) :: (gr, .cells ((fc n (fun k9 => sB (swapS s i j k9))) ++ rs_gr) 9) :: O50) [] := MM510
      have hk54 := hA.mono hs53
      refine rp_c 1 FF48 MM51 [] 12 [] [] (fun _ _ FF55 MM55 => ?_)
      refine wpl_nil (then_n ?_)
      refine wp_seq ?_
      refine wp_seq (rg_c FF55 MM55 [(4, w_ 3), (5, w_ 3)] 12 [62] [] (⟨(fun h => h rfl), (fun h => h rfl), fun _ _ FF56 MM56 => then_n ?_⟩))
      refine wp_cond_false (FF56.ev 0 rfl) ?_
      refine wp_skip ?_
      refine then_n ?_
      refine wp_seq (draw_open (N := 16) (by kernel_rfl) (by kernel_rfl) MM56 fun wd57 (MM58 : MemS (fun k => k < w0.heap.size ∧ ∀ x ∈ O, x.1 ≠ k) w0 wd57 ((gm, .cells (fc n (fun k9 => sB (mAt s n k9))) 9) :: (gr, .cells ((fc n (fun k9 => sB (swapS s i j k9))) ++ rs_gr) 9) :: O50) []) => ?_)
      refine take_op FF56 (i := 0) (oi := opAt Try.f5 10 0) (v := (.slice (some ⟨gm, 0, none⟩) n n)) (d := 63) (by kernel_rfl) (by kernel_rfl) (by kernel_rfl) (by kernel_rfl) (fun _ _ _ _ _ h => h) (by kernel_rfl) (by decide) (by kernel_rfl) (mvV (x := .tmp 10) (by kernel_rfl) rfl) fun ac59 (FF60 : Fr 83 ac59 [(63, .slice (some ⟨gm, 0, none⟩) n n), (62, .bool false), (11, .slice (pOf lv47) n (cOf lv47)), (10, .slice (some ⟨gm, 0, none⟩) n n), (9, .slice (some ⟨gr, 0, none⟩) n cap_gr), (8, iN j), (7, iN i), (6, .bool false), (0, .slice p n cp)]) => ?_
      refine take_op FF60 (i := 1) (oi := opAt Try.f5 10 1) (v := (iN i)) (d := 64) (by kernel_rfl) (by kernel_rfl) (by kernel_rfl) (by kernel_rfl) (fun _ _ _ _ _ h => h) (by kernel_rfl) (by decide) (by kernel_rfl) (mvV (x := .tmp 7) (by kernel_rfl) rfl) fun ac61 (FF62 : Fr 83 ac61 [(64, iN i), (63, .slice (some ⟨gm, 0, none⟩) n n), (62, .bool false), (11, .slice (pOf lv47) n (cOf lv47)), (10, .slice (some ⟨gm, 0, none⟩) n n), (9, .slice (some ⟨gr, 0, none⟩) n cap_gr), (8, iN j), (7, iN i), (6, .bool false), (0, .slice p n cp)]) => ?_
      refine take_op FF62 (i := 2) (oi := opAt Try.f5 10 2) (v := (.slice (some ⟨gm, 0, none⟩) n n)) (d := 65) (by kernel_rfl) (by kernel_rfl) (by kernel_rfl) (by kernel_rfl) (fun _ _ _ _ _ h => h) (by kernel_rfl) (by decide) (by kernel_rfl) (mvV (x := .tmp 10) (by kernel_rfl) rfl) fun ac63 (FF64 : Fr 83 ac63 [(65, .slice (some ⟨gm, 0, none⟩) n n), (64, iN i), (63, .slice (some ⟨gm, 0, none⟩) n n), (62, .bool false), (11, .slice (pOf lv47) n (cOf lv47)), (10, .slice (some ⟨gm, 0, none⟩) n n), (9, .slice (some ⟨gr, 0, none⟩) n cap_gr), (8, iN j), (7, iN i), (6, .bool false), (0, .slice p n cp)]) => ?_
      refine take_op FF64 (i := 3) (oi := opAt Try.f5 10 3) (v := (iN j)) (d := 66) (by kernel_rfl) (by kernel_rfl) (by kernel_rfl) (by kernel_rfl) (fun _ _ _ _ _ h => h) (by kernel_rfl) (by decide) (by kernel_rfl) (mvV (x := .tmp 8) (by kernel_rfl) rfl) fun ac65 (FF66 : Fr 83 ac65 [(66, iN j), (65, .slice (some ⟨gm, 0, none⟩) n n), (64, iN i), (63, .slice (some ⟨gm, 0, none⟩) n n), (62, .bool false), (11, .slice (pOf lv47) n (cOf lv47)), (10, .slice (some ⟨gm, 0, none⟩) n n), (9, .slice (some ⟨gr, 0, none⟩) n cap_gr), (8, iN j), (7, iN i), (6, .bool false), (0, .slice p n cp)]) => ?_
      refine take_op FF66 (i := 4) (oi := opAt Try.f5 10 4) (v := (.slice (some ⟨gm, 0, none⟩) n n)) (d := 67) (by kernel_rfl) (by kernel_rfl) (by kernel_rfl) (by kernel_rfl) (fun _ _ _ _ _ h => h) (by kernel_rfl) (by decide) (by kernel_rfl) (mvV (x := .tmp 10) (by kernel_rfl) rfl) fun ac67 (FF68 : Fr 83 ac67 [(67, .slice (some ⟨gm, 0, none⟩) n n), (66, iN j), (65, .slice (some ⟨gm, 0, none⟩) n n), (64, iN i), (63, .slice (some ⟨gm, 0, none⟩) n n), (62, .bool false), (11, .slice (pOf lv47) n (cOf lv47)), (10, .slice (some ⟨gm, 0, none⟩) n n), (9, .slice (some ⟨gr, 0, none⟩) n cap_gr), (8, iN j), (7, iN i), (6, .bool false), (0, .slice p n cp)]) => ?_
      refine take_op FF68 (i := 5) (oi := opAt Try.f5 10 5) (v := (iN j)) (d := 68) (by kernel_rfl) (by kernel_rfl) (by kernel_rfl) (by kernel_rfl) (fun _ _ _ _ _ h => h) (by kernel_rfl) (by decide) (by kernel_rfl) (mvV (x := .tmp 8) (by kernel_rfl) rfl) fun ac69 (FF70 : Fr 83 ac69 [(68, iN j), (67, .slice (some ⟨gm, 0, none⟩) n n), (66, iN j), (65, .slice (some ⟨gm, 0, none⟩) n n), (64, iN i), (63, .slice (some ⟨gm, 0, none⟩) n n), (62, .bool false), (11, .slice (pOf lv47) n (cOf lv47)), (10, .slice (some ⟨gm, 0, none⟩) n n), (9, .slice (some ⟨gr, 0, none⟩) n cap_gr), (8, iN j), (7, iN i), (6, .bool false), (0, .slice p n cp)]) => ?_
      refine take_op FF70 (i := 6) (oi := opAt Try.f5 10 6) (v := (.pointer (some ⟨gm, j, none⟩))) (d := 69) (by kernel_rfl) (by kernel_rfl) (by kernel_rfl) (by kernel_rfl) (fun _ _ _ _ _ h => h) (by kernel_rfl) (by decide) (by kernel_rfl) (addrV (x := .tmp 67) (y := .tmp 68) (t := 25) (by kernel_rfl) rfl rfl Try.underlying25 (by kernel_rfl) hj) fun ac71 (FF72 : Fr 83 ac71 [(69, .pointer (some ⟨gm, j, none⟩)), (68, iN j), (67, .slice (some ⟨gm, 0, none⟩) n n), (66, iN j), (65, .slice (some ⟨gm, 0, none⟩) n n), (64, iN i), (63, .slice (some ⟨gm, 0, none⟩) n n), (62, .bool false), (11, .slice (pOf lv47) n (cOf lv47)), (10, .slice (some ⟨gm, 0, none⟩) n n), (9, .slice (some ⟨gr, 0, none⟩) n cap_gr), (8, iN j), (7, iN i), (6, .bool false), (0, .slice p n cp)]) => ?_
      refine take_op FF72 (i := 8) (oi := opAt Try.f5 10 8) (v := (.slice (some ⟨gm, 0, none⟩) n n)) (d := 71) (by kernel_rfl) (by kernel_rfl) (by kernel_rfl) (by kernel_rfl) (fun _ _ _ _ _ h => h) (by kernel_rfl) (by decide) (by kernel_rfl) (mvV (x := .tmp 10) (by kernel_rfl) rfl) fun ac73 (FF74 : Fr 83 ac73 [(71, .slice (some ⟨gm, 0, none⟩) n n), (69, .pointer (some ⟨gm, j, none⟩)), (68, iN j), (67, .slice (some ⟨gm, 0, none⟩) n n), (66, iN j), (65, .slice (some ⟨gm, 0, none⟩) n n), (64, iN i), (63, .slice (some ⟨gm, 0, none⟩) n n), (62, .bool false), (11, .slice (pOf lv47) n (cOf lv47)), (10, .slice (some ⟨gm, 0, none⟩) n n), (9, .slice (some ⟨gr, 0, none⟩) n cap_gr), (8, iN j), (7, iN i), (6, .bool false), (0, .slice p n cp)]) => ?_
      refine take_op FF74 (i := 9) (oi := opAt Try.f5 10 9) (v := (iN i)) (d := 72) (by kernel_rfl) (by kernel_rfl) (by kernel_rfl) (by kernel_rfl) (fun _ _ _ _ _ h => h) (by kernel_rfl) (by decide) (by kernel_rfl) (mvV (x := .tmp 7) (by kernel_rfl) rfl) fun ac75 (FF76 : Fr 83 ac75 [(72, iN i), (71, .slice (some ⟨gm, 0, none⟩) n n), (69, .pointer (some ⟨gm, j, none⟩)), (68, iN j), (67, .slice (some ⟨gm, 0, none⟩) n n), (66, iN j), (65, .slice (some ⟨gm, 0, none⟩) n n), (64, iN i), (63, .slice (some ⟨gm, 0, none⟩) n n), (62, .bool false), (11, .slice (pOf lv47) n (cOf lv47)), (10, .slice (some ⟨gm, 0, none⟩) n n), (9, .slice (some ⟨gr, 0, none⟩) n cap_gr), (8, iN j), (7, iN i), (6, .bool false), (0, .slice p n cp)]) => ?_
      refine take_op FF76 (i := 10) (oi := opAt Try.f5 10 10) (v := (.pointer (some ⟨gm, i, none⟩))) (d := 73) (by kernel_rfl) (by kernel_rfl) (by kernel_rfl) (by kernel_rfl) (fun _ _ _ _ _ h => h) (by kernel_rfl) (by decide) (by kernel_rfl) (addrV (x := .tmp 71) (y := .tmp 72) (t := 25) (by kernel_rfl) rfl rfl Try.underlying25 (by kernel_rfl) hi) fun ac77 (FF78 : Fr 83 ac77 [(73, .pointer (some ⟨gm, i, none⟩)), (72, iN i), (71, .slice (some ⟨gm, 0, none⟩) n n), (69, .pointer (some ⟨gm, j, none⟩)), (68, iN j), (67, .slice (some ⟨gm, 0, none⟩) n n), (66, iN j), (65, .slice (some ⟨gm, 0, none⟩) n n), (64, iN i), (63, .slice (some ⟨gm, 0, none⟩) n n), (62, .bool false), (11, .slice (pOf lv47) n (cOf lv47)), (10, .slice (some ⟨gm, 0, none⟩) n n), (9, .slice (some ⟨gr, 0, none⟩) n cap_gr), (8, iN j), (7, iN i), (6, .bool false), (0, .slice p n cp)]) => ?_
      refine take_two FF78 MM58.hasL (i := 7) (j := 11) (oi := opAt Try.f5 10 7) (oj := opAt Try.f5 10 11) (u := (sB (mAt s n j))) (v := (sB (mAt s n i))) (d := 70) (e := 74) (by kernel_rfl) (by kernel_rfl) (by kernel_rfl) (by kernel_rfl) (by kernel_rfl) (by kernel_rfl) (by kernel_rfl) (by decide) (by decide) (by decide) (by decide) (by kernel_rfl) (by kernel_rfl) (by kernel_rfl) (by kernel_rfl) (loadV (x := .tmp 69) (t := 9) (by kernel_rfl) rfl Try.underlying9 rfl (List.mem_of_getElem? (i := 0) rfl) (fc_get _ hj)) (loadV (x := .tmp 73) (t := 9) (by kernel_rfl) rfl Try.underlying9 rfl (List.mem_of_getElem? (i := 0) rfl) (fc_get _ hi)) (loadV (x := .tmp 69) (t := 9) (by kernel_rfl) rfl Try.underlying9 rfl (List.mem_of_getElem? (i := 0) rfl) (fc_get _ hj)) (loadV (x := .tmp 73) (t := 9) (by kernel_rfl) rfl Try.underlying9 rfl (List.mem_of_getElem? (i := 0) rfl) (fc_get _ hi)) fun ac79 (FF80 : Fr 83 ac79 [(74, sB (mAt s n i)), (70, sB (mAt s n j)), (73, .pointer (some ⟨gm, i, none⟩)), (72, iN i), (71, .slice (some ⟨gm, 0, none⟩) n n), (69, .pointer (some ⟨gm, j, none⟩)), (68, iN j), (67, .slice (some ⟨gm, 0, none⟩) n n), (66, iN j), (65, .slice (some ⟨gm, 0, none⟩) n n), (64, iN i), (63, .slice (some ⟨gm, 0, none⟩) n n), (62, .bool false), (11, .slice (pOf lv47) n (cOf lv47)), (10, .slice (some ⟨gm, 0, none⟩) n n), (9, .slice (some ⟨gr, 0, none⟩) n cap_gr), (8, iN j), (7, iN i), (6, .bool false), (0, .slice p n cp)]) => ?_
      refine to_row 12 (by kernel_rfl) (by kernel_rfl) (Nat.le_of_ble_eq_true (by kernel_rfl)) (by kernel_rfl) (by kernel_rfl) (by kernel_rfl) (Nat.le_of_ble_eq_true (by kernel_rfl)) ?_
      refine rp_c 4 FF80 MM58 [(0, w_ 1), (0, s_ 0 (.cells (fc n (fun k9 => sB (if k9 = i then mAt s n j else mAt s n k9))) 9)), (0, w_ 1), (0, s_ 0 (.cells (fc n (fun k9 => sB (swapS (mAt s n) i j k9))) 9))] 12 [] [] (⟨hi, rfl, (by rw [fc_size]; exact hi), (.inl rfl), ((fc_set _ _ _ _).trans (fc_cong fun k _ => ite_str)), hj, rfl, (by rw [fc_size]; exact hj), (.inl rfl), ((fc_set _ _ _ _).trans (fc_cong fun k _ => ite_str)), fun _ _ FF81 MM81 => ?_⟩)
      refine wpl_nil (then_n ?_)
      refine wp_seq (rg_c FF81 MM81 [(2, u_ 1 (.bool true)), (1, t_ (.bool true))] 12 [] [] (⟨⟨en_ktexts, fun w Hw => ktexts_w (some ⟨gm, 0, none⟩) n n (pOf lv47) (cOf lv47) (swapS (mAt s n) i j) (mAt (swapS s i j) n) (by omega) (fun k _ => mAt_swap hi hj) w (rowIn_fc (Hw 0 _ rfl)) (hR52.at (Has.tl (Has.tl Hw)))⟩, (callP_of en_wakes wakes_w _), fun _ _ FF82 MM82 => then_n ?_⟩))
      refine wp_ret ?_
      repeat first | refine then_ret ?_ | refine inb_ret ?_
      exact (ret_fr FF82 0 Try.results5 rfl ⟨rfl, MM82.belowN H (fun _ hx => List.mem_cons_of_mem _ (List.mem_cons_of_mem _ (hs53 _ hx)))⟩)
  · skip
    refine wp_seq (rg_c FF1 MM1 [(1, u_ 1 (.bool false))] 7 [19] [] (⟨⟨en_fair, fun w Hw => fair_w p n cp fN fB fR false ⟨fun h => (by cases h), fun h => (hP h).elim⟩ w (hA.at Hw)⟩, fun _ _ FF83 MM83 => then_n ?_⟩))
    refine wp_cond_true (FF83.ev 0 rfl) ?_
    refine wp_seq (rg_c FF83 MM83 [(0, t_ (.bool true))] 7 [] [] (⟨(callP_of en_wakes wakes_w _), fun _ _ FF84 MM84 => then_n ?_⟩))
    refine wp_ret ?_
    repeat first | refine then_ret ?_ | refine inb_ret ?_
    exact (ret_fr FF84 0 Try.results5 rfl ⟨rfl, MM84.belowN H (fun _ hx => hx)⟩)
end Go.Proofs.Ytlcadhfdmpjdkaa
namespace Go.Proofs.Ytlcadhfdmpjdkaa
open Go.ChangeShapes Go.WideShapes Go.ChangeAt Go.RowKit
set_option maxRecDepth 100000 in
theorem made_cells {H : Type} {enc : TypeId × Value → H} {W : World} {base' : Nat} {spare : Nat → Bool} {held : Bool} {fuel : Nat} {X : List Value} {x : DataW H × List MemPlace} (h : DataW.trod enc Try.prog W base' spare held fuel 36 X = some x) :
    ∃ (a b : Nat) (w : List Nat), X[0]? = some (.int .u8 (a : Nat)) ∧ X[1]? = some (.int .u8 (b : Nat)) ∧ X[2]? = some (.string (bs w)) ∧ a < 256 ∧ b < 256 ∧ (∀ i, w.getD i 0 < 256) := by
  obtain ⟨xs, m, _, _, hl, hlen, hel⟩ := DataW.trod_struct Try.underlying36 h
  have hx : xs.length = 3 := hlen
  have g : ∀ i, i < 3 → xs[i]? = some (xs[i]?.getD (.agg [], [])) := fun i hi => by simp [hx, hi]
  have e0 : DataW.trod enc Try.prog W base' spare held m 5 (List.take (Try.prog.cellsOf 5) (List.drop 0 X)) = xs[0]? := hel 0 _ rfl
  rw [show Try.prog.cellsOf 5 = 1 by kernel_rfl, g 0 (by omega)] at e0
  obtain ⟨z0, q0, _, w0⟩ := DataW.trod_int Try.underlying5 e0
  have bb0 := bounds_u8 w0
  obtain ⟨n0, rfl⟩ := Int.eq_ofNat_of_zero_le bb0.1
  have e1 : DataW.trod enc Try.prog W base' spare held m 5 (List.take (Try.prog.cellsOf 5) (List.drop 1 X)) = xs[1]? := hel 1 _ rfl
  rw [show Try.prog.cellsOf 5 = 1 by kernel_rfl, g 1 (by omega)] at e1
  obtain ⟨z1, q1, _, w1⟩ := DataW.trod_int Try.underlying5 e1
  have bb1 := bounds_u8 w1
  obtain ⟨n1, rfl⟩ := Int.eq_ofNat_of_zero_le bb1.1
  have e2 : DataW.trod enc Try.prog W base' spare held m 9 (List.take (Try.prog.cellsOf 9) (List.drop 2 X)) = xs[2]? := hel 2 _ rfl
  rw [show Try.prog.cellsOf 9 = 1 by kernel_rfl, g 2 (by omega)] at e2
  obtain ⟨z2, q2, _, w2⟩ := DataW.trod_string Try.underlying9 e2
  refine ⟨n0, n1, nl z2, ?_, ?_, ?_, by have := bb0.2; omega, by have := bb1.2; omega, nl_lt z2⟩
  · have h3 := congrArg (fun l => l[0]?) q0; simpa [Value.cells] using h3
  · have h3 := congrArg (fun l => l[0]?) q1; simpa [Value.cells] using h3
  · rw [bs_nl]; have h3 := congrArg (fun l => l[0]?) q2; simpa [Value.cells] using h3
set_option maxRecDepth 100000 in
theorem made_param {H : Type} {enc : TypeId × Value → H} {W : World} {r : Reach} {base base' : Nat} {spare : Nat → Bool} {held : Bool} {v : Value} {d : DataW H} {q : List MemPlace} (hv : Value.okWide Try.prog W r base 22 v) (h : DataW.Trod enc Try.prog W base' spare held 22 v d q) :
    ∃ (p : Option Addr) (n c : Nat) (fN fB : Nat → Nat) (fR : Nat → List Nat), v = .slice p n c ∧ (∀ i, fN i < 256) ∧ (∀ i, fB i < 256) ∧ (∀ i j, (fR i).getD j 0 < 256) ∧ RowIn W p (n * 3) (madeV fN fB fR) := by
  obtain ⟨p, n, c, rfl, h1⟩ := rowX_param Try.underlying22 (k := 3) (by kernel_rfl) (by decide) hv h
  rcases h1 with rfl | ⟨b, off, cs, T, fr, h2, h3, h4⟩
  · exact ⟨p, 0, c, fun _ => 0, fun _ => 0, fun _ => [], rfl, fun _ => (by decide : 0 < 256), fun _ => (by decide : 0 < 256), fun i j => by simp, .inl rfl⟩
  · have key : ∀ j, ∃ x : Nat × Nat × List Nat, x.1 < 256 ∧ x.2.1 < 256 ∧ (∀ i, x.2.2.getD i 0 < 256) ∧ (j < n → cs[off + (j * 3 + 0)]? = some (.int .u8 (x.1 : Nat)) ∧ cs[off + (j * 3 + 1)]? = some (.int .u8 (x.2.1 : Nat)) ∧ cs[off + (j * 3 + 2)]? = some (.string (bs x.2.2))) := fun j => by
      by_cases hj : j < n
      · obtain ⟨X, x, fuel, q1, q2, q3⟩ := h4 j hj
        obtain ⟨a, b, w, a0, a1, a2, ha, hb, hw⟩ := made_cells q3
        exact ⟨(a, b, w), ha, hb, hw, fun _ => ⟨(q2 0 (by decide)).trans a0, (q2 1 (by decide)).trans a1, (q2 2 (by decide)).trans a2⟩⟩
      · exact ⟨(0, 0, []), by decide, by decide, fun i => by simp, fun h => (hj h).elim⟩
    obtain ⟨f, hf⟩ := Classical.axiomOfChoice key
    refine ⟨p, n, c, fun i => (f i).1, fun i => (f i).2.1, fun i => (f i).2.2, rfl, fun i => (hf i).1, fun i => (hf i).2.1, fun i => (hf i).2.2.1, .inr ⟨b, off, cs, T, fr, h2, h3, fun j hj => ?_⟩⟩
    obtain ⟨g0, g1, g2⟩ := (hf (j / 3)).2.2.2 (by omega)
    have hm : j % 3 = 0 ∨ j % 3 = 1 ∨ j % 3 = 2 := by omega
    rcases hm with hm | hm | hm
    · rw [show j = j / 3 * 3 + 0 by omega, g0, Nat.add_zero, madeV_0]
    · rw [show j = j / 3 * 3 + 1 by omega, g1, madeV_1]
    · rw [show j = j / 3 * 3 + 2 by omega, g2, madeV_2]
end Go.Proofs.Ytlcadhfdmpjdkaa
