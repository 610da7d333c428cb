/- Several texts in one: The law BookBlind. Rows that come in: of calls. -/
import Derived.Test.YtniplfjnpjihoaaZ5
import Derived.Test.YtniplfjnpjihoaaZ2
import Derived.ChangeMaps5
import Derived.SizedLaws
import Derived.SliceStrings
namespace Go.Proofs.Ytniplfjnpjihoaa
open Go.RowKit
theorem share_some (i : Bool) (n : Nat) (K : List Nat) (ks : Pairs) (Y : List Nat) : (mget K (shareK i n K ks Y)).isSome = true := by
  obtain ⟨z, hz⟩ := share_get (i := i) (n := n) (K := K) (ks := ks) Y
  rw [hz]; rfl
theorem share_keep {i : Bool} {n : Nat} {K L : List Nat} {ks : Pairs} (Y : List Nat) (h : (mget L ks).isSome = true) : (mget L (shareK i n K ks Y)).isSome = true := by
  cases hg : mget K ks with
  | some v => rw [(share_yes hg Y).1]; exact h
  | none =>
    rw [(share_no hg Y).1, ← mput_new _ hg]
    by_cases e : K = L
    · rw [e, mget_put]; rfl
    · rw [mget_put_ne e]; exact h
theorem put_iso {x : BoxK} {X Y : List Nat} {pn qn : Notes} (h : ∀ z, (mget z pn).isSome = (mget z qn).isSome) : ∀ z, (mget z (mput x X pn)).isSome = (mget z (mput x Y qn)).isSome := fun z => by
  by_cases e : x = z
  · subst e; rw [mget_put, mget_put]; rfl
  · rw [mget_put_ne e, mget_put_ne e]; exact h z
theorem box_same {K N own : List Nat} {ks : Pairs} (h : mget K ks = some own) {X Y : List Nat} (e : Y.length = X.length) : boxN true K N ks Y = boxN true K N ks X := by rw [box_ideal h, box_ideal h, e]
theorem pad_len (T : List Nat) (n : Nat) : ((T ++ List.replicate n 0).take n).length = n := by
  simp only [List.length_take, List.length_append, List.length_replicate]; omega
theorem neB_same {P : Program} {l : Slots} {L : Blks} {o : Oper} {p : Bool} (h : RunV P l L o (.bool (p != p))) : RunV P l L o (.bool false) := by rwa [bne_self_eq_false] at h
theorem sumF_get {s : Nat → List Nat} {i n : Nat} (h : i < n) : (s i).length ≤ sumF s n := by
  have := sumF_mono s (i := i + 1) (n := n) h
  have e : sumF s (i + 1) = sumF s i + (s i).length := rfl
  omega
set_option maxHeartbeats 1000000 in
set_option maxRecDepth 100000 in
theorem blind_O (O : Blks) (hD : Distinct O) (X : List Nat) (hX : ∀ i, X.getD i 0 < 256) (p : Option Addr) (n cp : Nat) (fK : Nat → Int) (fA fR : Nat → Nat) (fW : Nat → List Nat) (fN : Nat → Int) (hW : ∀ j i, (fW j).getD i 0 < 256) (q : Option Addr) (m d : Nat) (t : Nat → List Nat) (hT8 : ∀ j i, (t j).getD i 0 < 256) (hm : m ≤ 9223372036854775807) (hA : RowO O p (n * 5) (actV fK fA fR fW fN)) (hT : RowO O q m (fun k9 => sB (t k9))) (w0 : World) (H : Has w0 O) :
    Calls Try.prog 5 #[sB X, .slice p n cp, .slice q m d] w0 fun e w' => e = .returned (.bool true) ∧ Below w0.heap.size w0 w' := by
  refine enter_fr Try.func5 rfl Try.ntmps5 (by simp) fun ac (FF : Fr 189 ac [(0, sB X), (1, .slice p n cp), (2, .slice q m d)]) => ?_
  have MM : MemS (fun k => k < w0.heap.size ∧ ∀ x ∈ O, x.1 ≠ k) w0 w0 O [] := MemS.startN H hD
  refine wp_seq (rg_c FF MM [] 7 [] [] (fun _ _ FF1 MM1 => then_n ?_))
  refine wp_seq ?_
  by_cases h1 : X.length > 500
  · skip
    refine wp_seq (rg_c FF1 MM1 [(1, t_ (iN X.length)), (0, w_ 2)] 7 [36] [] (⟨(vI (bs_size _)), h1, fun _ _ FF2 MM2 => then_n ?_⟩))
    refine wp_cond_true (FF2.ev 0 rfl) ?_
    refine wp_seq (rg_c FF2 MM2 [(0, t_ (.bool true))] 7 [] [] (⟨(callP_of en_wakesL wakes_any _), fun _ _ FF3 MM3 => then_n ?_⟩))
    refine wp_ret ?_
    repeat first | refine then_ret ?_ | refine inb_ret ?_
    exact (ret_fr FF3 0 Try.results5 rfl ⟨rfl, MM3.belowN H (fun _ hx => hx)⟩)
  · by_cases hF : FairP n fW
    · by_cases hL : sumF t m > 2000
      · skip
        refine wp_seq (rg_c FF1 MM1 [(1, t_ (iN X.length)), (0, w_ 3), (2, u_ 1 (.bool true)), (4, u_ 1 (.bool true))] 7 [36] [] (⟨(vI (bs_size _)), h1, ⟨en_fairL, fun w Hw => fair_w p n cp fK fA fR fW fN true ⟨fun _ => hF, fun _ => rfl⟩ w (hA.at Hw)⟩, ⟨en_klong, fun w Hw => by have h0 := klong_w q m d (fun k9 => t k9) hm 2000 (by decide) w (hT.at Hw); rw [dec_t hL] at h0; exact h0⟩, fun _ _ FF4 MM4 => then_n ?_⟩))
        refine wp_cond_true (FF4.ev 0 rfl) ?_
        refine wp_seq (rg_c FF4 MM4 [(0, t_ (.bool true))] 7 [] [] (⟨(callP_of en_wakesL wakes_any _), fun _ _ FF5 MM5 => then_n ?_⟩))
        refine wp_ret ?_
        repeat first | refine then_ret ?_ | refine inb_ret ?_
        exact (ret_fr FF5 0 Try.results5 rfl ⟨rfl, MM5.belowN H (fun _ hx => hx)⟩)
      · skip
        refine wp_seq (rg_c FF1 MM1 [(1, t_ (iN X.length)), (0, w_ 3), (2, u_ 1 (.bool true)), (4, u_ 1 (.bool false))] 7 [36] [] (⟨(vI (bs_size _)), h1, ⟨en_fairL, fun w Hw => fair_w p n cp fK fA fR fW fN true ⟨fun _ => hF, fun _ => rfl⟩ w (hA.at Hw)⟩, ⟨en_klong, fun w Hw => by have h0 := klong_w q m d (fun k9 => t k9) hm 2000 (by decide) w (hT.at Hw); rw [dec_f hL] at h0; exact h0⟩, fun _ _ FF6 MM6 => then_n ?_⟩))
        refine wp_cond_false (FF6.ev 0 rfl) ?_
        refine wp_skip ?_
        refine then_n ?_
        refine wp_seq (wp_region_list ?_)
        refine rp_c 1 FF6 MM6 [] 7 [38] [] (fun _ _ FF7 MM7 => ?_)
        refine st_callE [6, 0, 1, 2, 39] FF7 (d := 39) (mk := fun v => v) en_tnew rfl rfl (tnew_any X _) rfl (by kernel_rfl) (by decide) fun ac9 wd9 lv8 FF9 hr10 => ?_
        obtain ⟨gA, rfl, hB_gA, hf_gA, hb_gA⟩ := hr10
        have MM11 := MM7.keep hB_gA
        have MM12 : MemS (fun k => k < w0.heap.size ∧ ∀ x ∈ O, x.1 ≠ k) w0 wd9 ((gA, oC #[sB X, iN 0] 84) :: O) [] := MM7.addFresh MM11 hb_gA hf_gA
        refine st_callE [6, 0, 1, 2, 40] FF9 (d := 40) (mk := fun v => v) en_pnew rfl rfl (pnew_E true (some ⟨gA, 0, none⟩) _) rfl (by kernel_rfl) (by decide) fun ac14 wd14 lv13 FF14 hr15 => ?_
        obtain ⟨bA, bA1, bA2, bA3, rfl, hB_bA, hN_bA⟩ := hr15
        have MM16 : MemS (fun k => k < w0.heap.size ∧ ∀ x ∈ O, x.1 ≠ k) w0 wd14 ((bA, oC #[.bool true, pT gA, .map (some bA1), .map (some bA2), .map (some bA3), iN 0] 82) :: (bA1, KM []) :: (bA2, KM []) :: (bA3, NM []) :: (gA, oC #[sB X, iN 0] 84) :: O) [] := MM12.addAll hB_bA hN_bA.1 hN_bA.2.1 hN_bA.2.2
        refine rp_c 1 FF14 MM16 [] 42 [] [] (fun _ _ FF17 MM17 => ?_)
        refine st_callE [40, 6, 0, 1, 2, 42] FF17 (d := 42) (mk := fun v => v) en_tnew rfl rfl (tnew_any X _) rfl (by kernel_rfl) (by decide) fun ac19 wd19 lv18 FF19 hr20 => ?_
        obtain ⟨gZ, rfl, hB_gZ, hf_gZ, hb_gZ⟩ := hr20
        have MM21 := MM17.keep hB_gZ
        have MM22 : MemS (fun k => k < w0.heap.size ∧ ∀ x ∈ O, x.1 ≠ k) w0 wd19 ((gZ, oC #[sB X, iN 0] 84) :: (bA, oC #[.bool true, pT gA, .map (some bA1), .map (some bA2), .map (some bA3), iN 0] 82) :: (bA1, KM []) :: (bA2, KM []) :: (bA3, NM []) :: (gA, oC #[sB X, iN 0] 84) :: O) [] := MM17.addFresh MM21 hb_gZ hf_gZ
        refine st_callE [40, 6, 0, 1, 2, 43] FF19 (d := 43) (mk := fun v => v) en_pnew rfl rfl (pnew_E true (some ⟨gZ, 0, none⟩) _) rfl (by kernel_rfl) (by decide) fun ac24 wd24 lv23 FF24 hr25 => ?_
        obtain ⟨bZ, bZ1, bZ2, bZ3, rfl, hB_bZ, hN_bZ⟩ := hr25
        have MM26 : MemS (fun k => k < w0.heap.size ∧ ∀ x ∈ O, x.1 ≠ k) w0 wd24 ((bZ, oC #[.bool true, pT gZ, .map (some bZ1), .map (some bZ2), .map (some bZ3), iN 0] 82) :: (bZ1, KM []) :: (bZ2, KM []) :: (bZ3, NM []) :: (gZ, oC #[sB X, iN 0] 84) :: (bA, oC #[.bool true, pT gA, .map (some bA1), .map (some bA2), .map (some bA3), iN 0] 82) :: (bA1, KM []) :: (bA2, KM []) :: (bA3, NM []) :: (gA, oC #[sB X, iN 0] 84) :: O) [] := MM22.addAll hB_bZ hN_bZ.1 hN_bZ.2.1 hN_bZ.2.2
        refine rp_c 2 FF24 MM26 [] 9 [] [] (fun _ _ FF27 MM27 => ?_)
        refine wpl_nil (then_n ?_)
        refine wp_seq ?_
        refine wp_seq (rg_c FF27 MM27 [(1, f_ (.bool false)), (2, f_ (.bool false))] 9 [49] [] (⟨(ptrSome_ok (t := 25) (t' := 25) (x := (.tmp 44)) (y := (.const (.pointer none))) (by kernel_rfl) rfl rfl Try.underlying25), (ptrSome_ok (t := 25) (t' := 25) (x := (.tmp 47)) (y := (.const (.pointer none))) (by kernel_rfl) rfl rfl Try.underlying25), fun _ _ FF28 MM28 => then_n ?_⟩))
        refine wp_cond_false (FF28.ev 0 rfl) ?_
        refine wp_skip ?_
        refine then_n ?_
        refine wp_seq ?_
        refine wp_seq (rg_c FF28 MM28 [] 9 [9] [] (fun _ _ FF29 MM29 => then_n ?_))
        have hsh0 : ∀ m, m < 0 → (mget (keyW m) ([] : Pairs)).isSome = true := fun m h => absurd h (Nat.not_lt_zero m)
        refine wp_for2 (fun a' w' => ∃ j : Nat, ∃ ks : Pairs, ∃ X1 : List Nat, ∃ u1 : Nat, j ≤ 4 ∧ OkP 32 ks ∧ (∀ i, X1.getD i 0 < 256) ∧ u1 ≤ 32 * j ∧ (∀ m, m < j → (mget (keyW m) ks).isSome = true) ∧ Fr 189 a' [(9, iN j), (8, pT bZ), (7, pT bA), (0, sB X), (1, .slice p n cp), (2, .slice q m d)] ∧ MemS (fun k => k < w0.heap.size ∧ ∀ x ∈ O, x.1 ≠ k) w0 w' ((bZ, oC #[.bool true, pT gZ, .map (some bZ1), .map (some bZ2), .map (some bZ3), iN 0] 82) :: (bZ1, KM ks) :: (bZ2, KM []) :: (bZ3, NM []) :: (gZ, oC #[sB X1, iN u1] 84) :: (bA, oC #[.bool true, pT gA, .map (some bA1), .map (some bA2), .map (some bA3), iN 0] 82) :: (bA1, KM ks) :: (bA2, KM []) :: (bA3, NM []) :: (gA, oC #[sB X1, iN u1] 84) :: O) []) (fun a' _ => (4 - cnt 9 a').toNat) ⟨0, [], X, 0, Nat.zero_le _, okP_nil 32, hX, Nat.zero_le _, hsh0, FF29.pick [0, 1, 2, 4, 5, 6], MM29⟩ ?_
        rintro ac30 wd30 ⟨j, ks, X1, u1, hj, hks, hX1, hu1, hsh, FF30, MM30⟩
        have hc := cnt_of (FF30.get 0 rfl)
        refine rg_c FF30 MM30 [] 10 [51] [] (fun _ _ FF31 MM31 => ?_)
        by_cases hlt : j < 4
        · skip
          refine then_n (.inl ⟨(FF31.ev 0 rfl).trans (dec_t hlt), ?_⟩)
          refine wp_seq (rg_c FF31 MM31 [(2, t_ (iB j)), (0, t_ (.agg (cn .u8 (keyW j)))), (0, c_ (.tuple #[]) [(6, KM (shareK true 32 (keyW j) ks X1)), (9, oC #[sB (X1.drop (shareU true 32 (keyW j) ks)), iN (u1 + shareU true 32 (keyW j) ks)] 84)])] 9 [9] [] (⟨(vI (Nat.mod_eq_of_lt (by omega))), (callP_of en_keyL (keyL_any j) _), (callU_B [5, 6, 9] en_pshare rfl rfl (fun w Hw => pshare_any (K := (keyW j)) hks ⟨(keyW_ok j).1, (keyW_ok j).2⟩ hX1 (by omega) w Hw (distinct_names rfl (distinct_at MM31.distinct (is := [5, 6, 9]) rfl rfl)))), fun _ _ FF32 MM32 => then_n ?_⟩))
          refine rg_c FF32 MM32 [(2, t_ (iB j)), (0, t_ (.agg (cn .u8 (keyW j)))), (0, c_ (.tuple #[]) [(1, KM (shareK true 32 (keyW j) ks X1)), (4, oC #[sB (X1.drop (shareU true 32 (keyW j) ks)), iN (u1 + shareU true 32 (keyW j) ks)] 84)])] 9 [9] [] (⟨(vI (Nat.mod_eq_of_lt (by omega))), (callP_of en_keyL (keyL_any j) _), (callU_B [0, 1, 4] en_pshare rfl rfl (fun w Hw => pshare_any (K := (keyW j)) hks ⟨(keyW_ok j).1, (keyW_ok j).2⟩ hX1 (by omega) w Hw (distinct_names rfl (distinct_at MM32.distinct (is := [0, 1, 4]) rfl rfl)))), fun _ _ FF33 MM33 => ?_⟩)
          refine inb_n (then_n ?_)
          refine rg_c FF33 MM33 [] 9 [9] [] (⟨by omega, fun _ _ FF34 MM34 => ?_⟩)
          have hd := cnt_of (FF34.get 0 rfl)
          refine then_n ⟨⟨j + 1, shareK true 32 (keyW j) ks X1, X1.drop (shareU true 32 (keyW j) ks), u1 + shareU true 32 (keyW j) ks, by omega, share_ok true hks (keyW_ok j) hX1, (dropX_lt hX1 _), (by have := shareU_le true 32 (keyW j) ks; omega), fun m h => (Nat.lt_or_ge m j).elim (fun h2 => share_keep X1 (hsh m h2)) (fun h2 => (show j = m by omega) ▸ share_some true 32 (keyW j) ks X1), FF34.pick [0, 1, 2, 3, 4, 5], MM34⟩, ?_⟩
          rw [hc, hd]; omega
        · skip
          refine then_n (.inr ⟨(FF31.ev 0 rfl).trans (dec_f hlt), ?_⟩)
          have hall : ∀ x, ∃ own, mget (keyW x) ks = some own := fun x => Option.isSome_iff_exists.1 (by rw [← keyW_4]; exact hsh _ (by omega))
          clear hsh
          refine then_n ?_
          refine wp_seq ?_
          refine wp_seq (rg_c FF31 MM31 [] 11 [] [] (fun _ _ FF35 MM35 => then_n ?_))
          refine wp_for2 (fun a' w' => ∃ i : Nat, ∃ pn : Notes, ∃ qn : Notes, i ≤ n ∧ OkQ pn ∧ OkQ qn ∧ (∀ x, (mget x pn).isSome = (mget x qn).isSome) ∧ Fr 189 a' [(10, iN i), (9, iN j), (8, pT bZ), (7, pT bA), (0, sB X), (1, .slice p n cp), (2, .slice q m d)] ∧ MemS (fun k => k < w0.heap.size ∧ ∀ x ∈ O, x.1 ≠ k) w0 w' ((bZ, oC #[.bool true, pT gZ, .map (some bZ1), .map (some bZ2), .map (some bZ3), iN 0] 82) :: (bZ1, KM ks) :: (bZ2, KM []) :: (bZ3, NM qn) :: (gZ, oC #[sB X1, iN u1] 84) :: (bA, oC #[.bool true, pT gA, .map (some bA1), .map (some bA2), .map (some bA3), iN 0] 82) :: (bA1, KM ks) :: (bA2, KM []) :: (bA3, NM pn) :: (gA, oC #[sB X1, iN u1] 84) :: O) []) (fun a' _ => (n - cnt 10 a').toNat) ⟨0, [], [], Nat.zero_le _, okQ_nil, okQ_nil, fun _ => rfl, FF35.pick [0, 1, 2, 3, 4, 5, 6], MM35⟩ ?_
          rintro ac36 wd36 ⟨i, pn, qn, hi, hp, hq, hpq, FF36, MM36⟩
          have hc := cnt_of (FF36.get 0 rfl)
          refine rg_c FF36 MM36 [] 11 [67] [] (fun _ _ FF37 MM37 => ?_)
          by_cases hlt : i < n
          · skip
            refine then_n (.inl ⟨(FF37.ev 0 rfl).trans (dec_t hlt), ?_⟩)
            have hn25 := hF.1
            have hgi := hF.2 i hlt
            refine wp_seq (rg_c FF37 MM37 [(2, f_ (.pointer (some ⟨gOf p, oOf p + i * 5, none⟩))), (0, f_ (aG #[.int .i64 (fK i : Int), iB (fA i), iB (fR i), sB (fW i), .int .i64 (fN i : Int)])), (1, b_ 0)] 12 [] [] (⟨(rowX_addr (x := (.tmp 70)) (y := (.tmp 71)) (k := 5) (i := i) (by kernel_rfl) rfl rfl Try.underlying22 (by kernel_rfl) hA (by omega) (by omega)), (rowX_loadA (x := (.tmp 72)) (j := i * 5) (k := 5) (vs := [.int .i64 (fK i : Int), iB (fA i), iB (fR i), sB (fW i), .int .i64 (fN i : Int)]) (by kernel_rfl) rfl Try.underlying40 rfl (by kernel_rfl) rfl hA (fun _ hx => List.mem_cons_of_mem _ (List.mem_cons_of_mem _ (List.mem_cons_of_mem _ (List.mem_cons_of_mem _ (List.mem_cons_of_mem _ (List.mem_cons_of_mem _ (List.mem_cons_of_mem _ (List.mem_cons_of_mem _ (List.mem_cons_of_mem _ (List.mem_cons_of_mem _ (hx))))))))))) (by omega) (by decide) (fun q9 h9 => by match q9, h9 with | 0, _ => exact congrArg some (actV_0 i) | 1, _ => exact congrArg some (actV_1 i) | 2, _ => exact congrArg some (actV_2 i) | 3, _ => exact congrArg some (actV_3 i) | 4, _ => exact congrArg some (actV_4 i) | _ + 5, h => omega)), fun bx => ⟨rfl, rfl, rfl, (by kernel_rfl), rfl, fun _ _ FF38 MM38 => then_n ?_⟩⟩))
            refine wp_seq (rg_draw FF38 MM38 [.inl (.pointer (some ⟨bx, 1, none⟩)), .inl (iB (fA i)), .inl (.agg (cn .u8 (keyW (fA i)))), .inl (.pointer (some ⟨bx, 2, none⟩)), .inl (iB (fR i)), .inl (.agg (cn .u8 (nonW (fR i)))), .inr (.cells (cn .u8 (List.replicate 32 0)) 42, fun b => pT b), .inr (.cells (cn .u8 (List.replicate 12 0)) 45, fun b => pT b)] [6, 7] [o_, l_ 0 (iB (fA i)), t_ (.agg (cn .u8 (keyW (fA i)))), o_, l_ 0 (iB (fR i)), t_ (.agg (cn .u8 (nonW (fR i)))), o_, o_] [b_ 0, b_ 1] [11, 10, 9, 8, 7, 0, 1, 2, 12, 13] (fun nb => [bx = bx, (#[.int .i64 (fK i : Int), iB (fA i), iB (fR i), sB (fW i), .int .i64 (fN i : Int)] : Array Value)[1]? = some (iB (fA i)), CallP Try.prog 11 [iB (fA i)] [] (.agg (cn .u8 (keyW (fA i)))), bx = bx, (#[.int .i64 (fK i : Int), iB (fA i), iB (fR i), sB (fW i), .int .i64 (fN i : Int)] : Array Value)[2]? = some (iB (fR i)), CallP Try.prog 12 [iB (fR i)] [] (.agg (cn .u8 (nonW (fR i))))]) (fun nb Kt => (nb 6) = (nb 6) ∧ (cn .u8 (List.replicate 32 0)).size = 32 ∧ (cn .u8 (keyW (fA i))).size = 32 ∧ (cn .u8 (keyW (fA i))).all (·.oneCell') = true ∧ (0, 0).2 = 0 ∧ (nb 7) = (nb 7) ∧ (cn .u8 (List.replicate 12 0)).size = 12 ∧ (cn .u8 (nonW (fR i))).size = 12 ∧ (cn .u8 (nonW (fR i))).all (·.oneCell') = true ∧ (0, 0).2 = 0 ∧ Kt [(13, pT (nb 7)), (12, pT (nb 6)), (11, pT bx), (10, iN i), (9, iN j), (8, pT bZ), (7, pT bA), (0, sB X), (1, .slice p n cp), (2, .slice q m d)] (((nb 6), .cells (cn .u8 (keyW (fA i))) 42) :: ((nb 7), .cells (cn .u8 (nonW (fR i))) 45) :: (bx, oC #[.int .i64 (fK i : Int), iB (fA i), iB (fR i), sB (fW i), .int .i64 (fN i : Int)] 40) :: (bZ, oC #[.bool true, pT gZ, .map (some bZ1), .map (some bZ2), .map (some bZ3), iN 0] 82) :: (bZ1, KM ks) :: (bZ2, KM []) :: (bZ3, NM qn) :: (gZ, oC #[sB X1, iN u1] 84) :: (bA, oC #[.bool true, pT gA, .map (some bA1), .map (some bA2), .map (some bA3), iN 0] 82) :: (bA1, KM ks) :: (bA2, KM []) :: (bA3, NM pn) :: (gA, oC #[sB X1, iN u1] 84) :: O)) (by kernel_rfl) (by kernel_rfl) (by kernel_rfl) (fun _ => by kernel_rfl) (fun _ _ => by kernel_rfl) ⟨⟨_, rfl⟩, rfl, ⟨⟨_, rfl⟩, rfl, trivial⟩⟩ (fun nb => ⟨rfl, rfl, (callP_of en_keyL (keyL_any (fA i)) _), rfl, rfl, (callP_of en_nonceL (nonceL_any (fR i)) _), trivial⟩) (fun nb => ⟨rfl, ((cn_size _ _).trans (List.length_replicate ..)), ((cn_size _ _).trans (keyW_ok (fA i)).1), (cn_one _ _), rfl, rfl, ((cn_size _ _).trans (List.length_replicate ..)), ((cn_size _ _).trans (nonW_ok (fR i)).1), (cn_one _ _), rfl, fun _ _ FF39 MM39 => then_n ?_⟩))
            generalize nb 6 = bk at *
            generalize nb 7 = bn at *
            refine wp_seq (rg_c FF39 MM39 [(1, l_ 2 (sB (fW i))), (0, t_ (iN ((fW i).length))), (0, n_ (.slice none ((fW i).length) ((fW i).length)) (.cells (cn .u8 (List.replicate ((fW i).length) 0)) 5)), (0, l_ 0 (sB (List.replicate ((fW i).length) 0)))] 15 [] [] (⟨rfl, rfl, (vI (bs_size _)), (make_ok (t := 73) (e := 5) (p := (.tmp 82)) (q := (.tmp 82)) (by kernel_rfl) rfl rfl Try.underlying73 (by kernel_rfl) (by omega)), fun bm => ⟨rfl, (str_all (List.length_replicate ..) (rep0_lt)), fun _ _ FF40 MM40 => then_n ?_⟩⟩))
            refine wp_mid (fun a' w' => ∃ o : List Nat, o.length = (fW i).length ∧ (∀ j, o.getD j 0 < 256) ∧ Fr 189 a' [(14, sB o), (13, pT bn), (12, pT bk), (11, pT bx), (10, iN i), (9, iN j), (8, pT bZ), (7, pT bA), (0, sB X), (1, .slice p n cp), (2, .slice q m d)] ∧ MemS (fun k => k < w0.heap.size ∧ ∀ x ∈ O, x.1 ≠ k) w0 w' ((bm, .cells (cn .u8 (List.replicate ((fW i).length) 0)) 5) :: (bk, .cells (cn .u8 (keyW (fA i))) 42) :: (bn, .cells (cn .u8 (nonW (fR i))) 45) :: (bx, oC #[.int .i64 (fK i : Int), iB (fA i), iB (fR i), sB (fW i), .int .i64 (fN i : Int)] 40) :: (bZ, oC #[.bool true, pT gZ, .map (some bZ1), .map (some bZ2), .map (some bZ3), iN 0] 82) :: (bZ1, KM ks) :: (bZ2, KM []) :: (bZ3, NM qn) :: (gZ, oC #[sB X1, iN u1] 84) :: (bA, oC #[.bool true, pT gA, .map (some bA1), .map (some bA2), .map (some bA3), iN 0] 82) :: (bA1, KM ks) :: (bA2, KM []) :: (bA3, NM pn) :: (gA, oC #[sB X1, iN u1] 84) :: O) []) ?_ ?_
            · skip
              refine wp_seq (rg_c FF40 MM40 [] 15 [88] [] (fun _ _ FF41 MM41 => then_n ?_))
              by_cases hs88 : i < m
              · refine wp_cond_true ((FF41.ev 0 rfl).trans (dec_t hs88)) ?_
                have hrl : (List.replicate (fW i).length (0 : Nat)).length = (fW i).length := List.length_replicate
                have hti : (t i).length ≤ 2000 := Nat.le_trans (sumF_get hs88) (by omega)
                have htl : (t i ++ List.replicate (fW i).length 0).length = (t i).length + (fW i).length := by rw [List.length_append, List.length_replicate]
                refine rg_dc 10 FF41 MM41 [(2, f_ (.pointer (some ⟨gOf q, oOf q + i, none⟩))), (0, f_ (sB (t i))), (1, t_ (sB ((t i) ++ (List.replicate ((fW i).length) 0)))), (1, l_ 3 (sB (fW i))), (0, t_ (iN ((fW i).length))), (0, t_ (sB ((((t i) ++ (List.replicate ((fW i).length) 0)).take ((fW i).length)).drop 0)))] [] 15 [] [] (⟨(rowX_addr (x := (.tmp 89)) (y := (.tmp 90)) (k := 1) (i := i) (by kernel_rfl) rfl rfl Try.underlying38 (by kernel_rfl) hT (by omega) (by omega)), (rowX_load (x := (.tmp 91)) (j := i) (by kernel_rfl) rfl Try.underlying9 rfl hT (fun _ hx => List.mem_cons_of_mem _ (List.mem_cons_of_mem _ (List.mem_cons_of_mem _ (List.mem_cons_of_mem _ (List.mem_cons_of_mem _ (List.mem_cons_of_mem _ (List.mem_cons_of_mem _ (List.mem_cons_of_mem _ (List.mem_cons_of_mem _ (List.mem_cons_of_mem _ (List.mem_cons_of_mem _ (List.mem_cons_of_mem _ (List.mem_cons_of_mem _ (List.mem_cons_of_mem _ (hx))))))))))))))) (by omega) rfl), (by simp only [bs_size]; omega), (vS2 (bs_app _ _)), rfl, rfl, (vI (bs_size _)), (Nat.zero_le _), (by simp only [bs_size]; omega), (vS2 (bs_extract _ _ _)), fun _ _ FF42 MM42 => ?_⟩)
                refine then_n ?_
                exact ⟨(List.drop 0 (List.take (fW i).length (t i ++ List.replicate (fW i).length 0))), (by rw [List.drop_zero]; exact pad_len _ _), (drop_lt (take_lt (app_lt (hT8 i) (rep0_lt (by decide))))), FF42.pick [0, 1, 2, 3, 4, 5, 6, 7, 8, 9, 10], MM42⟩
              · refine wp_cond_false ((FF41.ev 0 rfl).trans (dec_f hs88)) ?_
                refine wp_skip ?_
                refine then_n ?_
                exact ⟨(List.replicate ((fW i).length) 0), List.length_replicate, (rep0_lt (by decide)), FF41.pick [1, 2, 3, 4, 5, 6, 7, 8, 9, 10, 11], MM41⟩
            · rintro ac43 wd43 ⟨o, hol, hoX, FF43, MM43⟩
              obtain ⟨own, hown⟩ := hall (fA i)
              obtain ⟨C, hC⟩ : ∃ C, boxN true (keyW (fA i)) (nonW (fR i)) ks (fW i) = C := ⟨_, rfl⟩
              have hC2 : boxN true (keyW (fA i)) (nonW (fR i)) ks o = C := (box_same hown hol).trans hC
              have hCl : ∀ j, C.getD j 0 < 256 := hC ▸ boxN_lt true (keyW (fA i)) (nonW (fR i)) ks (hW i)
              have hCn : C.length = (fW i).length + 16 := hC ▸ boxN_len true (keyW (fA i)) (nonW (fR i)) ks (fW i)
              obtain ⟨pn1, hpn1⟩ : ∃ y, noteP true (keyW (fA i)) (nonW (fR i)) ks (fW i) pn = y := ⟨_, rfl⟩
              obtain ⟨qn1, hqn1⟩ : ∃ y, noteP true (keyW (fA i)) (nonW (fR i)) ks o qn = y := ⟨_, rfl⟩
              have hp1 : OkQ pn1 := hpn1 ▸ hp.note (keyW_ok _) (nonW_ok _) (hW i) (by omega)
              have hq1 : OkQ qn1 := hqn1 ▸ hq.note (keyW_ok _) (nonW_ok _) hoX (by omega)
              have hpe : pn1 = mput ((keyW (fA i)), (nonW (fR i)), C) (fW i) pn := by rw [← hpn1, noteP_yes hown, hC]
              have hqe : qn1 = mput ((keyW (fA i)), (nonW (fR i)), C) o qn := by rw [← hqn1, noteP_yes hown, hC2]
              have hop : openN true (keyW (fA i)) (nonW (fR i)) ks (mget ((keyW (fA i)), (nonW (fR i)), C) pn1) C = some (fW i) := (opn_ideal hown).1.trans (by rw [hpe, mget_put])
              have hoq : openN true (keyW (fA i)) (nonW (fR i)) ks (mget ((keyW (fA i)), (nonW (fR i)), C) qn1) C = some o := (opn_ideal hown).1.trans (by rw [hqe, mget_put])
              have hpq1 : ∀ x, (mget x pn1).isSome = (mget x qn1).isSome := by rw [hpe, hqe]; exact put_iso hpq
              obtain ⟨e, he⟩ : ∃ e, (mget ((keyW (fA i)), (nonW (fR i)), fW i) pn1).isSome = e := ⟨_, rfl⟩
              have he2 : (mget ((keyW (fA i)), (nonW (fR i)), fW i) qn1).isSome = e := (hpq1 _).symm.trans he
              have hop3 : openN true (keyW (fA i)) (nonW (fR i)) ks (mget ((keyW (fA i)), (nonW (fR i)), fW i) pn1) (fW i) = mget ((keyW (fA i)), (nonW (fR i)), fW i) pn1 := (opn_ideal hown).1
              have hoq3 : openN true (keyW (fA i)) (nonW (fR i)) ks (mget ((keyW (fA i)), (nonW (fR i)), fW i) qn1) (fW i) = mget ((keyW (fA i)), (nonW (fR i)), fW i) qn1 := (opn_ideal hown).1
              refine wp_seq (late_stand (N := 13) [(bx, oC #[.int .i64 (fK i : Int), iB (fA i), iB (fR i), sB (fW i), .int .i64 (fN i : Int)] 40), (bk, .cells (cn .u8 (keyW (fA i))) 42), (bn, .cells (cn .u8 (nonW (fR i))) 45)] (by kernel_rfl) (by kernel_rfl) MM43 fun wq44 MM45 => ?_)
              refine late_take FF43 (i := 0) (oi := (opAt Try.f5 19 0)) (v := (pT bA)) (d := 99) (atL_has (is := [3, 1, 2]) rfl MM45.hasL) (by kernel_rfl) (by kernel_rfl) (by kernel_rfl) (by kernel_rfl) (by kernel_rfl) (fun _ _ _ _ _ h => h) (by kernel_rfl) (by decide) (by kernel_rfl) (mvV (x := (.tmp 7)) (by kernel_rfl) rfl) fun _ FF46 => ?_
              refine late_take FF46 (i := 1) (oi := (opAt Try.f5 19 1)) (v := (.agg (cn .u8 (keyW (fA i))))) (d := 100) (atL_has (is := [3, 1, 2]) rfl MM45.hasL) (by kernel_rfl) (by kernel_rfl) (by kernel_rfl) (by kernel_rfl) (by kernel_rfl) (fun _ _ _ _ _ h => h) (by kernel_rfl) (by decide) (by kernel_rfl) (loadRi (x := (.tmp 12)) (k := 1) (m := 32) (by kernel_rfl) rfl Try.underlying42 rfl (by kernel_rfl) rfl ((cn_size _ _).trans (keyW_ok (fA i)).1)) fun _ FF47 => ?_
              refine late_take FF47 (i := 2) (oi := (opAt Try.f5 19 2)) (v := (.agg (cn .u8 (nonW (fR i))))) (d := 101) (atL_has (is := [3, 1, 2]) rfl MM45.hasL) (by kernel_rfl) (by kernel_rfl) (by kernel_rfl) (by kernel_rfl) (by kernel_rfl) (fun _ _ _ _ _ h => h) (by kernel_rfl) (by decide) (by kernel_rfl) (loadRi (x := (.tmp 13)) (k := 2) (m := 12) (by kernel_rfl) rfl Try.underlying45 rfl (by kernel_rfl) rfl ((cn_size _ _).trans (nonW_ok (fR i)).1)) fun _ FF48 => ?_
              refine late_take FF48 (i := 3) (oi := (opAt Try.f5 19 3)) (v := (.pointer (some ⟨bx, 3, none⟩))) (d := 102) (atL_has (is := [3, 1, 2]) rfl MM45.hasL) (by kernel_rfl) (by kernel_rfl) (by kernel_rfl) (by kernel_rfl) (by kernel_rfl) (fun _ _ _ _ _ h => h) (by kernel_rfl) (by decide) (by kernel_rfl) (fldV (x := (.tmp 11)) (t := 40) (k := 3) (cs := []) (by kernel_rfl) rfl (by kernel_rfl)) fun _ FF49 => ?_
              refine late_take FF49 (i := 4) (oi := (opAt Try.f5 19 4)) (v := (sB (fW i))) (d := 103) (atL_has (is := [3, 1, 2]) rfl MM45.hasL) (by kernel_rfl) (by kernel_rfl) (by kernel_rfl) (by kernel_rfl) (by kernel_rfl) (fun _ _ _ _ _ h => h) (by kernel_rfl) (by decide) (by kernel_rfl) (loadVi (x := (.tmp 102)) (k := 0) (by kernel_rfl) rfl Try.underlying9 rfl rfl rfl) fun _ FF50 => ?_
              refine late_take FF50 (i := 6) (oi := (opAt Try.f5 19 6)) (v := (pT bZ)) (d := 105) (atL_has (is := [3, 1, 2]) rfl MM45.hasL) (by kernel_rfl) (by kernel_rfl) (by kernel_rfl) (by kernel_rfl) (by kernel_rfl) (fun _ _ _ _ _ h => h) (by kernel_rfl) (by decide) (by kernel_rfl) (mvV (x := (.tmp 8)) (by kernel_rfl) rfl) fun _ FF51 => ?_
              refine late_take FF51 (i := 7) (oi := (opAt Try.f5 19 7)) (v := (.agg (cn .u8 (keyW (fA i))))) (d := 106) (atL_has (is := [3, 1, 2]) rfl MM45.hasL) (by kernel_rfl) (by kernel_rfl) (by kernel_rfl) (by kernel_rfl) (by kernel_rfl) (fun _ _ _ _ _ h => h) (by kernel_rfl) (by decide) (by kernel_rfl) (loadRi (x := (.tmp 12)) (k := 1) (m := 32) (by kernel_rfl) rfl Try.underlying42 rfl (by kernel_rfl) rfl ((cn_size _ _).trans (keyW_ok (fA i)).1)) fun _ FF52 => ?_
              refine late_take FF52 (i := 8) (oi := (opAt Try.f5 19 8)) (v := (.agg (cn .u8 (nonW (fR i))))) (d := 107) (atL_has (is := [3, 1, 2]) rfl MM45.hasL) (by kernel_rfl) (by kernel_rfl) (by kernel_rfl) (by kernel_rfl) (by kernel_rfl) (fun _ _ _ _ _ h => h) (by kernel_rfl) (by decide) (by kernel_rfl) (loadRi (x := (.tmp 13)) (k := 2) (m := 12) (by kernel_rfl) rfl Try.underlying45 rfl (by kernel_rfl) rfl ((cn_size _ _).trans (nonW_ok (fR i)).1)) fun _ FF53 => ?_
              refine late_take FF53 (i := 9) (oi := (opAt Try.f5 19 9)) (v := (sB o)) (d := 108) (atL_has (is := [3, 1, 2]) rfl MM45.hasL) (by kernel_rfl) (by kernel_rfl) (by kernel_rfl) (by kernel_rfl) (by kernel_rfl) (fun _ _ _ _ _ h => h) (by kernel_rfl) (by decide) (by kernel_rfl) (mvV (x := (.tmp 14)) (by kernel_rfl) rfl) fun _ FF54 => ?_
              refine late_one (i := 5) (oi := (opAt Try.f5 19 5)) (by kernel_rfl) (by kernel_rfl) ?_
              refine rp_c 1 FF54 MM45 [(0, c_ (sB C) [(12, NM pn1)])] 15 [108, 107, 106, 105, 104] [] (⟨(callU_B [9, 10, 12] en_pseal rfl rfl (fun w Hw => by have h0 := pseal_any (K := (keyW (fA i))) hks ⟨(keyW_ok (fA i)).1, (keyW_ok (fA i)).2⟩ hp (N := (nonW (fR i))) (Y := (fW i)) ⟨(nonW_ok (fR i)).1, (nonW_ok (fR i)).2⟩ (hW i) (by omega) (ownI_true ks).get w Hw (distinct_names rfl (distinct_at MM45.distinct (is := [9, 10, 12]) rfl rfl)); rw [hC, hpn1] at h0; exact h0)), fun _ _ FF55 MM55 => ?_⟩)
              refine wpl_nil (onN_n ⟨fun _ => (atL_has (is := [3, 1, 2]) rfl MM55.hasL), ?_⟩)
              refine late_one (i := 10) (oi := (opAt Try.f5 19 10)) (by kernel_rfl) (by kernel_rfl) ?_
              refine rp_c 1 FF55 MM55 [(0, c_ (sB C) [(7, NM qn1)])] 105 [109] [] (⟨(callU_B [4, 5, 7] en_pseal rfl rfl (fun w Hw => by have h0 := pseal_any (K := (keyW (fA i))) hks ⟨(keyW_ok (fA i)).1, (keyW_ok (fA i)).2⟩ hq (N := (nonW (fR i))) (Y := o) ⟨(nonW_ok (fR i)).1, (nonW_ok (fR i)).2⟩ hoX (by omega) (ownI_true ks).get w Hw (distinct_names rfl (distinct_at MM55.distinct (is := [4, 5, 7]) rfl rfl)); rw [hC2, hqn1] at h0; exact h0)), fun _ _ FF56 MM56 => ?_⟩)
              refine wpl_nil (onN_n ⟨fun _ => (atL_has (is := [3, 1, 2]) rfl MM56.hasL), ?_⟩)
              refine late_one (i := 11) (oi := (opAt Try.f5 19 11)) (by kernel_rfl) (by kernel_rfl) ?_
              refine rp_c 1 FF56 MM56 [] 16 [109] [] (fun _ _ FF57 MM57 => ?_)
              refine wpl_nil (onN_n ⟨fun _ => (atL_has (is := [3, 1, 2]) rfl MM57.hasL), ?_⟩)
              refine late_one (i := 12) (oi := (opAt Try.f5 19 12)) (by kernel_rfl) (by kernel_rfl) ?_
              refine rp_c 1 FF57 MM57 [] 17 [] [] (fun _ _ FF58 MM58 => ?_)
              refine wpl_nil (onN_n ⟨fun _ => (atL_has (is := [3, 1, 2]) rfl MM58.hasL), ?_⟩)
              refine late_none (by kernel_rfl) (then_n ?_)
              refine wp_seq (rg_c FF58 MM58 [(1, b_ 1), (0, b_ 2), (1, c_ (.tuple #[sB (fW i), .bool true]) [(9, oC #[.bool true, pT gA, .map (some bA1), .map (some bA2), .map (some bA3), iN 0] 82)])] 19 [] [] (⟨rfl, ((cn_size _ _).trans (keyW_ok (fA i)).1), rfl, ((cn_size _ _).trans (nonW_ok (fR i)).1), (callU_B [9, 10, 12] en_popen rfl rfl (fun w Hw => by have h0 := popen_any (K := (keyW (fA i))) hks ⟨(keyW_ok (fA i)).1, (keyW_ok (fA i)).2⟩ hp1 (N := (nonW (fR i))) (Z := C) ⟨(nonW_ok (fR i)).1, (nonW_ok (fR i)).2⟩ hCl (by omega) (by omega) w Hw (distinct_names rfl (distinct_at MM58.distinct (is := [9, 10, 12]) rfl rfl)); rw [hop, (show 0 + openF true (keyW (fA i)) (nonW (fR i)) ks (mget ((keyW (fA i)), (nonW (fR i)), C) pn1) C = 0 by rw [ideal_F])] at h0; exact h0)), fun _ _ FF59 MM59 => then_n ?_⟩))
              refine wp_seq (rg_c FF59 MM59 [(1, b_ 1), (0, b_ 2), (1, c_ (.tuple #[sB o, .bool true]) [(4, oC #[.bool true, pT gZ, .map (some bZ1), .map (some bZ2), .map (some bZ3), iN 0] 82)])] 21 [] [] (⟨rfl, ((cn_size _ _).trans (keyW_ok (fA i)).1), rfl, ((cn_size _ _).trans (nonW_ok (fR i)).1), (callU_B [4, 5, 7] en_popen rfl rfl (fun w Hw => by have h0 := popen_any (K := (keyW (fA i))) hks ⟨(keyW_ok (fA i)).1, (keyW_ok (fA i)).2⟩ hq1 (N := (nonW (fR i))) (Z := C) ⟨(nonW_ok (fR i)).1, (nonW_ok (fR i)).2⟩ hCl (by omega) (by omega) w Hw (distinct_names rfl (distinct_at MM59.distinct (is := [4, 5, 7]) rfl rfl)); rw [hoq, (show 0 + openF true (keyW (fA i)) (nonW (fR i)) ks (mget ((keyW (fA i)), (nonW (fR i)), C) qn1) C = 0 by rw [ideal_F])] at h0; exact h0)), fun _ _ FF60 MM60 => then_n ?_⟩))
              refine wp_seq ?_
              refine wp_seq (rg_dc 31 FF60 MM60 [(2, w_ 3), (11, l_ 3 (sB (fW i))), (0, w_ 3), (4, w_ 3), (3, b_ 1), (0, u_ 1 (.agg (cn .u8 (ownN (keyW (fA i)) ks)))), (1, b_ 1), (0, u_ 1 (.agg (cn .u8 (ownN (keyW (fA i)) ks)))), (0, f_ (.bool false))] [] 21 [156] [] (⟨(fun h => h rfl), rfl, rfl, (fun h => h rfl), (fun h => h rfl), rfl, ((cn_size _ _).trans (keyW_ok (fA i)).1), (callP_B [9, 10] en_pKey rfl (fun w Hw => pKey_any (K := (keyW (fA i))) hks ⟨(keyW_ok (fA i)).1, (keyW_ok (fA i)).2⟩ w Hw (distinct_names rfl (distinct_at MM60.distinct (is := [9, 10]) rfl rfl)))), rfl, ((cn_size _ _).trans (keyW_ok (fA i)).1), (callP_B [4, 5] en_pKey rfl (fun w Hw => pKey_any (K := (keyW (fA i))) hks ⟨(keyW_ok (fA i)).1, (keyW_ok (fA i)).2⟩ w Hw (distinct_names rfl (distinct_at MM60.distinct (is := [4, 5]) rfl rfl)))), (neqA_ok (t := 42) (t' := 42) (e := 5) (m := 32) (k := .u8) (x := (.tmp 151)) (y := (.tmp 154)) (by kernel_rfl) Try.underlying42 Try.underlying5 (by kernel_rfl) (by kernel_rfl) (by kernel_rfl) rfl rfl (own_ok hks ⟨(keyW_ok (fA i)).1, (keyW_ok (fA i)).2⟩).1 (own_ok hks ⟨(keyW_ok (fA i)).1, (keyW_ok (fA i)).2⟩).1 (decide_eq_false (fun h => h rfl))), fun _ _ FF61 MM61 => then_n ?_⟩))
              refine wp_cond_false (FF61.ev 0 rfl) ?_
              refine wp_skip ?_
              refine then_n ?_
              refine wp_seq (rg_c FF61 MM61 [(1, b_ 1), (0, b_ 2), (1, l_ 3 (sB (fW i))), (0, c_ (.tuple #[sB ((mget ((keyW (fA i)), (nonW (fR i)), fW i) pn1).getD []), .bool e]) [(9, oC #[.bool true, pT gA, .map (some bA1), .map (some bA2), .map (some bA3), iN 0] 82)])] 21 [22] [] (⟨rfl, ((cn_size _ _).trans (keyW_ok (fA i)).1), rfl, ((cn_size _ _).trans (nonW_ok (fR i)).1), rfl, rfl, (callU_B [9, 10, 12] en_popen rfl rfl (fun w Hw => by have h0 := popen_any (K := (keyW (fA i))) hks ⟨(keyW_ok (fA i)).1, (keyW_ok (fA i)).2⟩ hp1 (N := (nonW (fR i))) (Z := (fW i)) ⟨(nonW_ok (fR i)).1, (nonW_ok (fR i)).2⟩ (hW i) (by omega) (by omega) w Hw (distinct_names rfl (distinct_at MM61.distinct (is := [9, 10, 12]) rfl rfl)); rw [hop3, he, (show 0 + openF true (keyW (fA i)) (nonW (fR i)) ks (mget ((keyW (fA i)), (nonW (fR i)), fW i) pn1) (fW i) = 0 by rw [ideal_F])] at h0; exact h0)), fun _ _ FF62 MM62 => then_n ?_⟩))
              refine wp_seq (rg_c FF62 MM62 [(1, b_ 1), (0, b_ 2), (1, l_ 3 (sB (fW i))), (0, c_ (.tuple #[sB ((mget ((keyW (fA i)), (nonW (fR i)), fW i) qn1).getD []), .bool e]) [(4, oC #[.bool true, pT gZ, .map (some bZ1), .map (some bZ2), .map (some bZ3), iN 0] 82)])] 23 [24] [] (⟨rfl, ((cn_size _ _).trans (keyW_ok (fA i)).1), rfl, ((cn_size _ _).trans (nonW_ok (fR i)).1), rfl, rfl, (callU_B [4, 5, 7] en_popen rfl rfl (fun w Hw => by have h0 := popen_any (K := (keyW (fA i))) hks ⟨(keyW_ok (fA i)).1, (keyW_ok (fA i)).2⟩ hq1 (N := (nonW (fR i))) (Z := (fW i)) ⟨(nonW_ok (fR i)).1, (nonW_ok (fR i)).2⟩ (hW i) (by omega) (by omega) w Hw (distinct_names rfl (distinct_at MM62.distinct (is := [4, 5, 7]) rfl rfl)); rw [hoq3, he2, (show 0 + openF true (keyW (fA i)) (nonW (fR i)) ks (mget ((keyW (fA i)), (nonW (fR i)), fW i) qn1) (fW i) = 0 by rw [ideal_F])] at h0; exact h0)), fun _ _ FF63 MM63 => then_n ?_⟩))
              refine wp_seq (rg_c FF63 MM63 [(2, f_ (.bool false))] 25 [177] [] (⟨(neB_same (neqB_ok (t := 4) (t' := 4) (x := (.tmp 175)) (y := (.tmp 176)) (p := e) (q := e) (by kernel_rfl) Try.underlying4 rfl rfl)), fun _ _ FF64 MM64 => then_n ?_⟩))
              refine wp_cond_false (FF64.ev 0 rfl) ?_
              refine wp_skip ?_
              refine inb_n (then_n ?_)
              refine rg_c FF64 MM64 [] 25 [] [] (⟨by omega, fun _ _ FF65 MM65 => ?_⟩)
              have hd := cnt_of (FF65.get 0 rfl)
              refine then_n ⟨⟨i + 1, pn1, qn1, by omega, hp1, hq1, hpq1, FF65.pick [0, 13, 14, 15, 16, 17, 18], ((((MM65.dropAt 3).dropAt 2).dropAt 1).dropAt 0)⟩, ?_⟩
              rw [hc, hd]; omega
          · skip
            refine then_n (.inr ⟨(FF37.ev 0 rfl).trans (dec_f hlt), ?_⟩)
            refine then_n ?_
            refine wp_seq (rg_c FF37 MM37 [(1, u_ 1 (iN 0)), (0, w_ 2), (2, u_ 1 (iN 0)), (0, w_ 2), (2, t_ (.bool true))] 11 [] [] (⟨(callP_B [5] en_pforged rfl (fun w Hw => pforged_any w Hw (distinct_names rfl (distinct_at MM37.distinct (is := [5]) rfl rfl)))), rfl, (callP_B [0] en_pforged rfl (fun w Hw => pforged_any w Hw (distinct_names rfl (distinct_at MM37.distinct (is := [0]) rfl rfl)))), rfl, (callP_of en_wakesL wakes_any _), fun _ _ FF66 MM66 => then_n ?_⟩))
            refine wp_ret ?_
            repeat first | refine then_ret ?_ | refine inb_ret ?_
            exact (ret_fr FF66 0 Try.results5 rfl ⟨rfl, MM66.belowN H (fun _ hx => List.mem_cons_of_mem _ (List.mem_cons_of_mem _ (List.mem_cons_of_mem _ (List.mem_cons_of_mem _ (List.mem_cons_of_mem _ (List.mem_cons_of_mem _ (List.mem_cons_of_mem _ (List.mem_cons_of_mem _ (List.mem_cons_of_mem _ (List.mem_cons_of_mem _ (hx)))))))))))⟩)
    · skip
      refine wp_seq (rg_c FF1 MM1 [(1, t_ (iN X.length)), (0, w_ 3), (2, u_ 1 (.bool false))] 7 [36] [] (⟨(vI (bs_size _)), h1, ⟨en_fairL, fun w Hw => fair_w p n cp fK fA fR fW fN false ⟨fun h => (by cases h), fun h => (hF h).elim⟩ w (hA.at Hw)⟩, fun _ _ FF67 MM67 => then_n ?_⟩))
      refine wp_cond_true (FF67.ev 0 rfl) ?_
      refine wp_seq (rg_c FF67 MM67 [(0, t_ (.bool true))] 7 [] [] (⟨(callP_of en_wakesL wakes_any _), fun _ _ FF68 MM68 => then_n ?_⟩))
      refine wp_ret ?_
      repeat first | refine then_ret ?_ | refine inb_ret ?_
      exact (ret_fr FF68 0 Try.results5 rfl ⟨rfl, MM68.belowN H (fun _ hx => hx)⟩)
end Go.Proofs.Ytniplfjnpjihoaa
namespace Go.Proofs.Ytniplfjnpjihoaa
open Go.ChangeShapes Go.WideShapes Go.ChangeAt Go.RowKit
set_option maxRecDepth 100000 in
theorem act_cells {H : Type} {enc : TypeId × Value → H} {W : World} {base' : Nat} {spare : Nat → Bool} {held : Bool} {fuel : Nat} {X : List Value} {x : DataW H × List MemPlace} (h : DataW.trod enc Try.prog W base' spare held fuel 40 X = some x) :
    ∃ (k : Int) (a r : Nat) (w : List Nat) (m : Int), X[0]? = some (.int .i64 k) ∧ X[1]? = some (.int .u8 (a : Nat)) ∧ X[2]? = some (.int .u8 (r : Nat)) ∧ X[3]? = some (.string (bs w)) ∧ X[4]? = some (.int .i64 m) ∧ (∀ i, w.getD i 0 < 256) ∧ (-9223372036854775808 ≤ m ∧ m < 9223372036854775808) := by
  obtain ⟨xs, m, _, _, hl, hlen, hel⟩ := DataW.trod_struct Try.underlying40 h
  have hx : xs.length = 5 := hlen
  have g : ∀ i, i < 5 → xs[i]? = some (xs[i]?.getD (.agg [], [])) := fun i hi => by simp [hx, hi]
  have e0 : DataW.trod enc Try.prog W base' spare held m 3 (List.take (Try.prog.cellsOf 3) (List.drop 0 X)) = xs[0]? := hel 0 _ rfl
  rw [show Try.prog.cellsOf 3 = 1 by kernel_rfl, g 0 (by omega)] at e0
  obtain ⟨z0, q0, _, w0⟩ := DataW.trod_int Try.underlying3 e0
  have e1 : DataW.trod enc Try.prog W base' spare held m 5 (List.take (Try.prog.cellsOf 5) (List.drop 1 X)) = xs[1]? := hel 1 _ rfl
  rw [show Try.prog.cellsOf 5 = 1 by kernel_rfl, g 1 (by omega)] at e1
  obtain ⟨z1, q1, _, w1⟩ := DataW.trod_int Try.underlying5 e1
  have bb1 := bounds_u8 w1
  obtain ⟨n1, rfl⟩ := Int.eq_ofNat_of_zero_le bb1.1
  have e2 : DataW.trod enc Try.prog W base' spare held m 5 (List.take (Try.prog.cellsOf 5) (List.drop 2 X)) = xs[2]? := hel 2 _ rfl
  rw [show Try.prog.cellsOf 5 = 1 by kernel_rfl, g 2 (by omega)] at e2
  obtain ⟨z2, q2, _, w2⟩ := DataW.trod_int Try.underlying5 e2
  have bb2 := bounds_u8 w2
  obtain ⟨n2, rfl⟩ := Int.eq_ofNat_of_zero_le bb2.1
  have e3 : DataW.trod enc Try.prog W base' spare held m 9 (List.take (Try.prog.cellsOf 9) (List.drop 3 X)) = xs[3]? := hel 3 _ rfl
  rw [show Try.prog.cellsOf 9 = 1 by kernel_rfl, g 3 (by omega)] at e3
  obtain ⟨z3, q3, _, w3⟩ := DataW.trod_string Try.underlying9 e3
  have e4 : DataW.trod enc Try.prog W base' spare held m 3 (List.take (Try.prog.cellsOf 3) (List.drop 4 X)) = xs[4]? := hel 4 _ rfl
  rw [show Try.prog.cellsOf 3 = 1 by kernel_rfl, g 4 (by omega)] at e4
  obtain ⟨z4, q4, _, w4⟩ := DataW.trod_int Try.underlying3 e4
  have bb4 := bounds_i64 w4
  refine ⟨z0, n1, n2, nl z3, z4, ?_, ?_, ?_, ?_, ?_, nl_lt z3, bb4.1, by have := bb4.2; omega⟩
  · have h3 := congrArg (fun l => l[0]?) q0; simpa [Value.cells] using h3
  · have h3 := congrArg (fun l => l[0]?) q1; simpa [Value.cells] using h3
  · have h3 := congrArg (fun l => l[0]?) q2; simpa [Value.cells] using h3
  · rw [bs_nl]; have h3 := congrArg (fun l => l[0]?) q3; simpa [Value.cells] using h3
  · have h3 := congrArg (fun l => l[0]?) q4; simpa [Value.cells] using h3
set_option maxRecDepth 100000 in
theorem acts_param {H : Type} {enc : TypeId × Value → H} {W : World} {r : Reach} {base base' : Nat} {spare : Nat → Bool} {held : Bool} {v : Value} {d : DataW H} {q : List MemPlace} (hv : Value.okWide Try.prog W r base 22 v) (h : DataW.Trod enc Try.prog W base' spare held 22 v d q) :
    ∃ (p : Option Addr) (n c : Nat) (fK : Nat → Int) (fA fR : Nat → Nat) (fW : Nat → List Nat) (fN : Nat → Int), v = .slice p n c ∧ (∀ i j, (fW i).getD j 0 < 256) ∧ (∀ j, -9223372036854775808 ≤ fN j ∧ fN j < 9223372036854775808) ∧ RowIn W p (n * 5) (actV fK fA fR fW fN) := by
  obtain ⟨p, n, c, rfl, h1⟩ := rowX_param Try.underlying22 (k := 5) (by kernel_rfl) (by decide) hv h
  rcases h1 with rfl | ⟨b, off, cs, T, fr, h2, h3, h4⟩
  · exact ⟨p, 0, c, fun _ => 0, fun _ => 0, fun _ => 0, fun _ => [], fun _ => 0, rfl, fun i j => by simp, fun _ => (show (-9223372036854775808 : Int) ≤ 0 ∧ (0 : Int) < 9223372036854775808 by decide), .inl rfl⟩
  · have key : ∀ j, ∃ x : Int × Nat × Nat × List Nat × Int, (∀ i, x.2.2.2.1.getD i 0 < 256) ∧ (-9223372036854775808 ≤ x.2.2.2.2 ∧ x.2.2.2.2 < 9223372036854775808) ∧ (j < n → cs[off + (j * 5 + 0)]? = some (.int .i64 x.1) ∧ cs[off + (j * 5 + 1)]? = some (.int .u8 (x.2.1 : Nat)) ∧ cs[off + (j * 5 + 2)]? = some (.int .u8 (x.2.2.1 : Nat)) ∧ cs[off + (j * 5 + 3)]? = some (.string (bs x.2.2.2.1)) ∧ cs[off + (j * 5 + 4)]? = some (.int .i64 x.2.2.2.2)) := fun j => by
      by_cases hj : j < n
      · obtain ⟨X, x, fuel, q1, q2, q3⟩ := h4 j hj
        obtain ⟨k, a, r, w, m, a0, a1, a2, a3, a4, hw, hm⟩ := act_cells q3
        exact ⟨(k, a, r, w, m), hw, hm, fun _ => ⟨(q2 0 (by decide)).trans a0, (q2 1 (by decide)).trans a1, (q2 2 (by decide)).trans a2, (q2 3 (by decide)).trans a3, (q2 4 (by decide)).trans a4⟩⟩
      · exact ⟨(0, 0, 0, [], 0), fun i => by simp, by decide, fun h => (hj h).elim⟩
    obtain ⟨f, hf⟩ := Classical.axiomOfChoice key
    refine ⟨p, n, c, fun i => (f i).1, fun i => (f i).2.1, fun i => (f i).2.2.1, fun i => (f i).2.2.2.1, fun i => (f i).2.2.2.2, rfl, fun i => (hf i).1, fun i => (hf i).2.1, .inr ⟨b, off, cs, T, fr, h2, h3, fun j hj => ?_⟩⟩
    obtain ⟨g0, g1, g2, g3, g4⟩ := (hf (j / 5)).2.2 (by omega)
    have hm : j % 5 = 0 ∨ j % 5 = 1 ∨ j % 5 = 2 ∨ j % 5 = 3 ∨ j % 5 = 4 := by omega
    rcases hm with hm | hm | hm | hm | hm
    · rw [show j = j / 5 * 5 + 0 by omega, g0, Nat.add_zero, actV_0]
    · rw [show j = j / 5 * 5 + 1 by omega, g1, actV_1]
    · rw [show j = j / 5 * 5 + 2 by omega, g2, actV_2]
    · rw [show j = j / 5 * 5 + 3 by omega, g3, actV_3]
    · rw [show j = j / 5 * 5 + 4 by omega, g4, actV_4]
end Go.Proofs.Ytniplfjnpjihoaa
