/- Several texts in one: Package book: Seal. Package book: Open, Forged, New. The laws of books: keys by small numbers, books of nil. The laws of books: wakes. Calls that are few and short. The law BookBlind. The law BookTells. Rows that come in: of calls. -/
import Derived.Test.YtniplfjnpjihoaaZ7
import Derived.Shelf.Strings.Repeat
import Derived.Test.YtniplfjnpjihoaaZ3
import Derived.ChangeMaps5
import Derived.SizedLaws
import Derived.SliceStrings
namespace Go.Proofs.Ytniplfjnpjihoaa
open Go.RowKit
theorem en_lclone : Enters Try.prog 53 := fun args w => by simp [go_sem]
theorem en_clone : Enters Try.prog 38 := fun args w => by simp [go_sem]
theorem en_repeat : Enters Try.prog 37 := fun args w => by simp [go_sem]
def renR : Go.Shelf.Ren := ⟨fun | 99 => 48 | 105 => 37 | 165 => 49 | 166 => 50 | 169 => 52 | 170 => 51 | 206 => 65 | 212 => 47 | 240 => 66 | 241 => 67 | 263 => 63 | 264 => 64 | 276 => 82 | 277 => 83 | n => n, fun | 0 => 0 | 3 => 3 | 4 => 4 | 5 => 5 | 9 => 9 | 20 => 20 | 37 => 73 | 46 => 102 | 51 => 108 | 53 => 135 | 70 => 115 | 72 => 117 | 75 => 120 | 76 => 121 | 80 => 123 | 109 => 112 | 127 => 138 | 146 => 133 | 148 => 136 | 164 => 159 | n => n, fun | n => n⟩
theorem layR : Go.Proofs.Lays.n105 Try.prog renR := {
  mixed := by kernel_rfl
  f99 := Try.func48.trans (congrArg some (by kernel_rfl))
  f105 := Try.func37.trans (congrArg some (by kernel_rfl))
  f165 := Try.func49.trans (congrArg some (by kernel_rfl))
  f166 := Try.func50.trans (congrArg some (by kernel_rfl))
  f169 := Try.func52.trans (congrArg some (by kernel_rfl))
  f170 := Try.func51.trans (congrArg some (by kernel_rfl))
  f206 := Try.func65.trans (congrArg some (by kernel_rfl))
  f212 := Try.func47.trans (congrArg some (by kernel_rfl))
  f240 := Try.func66.trans (congrArg some (by kernel_rfl))
  f241 := Try.func67.trans (congrArg some (by kernel_rfl))
  f263 := Try.func63.trans (congrArg some (by kernel_rfl))
  f264 := Try.func64.trans (congrArg some (by kernel_rfl))
  f276 := Try.func82.trans (congrArg some (by kernel_rfl))
  f277 := Try.func83.trans (congrArg some (by kernel_rfl))
  t0 := Try.underlying0
  a0 := Try.isAgg0
  z0 := Try.sizeOf0
  v0 := Try.zeroValue0
  t3 := Try.underlying3
  a3 := Try.isAgg3
  z3 := Try.sizeOf3
  v3 := Try.zeroValue3
  t4 := Try.underlying4
  a4 := Try.isAgg4
  z4 := Try.sizeOf4
  v4 := Try.zeroValue4
  t5 := Try.underlying5
  a5 := Try.isAgg5
  z5 := Try.sizeOf5
  v5 := Try.zeroValue5
  t9 := Try.underlying9
  a9 := Try.isAgg9
  z9 := Try.sizeOf9
  v9 := Try.zeroValue9
  t20 := Try.underlying20
  a20 := Try.isAgg20
  z20 := Try.sizeOf20
  v20 := Try.zeroValue20
  t37 := Try.underlying73
  a37 := Try.isAgg73
  z37 := Try.sizeOf73
  v37 := Try.zeroValue73
  t46 := Try.underlying102
  a46 := Try.isAgg102
  z46 := Try.sizeOf102
  v46 := Try.zeroValue102
  t51 := Try.underlying108
  a51 := Try.isAgg108
  z51 := Try.sizeOf108
  v51 := Try.zeroValue108
  t53 := Try.underlying135
  a53 := Try.isAgg135
  z53 := Try.sizeOf135
  v53 := Try.zeroValue135
  t70 := Try.underlying115
  a70 := Try.isAgg115
  z70 := Try.sizeOf115
  v70 := Try.zeroValue115
  t72 := Try.underlying117
  a72 := Try.isAgg117
  z72 := Try.sizeOf117
  v72 := Try.zeroValue117
  t75 := Try.underlying120
  a75 := Try.isAgg120
  z75 := Try.sizeOf120
  v75 := Try.zeroValue120
  t76 := Try.underlying121
  a76 := Try.isAgg121
  z76 := Try.sizeOf121
  v76 := Try.zeroValue121
  t109 := Try.underlying112
  a109 := Try.isAgg112
  z109 := Try.sizeOf112
  v109 := Try.zeroValue112
  t127 := Try.underlying138
  a127 := Try.isAgg138
  z127 := Try.sizeOf138
  v127 := Try.zeroValue138
  t146 := Try.underlying133
  a146 := Try.isAgg133
  z146 := Try.sizeOf133
  v146 := Try.zeroValue133
  t148 := Try.underlying136
  a148 := Try.isAgg136
  z148 := Try.sizeOf136
  v148 := Try.zeroValue136
  t164 := Try.underlying159
  a164 := Try.isAgg159
  z164 := Try.sizeOf159
  v164 := Try.zeroValue159 }
theorem extraR : Go.Proofs.Builder.Extra Try.prog renR := {
  sizeBuilder := by kernel_rfl
  liesBuilder := by kernel_rfl
  t5 := Try.underlying5
  a5 := Try.isAgg5
  z5 := Try.sizeOf5
  v5 := Try.zeroValue5
  infoByte := by kernel_rfl
  cellsByte := by kernel_rfl
  sizeByte := by kernel_rfl
  neB5 := by decide }
theorem repL_bs : ∀ k : Nat, Go.Lib.repeatL (bs [0]).data.toList k = (List.replicate k 0).map (UInt8.ofNat ·)
  | 0 => rfl
  | k + 1 => by
    rw [Go.Lib.repeatL, repL_bs k, List.replicate_succ, List.map_cons]
    rfl
theorem repeat0_any (k : Nat) (hk : k ≤ 100000000) (w : World) : Calls Try.prog 37 #[sB [0], iN k] w fun e w' => e = .returned (sB (List.replicate k 0)) ∧ Below w.heap.size w w' := by
  have h0 := Go.Proofs.Any.strings_Repeat layR extraR (bs [0]) k w (by omega) (by rw [bs_size, List.length_singleton]; omega)
  rw [repL_bs] at h0
  exact h0
set_option maxRecDepth 100000 in
theorem lclone_any (X : List Nat) (hX : ∀ i, X.getD i 0 < 256) (hl : X.length ≤ 1000000) (w0 : World) :
    Calls Try.prog 53 #[sB X] w0 fun e w' => e = .returned (sB X) ∧ Below w0.heap.size w0 w' := by
  refine enter_fr Try.func53 rfl Try.ntmps53 (by simp) fun ac (FF : Fr 18 ac [(0, sB X)]) => ?_
  have MM := MemS.start w0
  refine wp_seq (rg_c FF MM [(0, t_ (sB []))] 3 [] [] (⟨(by kernel_rfl), fun _ _ FF1 MM1 => then_n ?_⟩))
  refine wp_seq ?_
  refine wp_seq (rg_c FF1 MM1 [(1, t_ (iN X.length))] 3 [6] [] (⟨(vI (bs_size _)), fun _ _ FF2 MM2 => then_n ?_⟩))
  by_cases hs6 : X.length = 0
  · refine wp_cond_true ((FF2.ev 0 rfl).trans (dec_t hs6)) ?_
    obtain rfl : X = [] := List.eq_nil_of_length_eq_zero hs6
    refine wp_seq (rg_c FF2 MM2 [(0, t_ (sB []))] 3 [] [] (⟨(by kernel_rfl), fun _ _ FF3 MM3 => then_n ?_⟩))
    refine wp_ret ?_
    repeat first | refine then_ret ?_ | refine inb_ret ?_
    exact (ret_fr FF3 0 Try.results53 rfl ⟨rfl, MM3.below⟩)
  · refine wp_cond_false ((FF2.ev 0 rfl).trans (dec_f hs6)) ?_
    refine wp_skip ?_
    refine then_n ?_
    refine wp_seq (rg_c FF2 MM2 [(1, t_ (iN X.length)), (0, n_ (.slice none X.length X.length) (.cells (cn .u8 (List.replicate X.length 0)) 5))] 4 [] [] (⟨(vI (bs_size _)), (make_ok (t := 73) (e := 5) (p := (.tmp 8)) (q := (.tmp 8)) (by kernel_rfl) rfl rfl Try.underlying73 (by kernel_rfl) (by omega)), fun bl => fun _ _ FF4 MM4 => then_n ?_⟩))
    refine wp_seq (rg_c FF4 MM4 [(2, r_ (iN (min X.length X.length)) [(0, .cells (cn .u8 X) 5)])] 4 [] [] (⟨(copyStr_ok (p := .tmp 10) (q := .tmp 11) (t := 73) (tq := 9) (e := 5) (T := 5) (off := 0) (len := X.length) (X := X) (cs := cn .u8 (List.replicate X.length 0)) (i := 0) (by kernel_rfl) rfl rfl hX Try.underlying73 (by kernel_rfl) rfl (by rw [cn_size, List.length_replicate, Nat.zero_add]; exact Nat.le_refl _) (by rw [List.take_length]; exact setFrom_new8 (by rw [List.length_replicate]))), fun _ _ FF5 MM5 => then_n ?_⟩))
    refine wp_seq (rg_c FF5 MM5 [(1, w_ 1), (2, r_ (sB X) [(0, .cells (cn .u8 X) 5 (0, X.length))])] 4 [] [] (⟨by omega, (usRow_ok (t := 138) (u := 3) (e := 5) (i := 0) (x := .tmp 14) (y := .tmp 16) (by kernel_rfl) rfl rfl Try.underlying138 (by kernel_rfl) rfl (by omega) hX (by rw [cn_size]; exact Nat.le_refl _) (by omega) (fun j hj => cn_get _ _ _ hj)), fun _ _ FF6 MM6 => then_n ?_⟩))
    refine wp_ret ?_
    repeat first | refine then_ret ?_ | refine inb_ret ?_
    exact (ret_fr FF6 0 Try.results53 rfl ⟨rfl, MM6.below⟩)
set_option maxRecDepth 100000 in
theorem clone_any (X : List Nat) (hX : ∀ i, X.getD i 0 < 256) (hl : X.length ≤ 1000000) (w0 : World) :
    Calls Try.prog 38 #[sB X] w0 fun e w' => e = .returned (sB X) ∧ Below w0.heap.size w0 w' := by
  refine enter_fr Try.func38 rfl Try.ntmps38 (by simp) fun ac (FF : Fr 5 ac [(0, sB X)]) => ?_
  have MM := MemS.start w0
  refine wp_seq (rg_c FF MM [(0, t_ (sB []))] 3 [] [] (⟨(by kernel_rfl), fun _ _ FF1 MM1 => then_n ?_⟩))
  refine wp_seq (rg_c FF1 MM1 [(1, t_ (sB X))] 0 [2] [] (⟨(callP_of en_lclone (lclone_any X hX hl) _), fun _ _ FF2 MM2 => then_n ?_⟩))
  refine wp_ret ?_
  repeat first | refine then_ret ?_ | refine inb_ret ?_
  exact (ret_fr FF2 0 Try.results38 rfl ⟨rfl, MM2.below⟩)
set_option maxRecDepth 100000 in
theorem pseal_any {b m1 m2 m3 : Nat} {i : Bool} {t : Value} {f : Nat} {ks : Pairs} {K : List Nat} (hk : OkP 32 ks) (hK : BytesK 32 K) {pn : Notes} (hp_ : OkQ pn) {N Y : List Nat} (hN : BytesK 12 N) (hY : ∀ i, Y.getD i 0 < 256) (hYl : Y.length ≤ 900000) (hO : i = false → ∀ own, mget K ks = some own → own = K) (w0 : World) (H : Has w0 [(b, oC #[.bool i, t, .map (some m1), .map (some m2), .map (some m3), iN f] 82), (m1, KM ks), (m3, NM pn)]) (hD : Distinct [(b, oC #[.bool i, t, .map (some m1), .map (some m2), .map (some m3), iN f] 82), (m1, KM ks), (m3, NM pn)]) :
    Calls Try.prog 18 #[pT b, .agg (cn .u8 K), .agg (cn .u8 N), sB Y] w0 fun e w' => e = .returned (sB (boxN i K N ks Y)) ∧ TurnB [(m3, NM (noteP i K N ks Y pn))] w0 w' := by
  refine enter_fr Try.func18 rfl Try.ntmps18 (by simp) fun ac (FF : Fr 44 ac [(0, pT b), (1, .agg (cn .u8 K)), (2, .agg (cn .u8 N)), (3, sB Y)]) => ?_
  have MM : MemS (fun k => k < w0.heap.size ∧ ∀ x ∈ [(b, oC #[.bool i, t, .map (some m1), .map (some m2), .map (some m3), iN f] 82), (m1, KM ks), (m3, NM pn)], x.1 ≠ k) w0 w0 [(b, oC #[.bool i, t, .map (some m1), .map (some m2), .map (some m3), iN f] 82), (m1, KM ks), (m3, NM pn)] [] := MemS.startN H hD
  refine wp_seq (rg_c FF MM [(0, s_ 0 (.cells (cn .u8 K) 42)), (0, s_ 0 (.cells (cn .u8 N) 45)), (0, t_ (sB []))] 9 [] [1, 2] (⟨(by kernel_rfl), fun bk => ⟨(by kernel_rfl), fun bn => ⟨(by kernel_rfl), fun _ _ FF1 MM1 => then_n ?_⟩⟩⟩))
  refine wp_seq ?_
  cases hg : mget K ks with
  | none =>
    refine wp_seq (rg_c FF1 MM1 [(1, b_ 1), (0, u_ 1 (.bool false))] 9 [14] [] (⟨rfl, ((cn_size _ _).trans hK.1), (callP_B [2, 3] en_pshared rfl (fun w Hw => by have h0 := pshared_any hk hK w Hw (distinct_names rfl (distinct_at MM1.distinct (is := [2, 3]) rfl rfl)); rw [hg] at h0; exact h0)), fun _ _ FF2 MM2 => then_n ?_⟩))
    refine wp_cond_true (FF2.ev 0 rfl) ?_
    refine wp_seq (rg_c FF2 MM2 [(0, b_ 1), (0, b_ 0), (1, t_ (sB (sealN K N [] Y)))] 9 [] [] (⟨rfl, ((cn_size _ _).trans hK.1), rfl, ((cn_size _ _).trans hN.1), (callP_of en_Seal (seal_any K N ⟨hK.1, hK.2⟩ ⟨hN.1, hN.2⟩ [] Y (lit_lt (by kernel_rfl)) hY (by decide) (by omega)) _), fun _ _ FF3 MM3 => then_n ?_⟩))
    refine wp_ret ?_
    repeat first | refine then_ret ?_ | refine inb_ret ?_
    exact (ret_fr FF3 0 Try.results18 rfl (by rw [box_no hg, noteP_no hg]; exact ⟨rfl, MM3.turnB [(m3, NM pn)] H (List.forall_mem_cons.2 ⟨(List.mem_of_getElem? (i := 4) rfl), (fun _ h => (nomatch h))⟩) (List.forall_mem_cons.2 ⟨.inl (List.mem_of_getElem? (i := 2) rfl), (List.forall_mem_cons.2 ⟨.inl (List.mem_of_getElem? (i := 3) rfl), (List.forall_mem_cons.2 ⟨.inr ⟨_, (List.mem_of_getElem? (i := 0) rfl), rfl⟩, (fun _ h => (nomatch h))⟩)⟩)⟩)⟩))
  | some own =>
    refine wp_seq (rg_c FF1 MM1 [(1, b_ 1), (0, u_ 1 (.bool true))] 9 [14] [] (⟨rfl, ((cn_size _ _).trans hK.1), (callP_B [2, 3] en_pshared rfl (fun w Hw => by have h0 := pshared_any hk hK w Hw (distinct_names rfl (distinct_at MM1.distinct (is := [2, 3]) rfl rfl)); rw [hg] at h0; exact h0)), fun _ _ FF4 MM4 => then_n ?_⟩))
    refine wp_cond_false (FF4.ev 0 rfl) ?_
    refine wp_skip ?_
    refine then_n ?_
    refine wp_seq (rg_c FF4 MM4 [] 9 [9] [] (fun _ _ FF5 MM5 => then_n ?_))
    refine wp_seq ?_
    cases i with
    | false =>
      refine wp_seq (rg_c FF5 MM5 [(3, l_ 2 (.bool false))] 10 [23] [] (⟨rfl, rfl, fun _ _ FF6 MM6 => then_n ?_⟩))
      refine wp_cond_false (FF6.ev 0 rfl) ?_
      refine wp_skip ?_
      refine then_n ?_
      refine wp_seq (rg_dc 7 FF6 MM6 [(1, b_ 1), (0, u_ 1 (.agg (cn .u8 K))), (0, b_ 0), (1, t_ (sB (sealN K N [] Y)))] [] 9 [10] [] (⟨rfl, ((cn_size _ _).trans hK.1), (callP_B [2, 3] en_pKey rfl (fun w Hw => by have h0 := pKey_any hk hK w Hw (distinct_names rfl (distinct_at MM6.distinct (is := [2, 3]) rfl rfl)); rw [show ownN K ks = K by rw [ownN, hg]; exact hO rfl own hg] at h0; exact h0)), rfl, ((cn_size _ _).trans hN.1), (callP_of en_Seal (seal_any K N ⟨hK.1, hK.2⟩ ⟨hN.1, hN.2⟩ [] Y (lit_lt (by kernel_rfl)) hY (by decide) (by omega)) _), fun _ _ FF7 MM7 => then_n ?_⟩))
      refine wp_seq (rg_dc 10 FF7 MM7 [(3, l_ 2 (.map (some m3))), (0, b_ 1), (0, b_ 0), (1, f_ (.agg ((cn .u8 K) ++ (cn .u8 N) ++ (#[sB (sealN K N [] Y)] : Array Value)))), (1, t_ (sB Y))] [(0, r_ undef [(4, NM (mput (K, N, sealN K N [] Y) Y pn))])] 11 [] [] (⟨rfl, rfl, rfl, ((cn_size _ _).trans hK.1), rfl, ((cn_size _ _).trans hN.1), (build_ok (t := 98) (ps := #[(0, (.tmp 37)), (1, (.tmp 38)), (2, (.tmp 39))]) (by kernel_rfl) rfl (built_fits (pl := [(0, 32), (32, 12), (44, 1)]) (tot := 45) (n := 32) (by kernel_rfl) (by kernel_rfl) (ns := [12, 1]) ⟨rfl, (show (cn .u8 K).size = 32 from ((cn_size _ _).trans hK.1)), rfl, (show (cn .u8 N).size = 12 from ((cn_size _ _).trans hN.1)), rfl, rfl, rfl⟩ rfl)), (callP_of en_clone (clone_any Y hY (by omega)) _), (mapPut_ok (t := 80) (m := (.tmp 36)) (y := (.tmp 40)) (z := (.tmp 42)) (b := m3) (i := 4) (kf := boxV) (vf := noteV) (l := pn) (x := (K, N, sealN K N [] Y)) (v := Y) (by kernel_rfl) rfl rfl rfl Try.underlying80 box_law (fun p hp => (hp_.1 p hp).1) hp_.2 ⟨hK, hN, (sealN_lt _ _ _ hY), (by rw [sealN_len]; omega)⟩ rfl), fun _ _ FF8 MM8 => then_n ?_⟩))
      refine wp_seq (rg_c FF8 MM8 [] 11 [] [] (fun _ _ FF9 MM9 => then_n ?_))
      refine wp_ret ?_
      repeat first | refine then_ret ?_ | refine inb_ret ?_
      exact (ret_fr FF9 0 Try.results18 rfl (by rw [noteP_yes hg, box_real hg]; exact ⟨rfl, MM9.turnB [(m3, NM (mput (K, N, sealN K N [] Y) Y pn))] H (List.forall_mem_cons.2 ⟨(List.mem_of_getElem? (i := 4) rfl), (fun _ h => (nomatch h))⟩) (List.forall_mem_cons.2 ⟨.inl (List.mem_of_getElem? (i := 2) rfl), (List.forall_mem_cons.2 ⟨.inl (List.mem_of_getElem? (i := 3) rfl), (List.forall_mem_cons.2 ⟨.inr ⟨_, (List.mem_of_getElem? (i := 0) rfl), rfl⟩, (fun _ h => (nomatch h))⟩)⟩)⟩)⟩))
    | true =>
      refine wp_seq (rg_c FF5 MM5 [(3, l_ 2 (.bool true))] 10 [23] [] (⟨rfl, rfl, fun _ _ FF10 MM10 => then_n ?_⟩))
      refine wp_cond_true (FF10.ev 0 rfl) ?_
      refine rg_c FF10 MM10 [(1, t_ (iN Y.length)), (0, t_ (sB (List.replicate Y.length 0)))] 9 [9] [] (⟨(vI (bs_size _)), (callP_of en_repeat (repeat0_any Y.length (by omega)) _), fun _ _ FF11 MM11 => ?_⟩)
      refine then_n ?_
      refine wp_seq (rg_dc 7 FF11 MM11 [(1, b_ 1), (0, u_ 1 (.agg (cn .u8 (ownN K ks)))), (0, b_ 0), (1, t_ (sB (sealN (ownN K ks) N [] (List.replicate Y.length 0))))] [] 9 [10] [] (⟨rfl, ((cn_size _ _).trans hK.1), (callP_B [2, 3] en_pKey rfl (fun w Hw => pKey_any hk hK w Hw (distinct_names rfl (distinct_at MM11.distinct (is := [2, 3]) rfl rfl)))), rfl, ((cn_size _ _).trans hN.1), (callP_of en_Seal (seal_any (ownN K ks) N ⟨(own_ok hk hK).1, (own_ok hk hK).2⟩ ⟨hN.1, hN.2⟩ [] (List.replicate Y.length 0) (lit_lt (by kernel_rfl)) (rep0_lt (by decide)) (by decide) (by rw [List.length_replicate]; omega)) _), fun _ _ FF12 MM12 => then_n ?_⟩))
      refine wp_seq (rg_dc 10 FF12 MM12 [(3, l_ 2 (.map (some m3))), (0, b_ 1), (0, b_ 0), (1, f_ (.agg ((cn .u8 K) ++ (cn .u8 N) ++ (#[sB (sealN (ownN K ks) N [] (List.replicate Y.length 0))] : Array Value)))), (1, t_ (sB Y))] [(0, r_ undef [(4, NM (mput (K, N, sealN (ownN K ks) N [] (List.replicate Y.length 0)) Y pn))])] 11 [] [] (⟨rfl, rfl, rfl, ((cn_size _ _).trans hK.1), rfl, ((cn_size _ _).trans hN.1), (build_ok (t := 98) (ps := #[(0, (.tmp 37)), (1, (.tmp 38)), (2, (.tmp 39))]) (by kernel_rfl) rfl (built_fits (pl := [(0, 32), (32, 12), (44, 1)]) (tot := 45) (n := 32) (by kernel_rfl) (by kernel_rfl) (ns := [12, 1]) ⟨rfl, (show (cn .u8 K).size = 32 from ((cn_size _ _).trans hK.1)), rfl, (show (cn .u8 N).size = 12 from ((cn_size _ _).trans hN.1)), rfl, rfl, rfl⟩ rfl)), (callP_of en_clone (clone_any Y hY (by omega)) _), (mapPut_ok (t := 80) (m := (.tmp 36)) (y := (.tmp 40)) (z := (.tmp 42)) (b := m3) (i := 4) (kf := boxV) (vf := noteV) (l := pn) (x := (K, N, sealN (ownN K ks) N [] (List.replicate Y.length 0))) (v := Y) (by kernel_rfl) rfl rfl rfl Try.underlying80 box_law (fun p hp => (hp_.1 p hp).1) hp_.2 ⟨hK, hN, (sealN_lt _ _ _ (rep0_lt (by decide))), (by rw [sealN_len, List.length_replicate]; omega)⟩ rfl), fun _ _ FF13 MM13 => then_n ?_⟩))
      refine wp_seq (rg_c FF13 MM13 [] 11 [] [] (fun _ _ FF14 MM14 => then_n ?_))
      refine wp_ret ?_
      repeat first | refine then_ret ?_ | refine inb_ret ?_
      exact (ret_fr FF14 0 Try.results18 rfl (by rw [noteP_yes hg, box_ideal hg]; exact ⟨rfl, MM14.turnB [(m3, NM (mput (K, N, sealN (ownN K ks) N [] (List.replicate Y.length 0)) Y pn))] H (List.forall_mem_cons.2 ⟨(List.mem_of_getElem? (i := 4) rfl), (fun _ h => (nomatch h))⟩) (List.forall_mem_cons.2 ⟨.inl (List.mem_of_getElem? (i := 2) rfl), (List.forall_mem_cons.2 ⟨.inl (List.mem_of_getElem? (i := 3) rfl), (List.forall_mem_cons.2 ⟨.inr ⟨_, (List.mem_of_getElem? (i := 0) rfl), rfl⟩, (fun _ h => (nomatch h))⟩)⟩)⟩)⟩))
end Go.Proofs.Ytniplfjnpjihoaa
namespace Go.Proofs.Ytniplfjnpjihoaa
open Go.RowKit
set_option maxRecDepth 100000 in
theorem popen_any {b m1 m2 m3 : Nat} {i : Bool} {t : Value} {f : Nat} {ks : Pairs} {K : List Nat} (hk : OkP 32 ks) (hK : BytesK 32 K) {pn : Notes} (hp_ : OkQ pn) {N Z : List Nat} (hN : BytesK 12 N) (hZ : ∀ i, Z.getD i 0 < 256) (hZl : Z.length ≤ 1000000) (hf : f < 4611686018427387904) (w0 : World) (H : Has w0 [(b, oC #[.bool i, t, .map (some m1), .map (some m2), .map (some m3), iN f] 82), (m1, KM ks), (m3, NM pn)]) (hD : Distinct [(b, oC #[.bool i, t, .map (some m1), .map (some m2), .map (some m3), iN f] 82), (m1, KM ks), (m3, NM pn)]) :
    Calls Try.prog 21 #[pT b, .agg (cn .u8 K), .agg (cn .u8 N), sB Z] w0 fun e w' => e = .returned (.tuple #[sB ((openN i K N ks (mget (K, N, Z) pn) Z).getD []), .bool (openN i K N ks (mget (K, N, Z) pn) Z).isSome]) ∧ TurnB [(b, BB i t m1 m2 m3 (f + openF i K N ks (mget (K, N, Z) pn) Z))] w0 w' := by
  refine enter_fr Try.func21 rfl Try.ntmps21 (by simp) fun ac (FF : Fr 64 ac [(0, pT b), (1, .agg (cn .u8 K)), (2, .agg (cn .u8 N)), (3, sB Z)]) => ?_
  have MM : MemS (fun k => k < w0.heap.size ∧ ∀ x ∈ [(b, oC #[.bool i, t, .map (some m1), .map (some m2), .map (some m3), iN f] 82), (m1, KM ks), (m3, NM pn)], x.1 ≠ k) w0 w0 [(b, oC #[.bool i, t, .map (some m1), .map (some m2), .map (some m3), iN f] 82), (m1, KM ks), (m3, NM pn)] [] := MemS.startN H hD
  refine wp_seq (rg_c FF MM [(0, s_ 0 (.cells (cn .u8 K) 42)), (0, s_ 0 (.cells (cn .u8 N) 45)), (0, t_ (sB []))] 9 [9] [1, 2] (⟨(by kernel_rfl), fun bk => ⟨(by kernel_rfl), fun bn => ⟨(by kernel_rfl), fun _ _ FF1 MM1 => then_n ?_⟩⟩⟩))
  refine wp_seq ?_
  cases hg : mget K ks with
  | none =>
    refine wp_seq (rg_c FF1 MM1 [(1, b_ 1), (0, u_ 1 (.bool false))] 10 [17] [] (⟨rfl, ((cn_size _ _).trans hK.1), (callP_B [2, 3] en_pshared rfl (fun w Hw => by have h0 := pshared_any hk hK w Hw (distinct_names rfl (distinct_at MM1.distinct (is := [2, 3]) rfl rfl)); rw [hg] at h0; exact h0)), fun _ _ FF2 MM2 => then_n ?_⟩))
    refine wp_cond_true (FF2.ev 0 rfl) ?_
    by_cases ho : opensN K N [] Z
    · skip
      refine wp_seq (rg_c FF2 MM2 [(0, b_ 1), (0, b_ 0), (1, t_ (.tuple #[sB (plainN K N Z), .bool true]))] 9 [9] [] (⟨rfl, ((cn_size _ _).trans hK.1), rfl, ((cn_size _ _).trans hN.1), (callP_of en_Open (open_yes K N ⟨hK.1, hK.2⟩ ⟨hN.1, hN.2⟩ [] Z (lit_lt (by kernel_rfl)) hZ (by decide) (by omega) ho.1 ho) _), fun _ _ FF3 MM3 => then_n ?_⟩))
      refine wp_ret ?_
      repeat first | refine then_ret ?_ | refine inb_ret ?_
      exact (ret_tup2 FF3 1 0 Try.results21 rfl rfl (by rw [(opn_no hg).1, (opn_no hg).2, if_pos ho]; exact ⟨rfl, MM3.turnB [(b, oC #[.bool i, t, .map (some m1), .map (some m2), .map (some m3), iN f] 82)] H (List.forall_mem_cons.2 ⟨(List.mem_of_getElem? (i := 2) rfl), (fun _ h => (nomatch h))⟩) (List.forall_mem_cons.2 ⟨.inr ⟨_, (List.mem_of_getElem? (i := 0) rfl), rfl⟩, (List.forall_mem_cons.2 ⟨.inl (List.mem_of_getElem? (i := 3) rfl), (List.forall_mem_cons.2 ⟨.inl (List.mem_of_getElem? (i := 4) rfl), (fun _ h => (nomatch h))⟩)⟩)⟩)⟩))
    · skip
      refine wp_seq (rg_c FF2 MM2 [(0, b_ 1), (0, b_ 0), (1, t_ (.tuple #[sB [], .bool false]))] 9 [9] [] (⟨rfl, ((cn_size _ _).trans hK.1), rfl, ((cn_size _ _).trans hN.1), (callP_of en_Open (open_no K N ⟨hK.1, hK.2⟩ ⟨hN.1, hN.2⟩ [] Z (lit_lt (by kernel_rfl)) hZ (by decide) (by omega) ho) _), fun _ _ FF4 MM4 => then_n ?_⟩))
      refine wp_ret ?_
      repeat first | refine then_ret ?_ | refine inb_ret ?_
      exact (ret_tup2 FF4 1 0 Try.results21 rfl rfl (by rw [(opn_no hg).1, (opn_no hg).2, if_neg ho]; exact ⟨rfl, MM4.turnB [(b, oC #[.bool i, t, .map (some m1), .map (some m2), .map (some m3), iN f] 82)] H (List.forall_mem_cons.2 ⟨(List.mem_of_getElem? (i := 2) rfl), (fun _ h => (nomatch h))⟩) (List.forall_mem_cons.2 ⟨.inr ⟨_, (List.mem_of_getElem? (i := 0) rfl), rfl⟩, (List.forall_mem_cons.2 ⟨.inl (List.mem_of_getElem? (i := 3) rfl), (List.forall_mem_cons.2 ⟨.inl (List.mem_of_getElem? (i := 4) rfl), (fun _ h => (nomatch h))⟩)⟩)⟩)⟩))
  | some own =>
    refine wp_seq (rg_c FF1 MM1 [(1, b_ 1), (0, u_ 1 (.bool true))] 10 [17] [] (⟨rfl, ((cn_size _ _).trans hK.1), (callP_B [2, 3] en_pshared rfl (fun w Hw => by have h0 := pshared_any hk hK w Hw (distinct_names rfl (distinct_at MM1.distinct (is := [2, 3]) rfl rfl)); rw [hg] at h0; exact h0)), fun _ _ FF5 MM5 => then_n ?_⟩))
    refine wp_cond_false (FF5.ev 0 rfl) ?_
    refine wp_skip ?_
    refine then_n ?_
    cases hn : mget (K, N, Z) pn with
    | none =>
      refine wp_seq (rg_dc 14 FF5 MM5 [(3, l_ 2 (.map (some m3))), (0, b_ 1), (0, b_ 0), (1, f_ (.agg ((cn .u8 K) ++ (cn .u8 N) ++ (#[sB Z] : Array Value)))), (0, f_ (.tuple #[sB [], .bool false]))] [] 12 [] [] (⟨rfl, rfl, rfl, ((cn_size _ _).trans hK.1), rfl, ((cn_size _ _).trans hN.1), (build_ok (t := 98) (ps := #[(0, (.tmp 29)), (1, (.tmp 30)), (2, (.tmp 31))]) (by kernel_rfl) rfl (built_fits (pl := [(0, 32), (32, 12), (44, 1)]) (tot := 45) (n := 32) (by kernel_rfl) (by kernel_rfl) (ns := [12, 1]) ⟨rfl, (show (cn .u8 K).size = 32 from ((cn_size _ _).trans hK.1)), rfl, (show (cn .u8 N).size = 12 from ((cn_size _ _).trans hN.1)), rfl, rfl, rfl⟩ rfl)), (mapNo_ok (t := 80) (m := (.tmp 28)) (y := (.tmp 32)) (b := m3) (i := 4) (kf := boxV) (vf := noteV) (l := pn) (x := (K, N, Z)) (c := true) (z := sB []) (by kernel_rfl) rfl rfl Try.underlying80 box_law (fun p hp => (hp_.1 p hp).1) hp_.2 ⟨hK, hN, hZ, hZl⟩ rfl (by kernel_rfl) hn), fun _ _ FF6 MM6 => then_n ?_⟩))
      refine wp_seq ?_
      cases i with
      | false =>
        refine wp_seq (rg_c FF6 MM6 [(3, l_ 2 (.bool false))] 12 [39] [] (⟨rfl, rfl, fun _ _ FF7 MM7 => then_n ?_⟩))
        refine wp_cond_false (FF7.ev 0 rfl) ?_
        refine wp_skip ?_
        refine then_n ?_
        by_cases ho : opensN K N [] Z
        · skip
          refine wp_seq (rg_c FF7 MM7 [(0, b_ 1), (0, b_ 0), (1, t_ (.tuple #[sB (plainN K N Z), .bool true]))] 14 [] [] (⟨rfl, ((cn_size _ _).trans hK.1), rfl, ((cn_size _ _).trans hN.1), (callP_of en_Open (open_yes K N ⟨hK.1, hK.2⟩ ⟨hN.1, hN.2⟩ [] Z (lit_lt (by kernel_rfl)) hZ (by decide) (by omega) ho.1 ho) _), fun _ _ FF8 MM8 => then_n ?_⟩))
          refine wp_seq ?_
          refine wp_seq (rg_c FF8 MM8 [] 14 [54] [] (fun _ _ FF9 MM9 => then_n ?_))
          refine wp_cond_true (FF9.ev 0 rfl) ?_
          refine rg_c FF9 MM9 [(3, l_ 2 (iN f)), (3, s_ 2 (oC #[.bool false, t, .map (some m1), .map (some m2), .map (some m3), iN (f + 1)] 82))] 14 [] [] (⟨rfl, rfl, by omega, rfl, (by simp), (.inl rfl), rfl, fun _ _ FF10 MM10 => ?_⟩)
          refine then_n ?_
          refine wp_seq (rg_c FF10 MM10 [] 12 [13] [] (fun _ _ FF11 MM11 => then_n ?_))
          refine wp_ret ?_
          repeat first | refine then_ret ?_ | refine inb_ret ?_
          exact (ret_tup2 FF11 1 0 Try.results21 rfl rfl (by rw [(opn_real hg).1, (opn_real hg).2, if_pos ho, decide_eq_true ho]; exact ⟨rfl, MM11.turnB [(b, oC #[.bool false, t, .map (some m1), .map (some m2), .map (some m3), iN (f + 1)] 82)] H (List.forall_mem_cons.2 ⟨(List.mem_of_getElem? (i := 2) rfl), (fun _ h => (nomatch h))⟩) (List.forall_mem_cons.2 ⟨.inr ⟨_, (List.mem_of_getElem? (i := 0) rfl), rfl⟩, (List.forall_mem_cons.2 ⟨.inl (List.mem_of_getElem? (i := 3) rfl), (List.forall_mem_cons.2 ⟨.inl (List.mem_of_getElem? (i := 4) rfl), (fun _ h => (nomatch h))⟩)⟩)⟩)⟩))
        · skip
          refine wp_seq (rg_c FF7 MM7 [(0, b_ 1), (0, b_ 0), (1, t_ (.tuple #[sB [], .bool false]))] 14 [] [] (⟨rfl, ((cn_size _ _).trans hK.1), rfl, ((cn_size _ _).trans hN.1), (callP_of en_Open (open_no K N ⟨hK.1, hK.2⟩ ⟨hN.1, hN.2⟩ [] Z (lit_lt (by kernel_rfl)) hZ (by decide) (by omega) ho) _), fun _ _ FF12 MM12 => then_n ?_⟩))
          refine wp_seq ?_
          refine wp_seq (rg_c FF12 MM12 [] 14 [54] [] (fun _ _ FF13 MM13 => then_n ?_))
          refine wp_cond_false (FF13.ev 0 rfl) ?_
          refine wp_skip ?_
          refine then_n ?_
          refine wp_seq (rg_c FF13 MM13 [] 12 [13] [] (fun _ _ FF14 MM14 => then_n ?_))
          refine wp_ret ?_
          repeat first | refine then_ret ?_ | refine inb_ret ?_
          exact (ret_tup2 FF14 1 0 Try.results21 rfl rfl (by rw [(opn_real hg).1, (opn_real hg).2, if_neg ho, decide_eq_false ho, Bool.and_false]; exact ⟨rfl, MM14.turnB [(b, oC #[.bool false, t, .map (some m1), .map (some m2), .map (some m3), iN f] 82)] H (List.forall_mem_cons.2 ⟨(List.mem_of_getElem? (i := 2) rfl), (fun _ h => (nomatch h))⟩) (List.forall_mem_cons.2 ⟨.inr ⟨_, (List.mem_of_getElem? (i := 0) rfl), rfl⟩, (List.forall_mem_cons.2 ⟨.inl (List.mem_of_getElem? (i := 3) rfl), (List.forall_mem_cons.2 ⟨.inl (List.mem_of_getElem? (i := 4) rfl), (fun _ h => (nomatch h))⟩)⟩)⟩)⟩))
      | true =>
        refine wp_seq (rg_c FF6 MM6 [(3, l_ 2 (.bool true))] 12 [39] [] (⟨rfl, rfl, fun _ _ FF15 MM15 => then_n ?_⟩))
        refine wp_cond_true (FF15.ev 0 rfl) ?_
        refine wp_seq (rg_c FF15 MM15 [(1, t_ (sB []))] 10 [11] [] (⟨(callP_of en_clone (clone_any [] (lit_lt (by kernel_rfl)) (by decide)) _), fun _ _ FF16 MM16 => then_n ?_⟩))
        refine wp_ret ?_
        repeat first | refine then_ret ?_ | refine inb_ret ?_
        exact (ret_tup2 FF16 1 0 Try.results21 rfl rfl (by rw [(opn_ideal hg).1, (opn_ideal hg).2]; exact ⟨rfl, MM16.turnB [(b, oC #[.bool true, t, .map (some m1), .map (some m2), .map (some m3), iN f] 82)] H (List.forall_mem_cons.2 ⟨(List.mem_of_getElem? (i := 2) rfl), (fun _ h => (nomatch h))⟩) (List.forall_mem_cons.2 ⟨.inr ⟨_, (List.mem_of_getElem? (i := 0) rfl), rfl⟩, (List.forall_mem_cons.2 ⟨.inl (List.mem_of_getElem? (i := 3) rfl), (List.forall_mem_cons.2 ⟨.inl (List.mem_of_getElem? (i := 4) rfl), (fun _ h => (nomatch h))⟩)⟩)⟩)⟩))
    | some pl =>
      refine wp_seq (rg_dc 14 FF5 MM5 [(3, l_ 2 (.map (some m3))), (0, b_ 1), (0, b_ 0), (1, f_ (.agg ((cn .u8 K) ++ (cn .u8 N) ++ (#[sB Z] : Array Value)))), (0, f_ (.tuple #[sB pl, .bool true]))] [] 12 [] [] (⟨rfl, rfl, rfl, ((cn_size _ _).trans hK.1), rfl, ((cn_size _ _).trans hN.1), (build_ok (t := 98) (ps := #[(0, (.tmp 29)), (1, (.tmp 30)), (2, (.tmp 31))]) (by kernel_rfl) rfl (built_fits (pl := [(0, 32), (32, 12), (44, 1)]) (tot := 45) (n := 32) (by kernel_rfl) (by kernel_rfl) (ns := [12, 1]) ⟨rfl, (show (cn .u8 K).size = 32 from ((cn_size _ _).trans hK.1)), rfl, (show (cn .u8 N).size = 12 from ((cn_size _ _).trans hN.1)), rfl, rfl, rfl⟩ rfl)), (mapYes_ok (t := 80) (m := (.tmp 28)) (y := (.tmp 32)) (b := m3) (i := 4) (kf := boxV) (vf := noteV) (l := pn) (x := (K, N, Z)) (c := true) (v := pl) (by kernel_rfl) rfl rfl Try.underlying80 box_law (fun p hp => (hp_.1 p hp).1) hp_.2 ⟨hK, hN, hZ, hZl⟩ rfl hn), fun _ _ FF17 MM17 => then_n ?_⟩))
      refine wp_seq ?_
      cases i with
      | false =>
        refine wp_seq (rg_c FF17 MM17 [(3, l_ 2 (.bool false))] 12 [39] [] (⟨rfl, rfl, fun _ _ FF18 MM18 => then_n ?_⟩))
        refine wp_cond_false (FF18.ev 0 rfl) ?_
        refine wp_skip ?_
        refine then_n ?_
        by_cases ho : opensN K N [] Z
        · skip
          refine wp_seq (rg_c FF18 MM18 [(0, b_ 1), (0, b_ 0), (1, t_ (.tuple #[sB (plainN K N Z), .bool true]))] 14 [] [] (⟨rfl, ((cn_size _ _).trans hK.1), rfl, ((cn_size _ _).trans hN.1), (callP_of en_Open (open_yes K N ⟨hK.1, hK.2⟩ ⟨hN.1, hN.2⟩ [] Z (lit_lt (by kernel_rfl)) hZ (by decide) (by omega) ho.1 ho) _), fun _ _ FF19 MM19 => then_n ?_⟩))
          refine wp_seq ?_
          refine wp_seq (rg_c FF19 MM19 [] 14 [54] [] (fun _ _ FF20 MM20 => then_n ?_))
          refine wp_cond_false (FF20.ev 0 rfl) ?_
          refine wp_skip ?_
          refine then_n ?_
          refine wp_seq (rg_c FF20 MM20 [] 12 [13] [] (fun _ _ FF21 MM21 => then_n ?_))
          refine wp_ret ?_
          repeat first | refine then_ret ?_ | refine inb_ret ?_
          exact (ret_tup2 FF21 1 0 Try.results21 rfl rfl (by rw [(opn_real hg).1, (opn_real hg).2, if_pos ho, decide_eq_true ho]; exact ⟨rfl, MM21.turnB [(b, oC #[.bool false, t, .map (some m1), .map (some m2), .map (some m3), iN f] 82)] H (List.forall_mem_cons.2 ⟨(List.mem_of_getElem? (i := 2) rfl), (fun _ h => (nomatch h))⟩) (List.forall_mem_cons.2 ⟨.inr ⟨_, (List.mem_of_getElem? (i := 0) rfl), rfl⟩, (List.forall_mem_cons.2 ⟨.inl (List.mem_of_getElem? (i := 3) rfl), (List.forall_mem_cons.2 ⟨.inl (List.mem_of_getElem? (i := 4) rfl), (fun _ h => (nomatch h))⟩)⟩)⟩)⟩))
        · skip
          refine wp_seq (rg_c FF18 MM18 [(0, b_ 1), (0, b_ 0), (1, t_ (.tuple #[sB [], .bool false]))] 14 [] [] (⟨rfl, ((cn_size _ _).trans hK.1), rfl, ((cn_size _ _).trans hN.1), (callP_of en_Open (open_no K N ⟨hK.1, hK.2⟩ ⟨hN.1, hN.2⟩ [] Z (lit_lt (by kernel_rfl)) hZ (by decide) (by omega) ho) _), fun _ _ FF22 MM22 => then_n ?_⟩))
          refine wp_seq ?_
          refine wp_seq (rg_c FF22 MM22 [] 14 [54] [] (fun _ _ FF23 MM23 => then_n ?_))
          refine wp_cond_false (FF23.ev 0 rfl) ?_
          refine wp_skip ?_
          refine then_n ?_
          refine wp_seq (rg_c FF23 MM23 [] 12 [13] [] (fun _ _ FF24 MM24 => then_n ?_))
          refine wp_ret ?_
          repeat first | refine then_ret ?_ | refine inb_ret ?_
          exact (ret_tup2 FF24 1 0 Try.results21 rfl rfl (by rw [(opn_real hg).1, (opn_real hg).2, if_neg ho, decide_eq_false ho, Bool.and_false]; exact ⟨rfl, MM24.turnB [(b, oC #[.bool false, t, .map (some m1), .map (some m2), .map (some m3), iN f] 82)] H (List.forall_mem_cons.2 ⟨(List.mem_of_getElem? (i := 2) rfl), (fun _ h => (nomatch h))⟩) (List.forall_mem_cons.2 ⟨.inr ⟨_, (List.mem_of_getElem? (i := 0) rfl), rfl⟩, (List.forall_mem_cons.2 ⟨.inl (List.mem_of_getElem? (i := 3) rfl), (List.forall_mem_cons.2 ⟨.inl (List.mem_of_getElem? (i := 4) rfl), (fun _ h => (nomatch h))⟩)⟩)⟩)⟩))
      | true =>
        refine wp_seq (rg_c FF17 MM17 [(3, l_ 2 (.bool true))] 12 [39] [] (⟨rfl, rfl, fun _ _ FF25 MM25 => then_n ?_⟩))
        refine wp_cond_true (FF25.ev 0 rfl) ?_
        refine wp_seq (rg_c FF25 MM25 [(1, t_ (sB pl))] 10 [11] [] (⟨(callP_of en_clone (clone_any pl (hp_.1 _ (mget_mem hn)).2.1 ((hp_.1 _ (mget_mem hn)).2.2)) _), fun _ _ FF26 MM26 => then_n ?_⟩))
        refine wp_ret ?_
        repeat first | refine then_ret ?_ | refine inb_ret ?_
        exact (ret_tup2 FF26 1 0 Try.results21 rfl rfl (by rw [(opn_ideal hg).1, (opn_ideal hg).2]; exact ⟨rfl, MM26.turnB [(b, oC #[.bool true, t, .map (some m1), .map (some m2), .map (some m3), iN f] 82)] H (List.forall_mem_cons.2 ⟨(List.mem_of_getElem? (i := 2) rfl), (fun _ h => (nomatch h))⟩) (List.forall_mem_cons.2 ⟨.inr ⟨_, (List.mem_of_getElem? (i := 0) rfl), rfl⟩, (List.forall_mem_cons.2 ⟨.inl (List.mem_of_getElem? (i := 3) rfl), (List.forall_mem_cons.2 ⟨.inl (List.mem_of_getElem? (i := 4) rfl), (fun _ h => (nomatch h))⟩)⟩)⟩)⟩))
set_option maxRecDepth 100000 in
theorem pforged_any {b m1 m2 m3 : Nat} {i : Bool} {t : Value} {f : Nat} (w0 : World) (H : Has w0 [(b, oC #[.bool i, t, .map (some m1), .map (some m2), .map (some m3), iN f] 82)]) (hD : Distinct [(b, oC #[.bool i, t, .map (some m1), .map (some m2), .map (some m3), iN f] 82)]) :
    Calls Try.prog 23 #[pT b] w0 fun e w' => e = .returned (iN f) ∧ TurnB [] w0 w' := by
  refine enter_fr Try.func23 rfl Try.ntmps23 (by simp) fun ac (FF : Fr 9 ac [(0, pT b)]) => ?_
  have MM : MemS (fun k => k < w0.heap.size ∧ ∀ x ∈ [(b, oC #[.bool i, t, .map (some m1), .map (some m2), .map (some m3), iN f] 82)], x.1 ≠ k) w0 w0 [(b, oC #[.bool i, t, .map (some m1), .map (some m2), .map (some m3), iN f] 82)] [] := MemS.startN H hD
  refine wp_seq (rg_c FF MM [] 3 [] [] (fun _ _ FF1 MM1 => then_n ?_))
  refine wp_seq ?_
  refine wp_seq (rg_c FF1 MM1 [(1, f_ (.bool false))] 3 [4] [] (⟨(ptrSome_ok (t := 25) (t' := 25) (x := (.tmp 3)) (y := (.const (.pointer none))) (by kernel_rfl) rfl rfl Try.underlying25), fun _ _ FF2 MM2 => then_n ?_⟩))
  refine wp_cond_false (FF2.ev 0 rfl) ?_
  refine wp_skip ?_
  refine then_n ?_
  refine wp_seq (rg_c FF2 MM2 [(3, l_ 0 (iN f))] 3 [] [] (⟨rfl, rfl, fun _ _ FF3 MM3 => then_n ?_⟩))
  refine wp_ret ?_
  repeat first | refine then_ret ?_ | refine inb_ret ?_
  exact (ret_fr FF3 0 Try.results23 rfl ⟨rfl, MM3.turnB [] H (fun _ h => (nomatch h)) (List.forall_mem_cons.2 ⟨.inl (List.mem_of_getElem? (i := 0) rfl), (fun _ h => (nomatch h))⟩)⟩)
/-- Blocks that are new since base, each apart from the others. -/
def NewAll (base : Nat) (w : World) (K : Blks) : Prop := Has w K ∧ Distinct K ∧ ∀ x ∈ K, base ≤ x.1
theorem newAll {w0 w : World} {L : Blks} {R : List Row} (M : MemS (fun k => k < w0.heap.size) w0 w L R) {is : List Nat} {K : Blks} (hn : apartB is = true) (hK : atL L is = some K) : NewAll w0.heap.size w K :=
  ⟨atL_has hK M.hasL, distinct_at M.distinct hn hK, fun x hx => by
    obtain ⟨i, _, hi⟩ := atL_mem hK x hx
    exact Nat.not_lt.1 (M.base i x hi)⟩
set_option maxRecDepth 100000 in
theorem pnew_any (i : Bool) (tp : Option Addr) (w0 : World) : Calls Try.prog 9 #[.bool i, .pointer tp] w0 fun e w' => ∃ b m1 m2 m3 : Nat, e = .returned (pT b) ∧ Below w0.heap.size w0 w' ∧ NewAll w0.heap.size w' [(b, BB i (.pointer tp) m1 m2 m3 0), (m1, KM []), (m2, KM []), (m3, NM [])] := by
  refine enter_fr Try.func9 rfl Try.ntmps9 (by simp) fun ac (FF : Fr 12 ac [(0, .bool i), (1, .pointer tp)]) => ?_
  have MM := MemS.start w0
  refine wp_seq (rg_c FF MM [] 5 [] [] (fun _ _ FF1 MM1 => then_n ?_))
  refine wp_seq (wp_region_list ?_)
  refine rp_c 3 FF1 MM1 [(2, n_ (.map none) (KM []))] 8 [] [0, 1] (⟨(makeMap_ok (t := 78) (by kernel_rfl)), fun m1 => fun _ _ FF2 MM2 => ?_⟩)
  refine rp_c 1 FF2 MM2 [(0, n_ (.map none) (KM []))] 9 [] [] (⟨(makeMap_ok (t := 79) (by kernel_rfl)), fun m2 => fun _ _ FF3 MM3 => ?_⟩)
  refine rp_c 1 FF3 MM3 [(0, n_ (.map none) (NM []))] 9 [9] [] (⟨(makeMap_ok (t := 80) (by kernel_rfl)), fun m3 => fun _ _ FF4 MM4 => ?_⟩)
  refine rp_c 2 FF4 MM4 [(0, t_ (aG #[.bool i, .pointer tp, .map (some m1), .map (some m2), .map (some m3), iN 0]))] 5 [11] [] (⟨(by kernel_rfl), fun b => fun _ _ FF5 MM5 => ?_⟩)
  refine rp_c 1 FF5 MM5 [] 5 [] [] (fun _ _ FF6 MM6 => ?_)
  refine wpl_nil (then_n ?_)
  refine wp_ret ?_
  repeat first | refine then_ret ?_ | refine inb_ret ?_
  exact (ret_fr FF6 0 Try.results9 rfl ⟨b, m1, m2, m3, rfl, MM6.below, newAll MM6 (is := [0, 3, 2, 1]) rfl rfl⟩)
end Go.Proofs.Ytniplfjnpjihoaa
namespace Go.Proofs.Ytniplfjnpjihoaa
open Go.RowKit
theorem en_keyL : Enters Try.prog 11 := fun args w => by simp [go_sem]
theorem en_nonceL : Enters Try.prog 12 := fun args w => by simp [go_sem]
theorem en_idL : Enters Try.prog 16 := fun args w => by simp [go_sem]
theorem en_fairL : Enters Try.prog 7 := fun args w => by simp [go_sem]
theorem en_wakesL : Enters Try.prog 8 := fun args w => by simp [go_sem]
/-- The laws' keys, nonces, names by small numbers. -/
def keyW (n : Nat) : List Nat := [n % 4, 7, 0, 0, 0, 0, 0, 0, 0, 0, 0, 0, 0, 0, 0, 0, 0, 0, 0, 0, 0, 0, 0, 0, 0, 0, 0, 0, 0, 0, 0, 0]
def nonW (n : Nat) : List Nat := [n % 3, 0, 0, 0, 0, 0, 0, 0, 0, 0, 0, 0]
def idW (n : Nat) : List Nat := [n % 4, 0, 0, 0, 0, 0, 0, 0, 0, 0, 0, 0, 0, 0, 0, 0]
theorem cons_ltK {a : Nat} {X : List Nat} (ha : a < 256) (hX : ∀ i, X.getD i 0 < 256) : ∀ i, (a :: X).getD i 0 < 256
  | 0 => ha
  | i + 1 => hX i
theorem keyW_ok (n : Nat) : BytesK 32 (keyW n) := ⟨rfl, cons_ltK (by omega) (lit_lt (by kernel_rfl))⟩
theorem nonW_ok (n : Nat) : BytesK 12 (nonW n) := ⟨rfl, cons_ltK (by omega) (lit_lt (by kernel_rfl))⟩
theorem idW_ok (n : Nat) : BytesK 16 (idW n) := ⟨rfl, cons_ltK (by omega) (lit_lt (by kernel_rfl))⟩
set_option maxRecDepth 100000 in
theorem keyL_any (n : Nat) (w0 : World) :
    Calls Try.prog 11 #[iB n] w0 fun e w' => e = .returned (.agg (cn .u8 (keyW n))) ∧ Below w0.heap.size w0 w' := by
  refine enter_fr Try.func11 rfl Try.ntmps11 (by simp) fun ac (FF : Fr 6 ac [(0, iB n)]) => ?_
  have MM := MemS.start w0
  refine wp_seq (rg_c FF MM [(0, s_ 0 (.cells (cn .u8 (List.replicate 32 0)) 42))] 3 [] [] (⟨(by kernel_rfl), fun br => fun _ _ FF1 MM1 => then_n ?_⟩))
  refine wp_seq (rg_c FF1 MM1 [(2, t_ (.agg (cn .u8 ([n % 4, 7, 0, 0, 0, 0, 0, 0, 0, 0, 0, 0, 0, 0, 0, 0, 0, 0, 0, 0, 0, 0, 0, 0, 0, 0, 0, 0, 0, 0, 0, 0])))), (0, b_ 0)] 0 [2] [] (⟨by decide, (by kernel_rfl), rfl, ((cn_size _ _).trans (List.length_replicate ..)), ((cn_size _ _).trans rfl), (cn_one _ _), rfl, fun _ _ FF2 MM2 => then_n ?_⟩))
  refine wp_ret ?_
  repeat first | refine then_ret ?_ | refine inb_ret ?_
  exact (retc FF2 MM2 (k := 32) (i := 0) (j := 0) Try.results11 rfl rfl Try.underlying42 rfl (by kernel_rfl) ((cn_size _ _).trans rfl) ⟨rfl, MM2.below⟩)
set_option maxRecDepth 100000 in
theorem nonceL_any (n : Nat) (w0 : World) :
    Calls Try.prog 12 #[iB n] w0 fun e w' => e = .returned (.agg (cn .u8 (nonW n))) ∧ Below w0.heap.size w0 w' := by
  refine enter_fr Try.func12 rfl Try.ntmps12 (by simp) fun ac (FF : Fr 6 ac [(0, iB n)]) => ?_
  have MM := MemS.start w0
  refine wp_seq (rg_c FF MM [(0, s_ 0 (.cells (cn .u8 (List.replicate 12 0)) 45))] 3 [] [] (⟨(by kernel_rfl), fun br => fun _ _ FF1 MM1 => then_n ?_⟩))
  refine wp_seq (rg_c FF1 MM1 [(2, t_ (.agg (cn .u8 ([n % 3, 0, 0, 0, 0, 0, 0, 0, 0, 0, 0, 0])))), (0, b_ 0)] 0 [2] [] (⟨by decide, (by kernel_rfl), rfl, ((cn_size _ _).trans (List.length_replicate ..)), ((cn_size _ _).trans rfl), (cn_one _ _), rfl, fun _ _ FF2 MM2 => then_n ?_⟩))
  refine wp_ret ?_
  repeat first | refine then_ret ?_ | refine inb_ret ?_
  exact (retc FF2 MM2 (k := 12) (i := 0) (j := 0) Try.results12 rfl rfl Try.underlying45 rfl (by kernel_rfl) ((cn_size _ _).trans rfl) ⟨rfl, MM2.below⟩)
set_option maxRecDepth 100000 in
theorem idL_any (n : Nat) (w0 : World) :
    Calls Try.prog 16 #[iB n] w0 fun e w' => e = .returned (.agg (cn .u8 (idW n))) ∧ Below w0.heap.size w0 w' := by
  refine enter_fr Try.func16 rfl Try.ntmps16 (by simp) fun ac (FF : Fr 6 ac [(0, iB n)]) => ?_
  have MM := MemS.start w0
  refine wp_seq (rg_c FF MM [(0, s_ 0 (.cells (cn .u8 (List.replicate 16 0)) 51))] 3 [] [] (⟨(by kernel_rfl), fun br => fun _ _ FF1 MM1 => then_n ?_⟩))
  refine wp_seq (rg_c FF1 MM1 [(2, t_ (.agg (cn .u8 ([n % 4, 0, 0, 0, 0, 0, 0, 0, 0, 0, 0, 0, 0, 0, 0, 0])))), (0, b_ 0)] 0 [2] [] (⟨by decide, (by kernel_rfl), rfl, ((cn_size _ _).trans (List.length_replicate ..)), ((cn_size _ _).trans rfl), (cn_one _ _), rfl, fun _ _ FF2 MM2 => then_n ?_⟩))
  refine wp_ret ?_
  repeat first | refine then_ret ?_ | refine inb_ret ?_
  exact (retc FF2 MM2 (k := 16) (i := 0) (j := 0) Try.results16 rfl rfl Try.underlying51 rfl (by kernel_rfl) ((cn_size _ _).trans rfl) ⟨rfl, MM2.below⟩)
/-- In the real game what stands for a key is it. -/
def OwnI (i : Bool) (ks : Pairs) : Prop := i = false → ∀ p ∈ ks, p.2 = p.1
theorem ownI_nil (i : Bool) : OwnI i [] := fun _ _ h => (nomatch h)
theorem ownI_true (ks : Pairs) : OwnI true ks := fun h => (nomatch h)
theorem OwnI.share {i : Bool} {n : Nat} {K : List Nat} {ks : Pairs} (h : OwnI i ks) (Y : List Nat) : OwnI i (shareK i n K ks Y) := fun hi p hp => by
  cases hg : mget K ks with
  | some v => rw [(share_yes hg Y).1] at hp; exact h hi p hp
  | none =>
    rw [(share_no hg Y).1, List.mem_append] at hp
    rcases hp with hp | hp
    · exact h hi p hp
    · rw [List.mem_singleton] at hp
      subst hp
      subst hi
      rfl
theorem OwnI.get {i : Bool} {K : List Nat} {ks : Pairs} (h : OwnI i ks) : i = false → ∀ own, mget K ks = some own → own = K := fun hi _ hg => h hi _ (mget_mem hg)
theorem own_real {K : List Nat} {ks : Pairs} (h : OwnI false ks) : ownN K ks = K := by
  unfold ownN
  cases hg : mget K ks with
  | none => rfl
  | some v => exact h.get rfl v hg
theorem ids_own {i : Bool} {K : List Nat} {l : Pairs} (h : OwnI i l) : ownN K (idsP i l) = ownN K l := by
  cases i with
  | true => rfl
  | false => exact (own_real h).symm
theorem ids_nil (i : Bool) : idsP i [] = [] := by cases i <;> rfl
theorem real_open (K N : List Nat) (ks : Pairs) (lk : Option (List Nat)) (X : List Nat) : openN false K N ks lk (sealN K N [] X) = some X := by
  unfold openN
  rw [if_neg (by simp), if_pos (seal_opens K N [] X).1, (seal_opens K N [] X).2]
theorem real_F1 {K N own : List Nat} {ks : Pairs} (h : mget K ks = some own) (X : List Nat) : openF false K N ks none (sealN K N [] X) = 1 := if_pos (by rw [h]; simp [(seal_opens K N [] X).1])
theorem ideal_F (K N : List Nat) (ks : Pairs) (lk : Option (List Nat)) (Z : List Nat) : openF true K N ks lk Z = 0 := if_neg (by simp)
theorem okQ_nil : OkQ [] := ⟨fun _ h => (nomatch h), List.Pairwise.nil⟩
theorem OkQ.note {i : Bool} {K N X : List Nat} {ks : Pairs} {pn : Notes} (h : OkQ pn) (hK : BytesK 32 K) (hN : BytesK 12 N) (hX : ∀ i, X.getD i 0 < 256) (hl : X.length ≤ 900000) : OkQ (noteP i K N ks X pn) := by
  unfold noteP
  split
  · refine ⟨fun p hp => ?_, h.2.put _ _⟩
    rcases mem_mput hp with rfl | hp
    · exact ⟨⟨hK, hN, boxN_lt i K N ks hX, by show (boxN i K N ks X).length ≤ 1000000; rw [boxN_len]; omega⟩, hX, by show X.length ≤ 1000000; omega⟩
    · exact h.1 p hp
  · exact h
/-- A book that was made. -/
def NewBk (i : Bool) (tp : Option Addr) (w w' : World) (v : Value) : Prop := ∃ b m1 m2 m3 : Nat, v = pT b ∧ Below w.heap.size w w' ∧ NewAll w.heap.size w' [(b, BB i (.pointer tp) m1 m2 m3 0), (m1, KM []), (m2, KM []), (m3, NM [])]
theorem pnew_E (i : Bool) (tp : Option Addr) (w0 : World) : Calls Try.prog 9 #[.bool i, .pointer tp] w0 fun e w' => ∃ v, e = .returned v ∧ NewBk i tp w0 w' v :=
  (pnew_any i tp w0).mono fun _ _ ⟨b, m1, m2, m3, h1, h2, h3⟩ => ⟨_, h1, b, m1, m2, m3, rfl, h2, h3⟩
/-- A tape that was made. -/
def NewT (X : List Nat) (w w' : World) (v : Value) : Prop := ∃ g, v = pT g ∧ Below w.heap.size w w' ∧ w.heap.size ≤ g ∧ w'.heap[g]? = some (TB X 0)
set_option maxRecDepth 100000 in
theorem tnew_any (X : List Nat) (w0 : World) : Calls Try.prog 10 #[sB X] w0 fun e w' => ∃ v, e = .returned v ∧ NewT X w0 w' v := by
  refine enter_fr Try.func10 rfl Try.ntmps10 (by simp) fun ac (FF : Fr 6 ac [(0, sB X)]) => ?_
  have MM := MemS.start w0
  refine wp_seq (rg_c FF MM [] 3 [] [] (fun _ _ FF1 MM1 => then_n ?_))
  refine wp_seq (rg_c FF1 MM1 [(1, t_ (aG #[sB X, iN 0]))] 0 [2] [] (⟨(by kernel_rfl), fun bt => fun _ _ FF2 MM2 => then_n ?_⟩))
  refine wp_ret ?_
  repeat first | refine then_ret ?_ | refine inb_ret ?_
  exact (ret_fr FF2 0 Try.results10 rfl ⟨_, rfl, bt, rfl, MM2.below, MM2.fresh 0 rfl, MM2.get 0 rfl⟩)
end Go.Proofs.Ytniplfjnpjihoaa
namespace Go.Proofs.Ytniplfjnpjihoaa
open Go.RowKit
def wK : List Nat := [1, 0, 0, 0, 0, 0, 0, 0, 0, 0, 0, 0, 0, 0, 0, 0, 0, 0, 0, 0, 0, 0, 0, 0, 0, 0, 0, 0, 0, 0, 0, 0]
def wT : List Nat := [97, 98, 99, 0, 0, 0, 0, 0, 0, 0, 0, 0, 0, 0, 0, 0, 0, 0, 0, 0, 0, 0, 0, 0, 0, 0, 0, 0, 0, 0, 0, 0]
def wL : List Nat := [2, 0, 0, 0, 0, 0, 0, 0, 0, 0, 0, 0, 0, 0, 0, 0, 0, 0, 0, 0, 0, 0, 0, 0, 0, 0, 0, 0, 0, 0, 0, 0]
def wN : List Nat := [2, 0, 0, 0, 0, 0, 0, 0, 0, 0, 0, 0]
theorem wK_ok : BytesK 32 wK := ⟨rfl, (lit_lt (by kernel_rfl))⟩
theorem wT_ok : BytesK 32 wT := ⟨rfl, (lit_lt (by kernel_rfl))⟩
theorem wL_ok : BytesK 32 wL := ⟨rfl, (lit_lt (by kernel_rfl))⟩
theorem wN_ok : BytesK 12 wN := ⟨rfl, (lit_lt (by kernel_rfl))⟩
theorem wKK_ok : OkP 32 [(wK, wK)] := ⟨fun p hp => by rw [List.mem_singleton.1 hp]; exact ⟨wK_ok, wK_ok⟩, List.pairwise_singleton _ _⟩
theorem wKT_ok : OkP 32 [(wK, wT)] := ⟨fun p hp => by rw [List.mem_singleton.1 hp]; exact ⟨wK_ok, wT_ok⟩, List.pairwise_singleton _ _⟩
theorem wake1 : shareK false 32 wK [] [] = [(wK, wK)] := by decide
theorem wake2 : shareK true 32 wK [] [97, 98, 99] = [(wK, wT)] := by decide
theorem wake3 : boxN true wK wN [(wK, wT)] [121] = sealN wT wN [] [0] := box_ideal (own := wT) (by decide) [121]
theorem wake4 : noteP true wK wN [(wK, wT)] [121] [] = [((wK, wN, sealN wT wN [] [0]), [121])] := by rw [noteP_yes (own := wT) (by decide), wake3]; rfl
theorem wake5 : OkQ [((wK, wN, sealN wT wN [] [0]), [121])] := wake4 ▸ okQ_nil.note wK_ok wN_ok (lit_lt (by kernel_rfl)) (by decide)
theorem wake6 : openN false wK wN [(wK, wK)] (mget (wK, wN, sealN wK wN [] [120]) []) (sealN wK wN [] [120]) = some [120] := real_open _ _ _ _ _
theorem wake7 : 0 + openF false wK wN [(wK, wK)] (mget (wK, wN, sealN wK wN [] [120]) []) (sealN wK wN [] [120]) = 1 := by
  rw [mget, real_F1 (own := wK) (by decide)]
theorem wake8 (Z : List Nat) : openN true wK wN [(wK, wT)] (mget (wK, wN, Z) []) Z = none := (opn_ideal (own := wT) (by decide)).1
theorem wake9 (lk : Option (List Nat)) (Z : List Nat) : 0 + openF true wK wN [(wK, wT)] lk Z = 0 := congrArg (0 + ·) (ideal_F _ _ _ _ _)
theorem wakeA : openN true wK wN [(wK, wT)] (mget (wK, wN, sealN wT wN [] [0]) [((wK, wN, sealN wT wN [] [0]), [121])]) (sealN wT wN [] [0]) = some [121] := (opn_ideal (own := wT) (by decide)).1.trans (if_pos rfl)
theorem wakeB : ownN wK [(wK, wT)] = wT := by decide
theorem wakeC : ownN wK [(wK, wK)] = wK := by decide
theorem wakeD : (mget wK [(wK, wK)]).isSome = true := by decide
theorem wakeE : (mget wL [(wK, wK)]).isSome = false := by decide
set_option maxRecDepth 100000 in
theorem wakes_any  (w0 : World) :
    Calls Try.prog 8 #[] w0 fun e w' => e = .returned (.bool true) ∧ Below w0.heap.size w0 w' := by
  refine enter_fr Try.func8 rfl Try.ntmps8 (by simp) fun ac (FF : Fr 119 ac []) => ?_
  have MM := MemS.start w0
  refine wp_seq (rg_c FF MM [] 1 [] [] (fun _ _ FF1 MM1 => then_n ?_))
  refine wp_seq (rg_c FF1 MM1 [(0, t_ (.agg (cn .u8 wK))), (0, t_ (.agg (cn .u8 wN))), (0, s_ 0 (.cells (cn .u8 (List.replicate 32 0)) 42)), (0, s_ 0 (.cells (cn .u8 (List.replicate 12 0)) 45)), (0, b_ 1), (0, b_ 0)] 3 [] [] (⟨(Eq.trans (show _ = some (cn .u8 ([1, 0, 0, 0, 0, 0, 0, 0, 0, 0, 0, 0, 0, 0, 0, 0, 0, 0, 0, 0, 0, 0, 0, 0, 0, 0, 0, 0, 0, 0, 0, 0])) by kernel_rfl) (congrArg some (Value.agg.inj rfl))), (Eq.trans (show _ = some (cn .u8 ([2, 0, 0, 0, 0, 0, 0, 0, 0, 0, 0, 0])) by kernel_rfl) (congrArg some (Value.agg.inj rfl))), (by kernel_rfl), fun bk => ⟨(by kernel_rfl), fun bn => ⟨rfl, ((cn_size _ _).trans (List.length_replicate ..)), ((cn_size _ _).trans wK_ok.1), (cn_one _ _), rfl, rfl, ((cn_size _ _).trans (List.length_replicate ..)), ((cn_size _ _).trans wN_ok.1), (cn_one _ _), rfl, fun _ _ FF2 MM2 => then_n ?_⟩⟩⟩))
  refine wp_seq (wp_region_list ?_)
  refine st_callE [2, 1, 0, 15] FF2 (d := 15) (mk := fun v => v) en_pnew rfl rfl (pnew_E false none _) rfl (by kernel_rfl) (by decide) fun ac4 wd4 lv3 FF4 hr5 => ?_
  obtain ⟨r, r1, r2, r3, rfl, hB_r, hN_r⟩ := hr5
  have MM6 : MemS (fun k => k < w0.heap.size) w0 wd4 [(r, oC #[.bool false, .pointer none, .map (some r1), .map (some r2), .map (some r3), iN 0] 82), (r1, KM []), (r2, KM []), (r3, NM []), (bn, .cells (cn .u8 wN) 45), (bk, .cells (cn .u8 wK) 42)] [] := MM2.addAll hB_r hN_r.1 hN_r.2.1 hN_r.2.2
  refine st_callE [15, 2, 1, 0, 16] FF4 (d := 16) (mk := fun v => v) en_tnew rfl rfl (tnew_any ([97, 98, 99]) _) rfl (by kernel_rfl) (by decide) fun ac8 wd8 lv7 FF8 hr9 => ?_
  obtain ⟨gt, rfl, hB_gt, hf_gt, hb_gt⟩ := hr9
  have MM10 := MM6.keep hB_gt
  have MM11 : MemS (fun k => k < w0.heap.size) w0 wd8 [(gt, oC #[sB ([97, 98, 99]), iN 0] 84), (r, oC #[.bool false, .pointer none, .map (some r1), .map (some r2), .map (some r3), iN 0] 82), (r1, KM []), (r2, KM []), (r3, NM []), (bn, .cells (cn .u8 wN) 45), (bk, .cells (cn .u8 wK) 42)] [] := MM6.addFresh MM10 hb_gt hf_gt
  refine st_callE [15, 2, 1, 0, 17] FF8 (d := 17) (mk := fun v => v) en_pnew rfl rfl (pnew_E true (some ⟨gt, 0, none⟩) _) rfl (by kernel_rfl) (by decide) fun ac13 wd13 lv12 FF13 hr14 => ?_
  obtain ⟨z, z1, z2, z3, rfl, hB_z, hN_z⟩ := hr14
  have MM15 : MemS (fun k => k < w0.heap.size) w0 wd13 [(z, oC #[.bool true, pT gt, .map (some z1), .map (some z2), .map (some z3), iN 0] 82), (z1, KM []), (z2, KM []), (z3, NM []), (gt, oC #[sB ([97, 98, 99]), iN 0] 84), (r, oC #[.bool false, .pointer none, .map (some r1), .map (some r2), .map (some r3), iN 0] 82), (r1, KM []), (r2, KM []), (r3, NM []), (bn, .cells (cn .u8 wN) 45), (bk, .cells (cn .u8 wK) 42)] [] := MM11.addAll hB_z hN_z.1 hN_z.2.1 hN_z.2.2
  refine rp_c 2 FF13 MM15 [] 5 [] [] (fun _ _ FF16 MM16 => ?_)
  refine wpl_nil (then_n ?_)
  refine wp_seq ?_
  refine wp_seq (rg_c FF16 MM16 [(1, f_ (.bool false)), (2, f_ (.bool false))] 5 [23] [] (⟨(ptrSome_ok (t := 25) (t' := 25) (x := (.tmp 18)) (y := (.const (.pointer none))) (by kernel_rfl) rfl rfl Try.underlying25), (ptrSome_ok (t := 25) (t' := 25) (x := (.tmp 21)) (y := (.const (.pointer none))) (by kernel_rfl) rfl rfl Try.underlying25), fun _ _ FF17 MM17 => then_n ?_⟩))
  refine wp_cond_false (FF17.ev 0 rfl) ?_
  refine wp_skip ?_
  refine then_n ?_
  refine wp_seq (rg_c FF17 MM17 [(1, b_ 10), (0, c_ (.tuple #[]) [(6, KM ([(wK, wK)]))])] 5 [] [] (⟨rfl, ((cn_size _ _).trans wK_ok.1), (callU_B [5, 6] en_pshare rfl rfl (fun w Hw => by have h0 := pshare_real (K := wK) (okP_nil _) ⟨wK_ok.1, wK_ok.2⟩ w Hw (distinct_names rfl (distinct_at MM17.distinct (is := [5, 6]) rfl rfl)); rw [wake1] at h0; exact h0)), fun _ _ FF18 MM18 => then_n ?_⟩))
  refine wp_seq (rg_c FF18 MM18 [(1, b_ 10), (0, c_ (.tuple #[]) [(1, KM ([(wK, wT)])), (4, oC #[sB (([97, 98, 99]).drop (shareU true 32 wK [])), iN (0 + shareU true 32 wK [])] 84)])] 5 [] [] (⟨rfl, ((cn_size _ _).trans wK_ok.1), (callU_B [0, 1, 4] en_pshare rfl rfl (fun w Hw => by have h0 := pshare_any (K := wK) (okP_nil _) ⟨wK_ok.1, wK_ok.2⟩ (lit_lt (by kernel_rfl)) (by decide) w Hw (distinct_names rfl (distinct_at MM18.distinct (is := [0, 1, 4]) rfl rfl)); rw [wake2] at h0; exact h0)), fun _ _ FF19 MM19 => then_n ?_⟩))
  refine wp_seq (rg_c FF19 MM19 [(0, b_ 10), (0, b_ 9), (0, t_ (sB (sealN wK wN [] [120])))] 6 [] [] (⟨rfl, ((cn_size _ _).trans wK_ok.1), rfl, ((cn_size _ _).trans wN_ok.1), (callP_of en_Seal (seal_any wK wN ⟨wK_ok.1, wK_ok.2⟩ ⟨wN_ok.1, wN_ok.2⟩ [] [120] (lit_lt (by kernel_rfl)) (lit_lt (by kernel_rfl)) (by decide) (by decide)) _), fun _ _ FF20 MM20 => then_n ?_⟩))
  refine wp_seq (rg_c FF20 MM20 [(1, b_ 10), (0, b_ 9), (1, c_ (.tuple #[sB [120], .bool true]) [(5, oC #[.bool false, .pointer none, .map (some r1), .map (some r2), .map (some r3), iN 1] 82)])] 8 [] [] (⟨rfl, ((cn_size _ _).trans wK_ok.1), rfl, ((cn_size _ _).trans wN_ok.1), (callU_B [5, 6, 8] en_popen rfl rfl (fun w Hw => by have h0 := popen_any (K := wK) wKK_ok ⟨wK_ok.1, wK_ok.2⟩ okQ_nil (N := wN) (Z := (sealN wK wN [] [120])) ⟨wN_ok.1, wN_ok.2⟩ (sealN_lt _ _ _ (lit_lt (by kernel_rfl))) (by rw [sealN_len]; decide) (by omega) w Hw (distinct_names rfl (distinct_at MM20.distinct (is := [5, 6, 8]) rfl rfl)); rw [wake6, wake7] at h0; exact h0)), fun _ _ FF21 MM21 => then_n ?_⟩))
  refine wp_seq (rg_c FF21 MM21 [(1, b_ 10), (0, b_ 9), (1, c_ (.tuple #[sB [], .bool false]) [(0, oC #[.bool true, pT gt, .map (some z1), .map (some z2), .map (some z3), iN 0] 82)])] 8 [9] [] (⟨rfl, ((cn_size _ _).trans wK_ok.1), rfl, ((cn_size _ _).trans wN_ok.1), (callU_B [0, 1, 3] en_popen rfl rfl (fun w Hw => by have h0 := popen_any (K := wK) wKT_ok ⟨wK_ok.1, wK_ok.2⟩ okQ_nil (N := wN) (Z := (sealN wK wN [] [120])) ⟨wN_ok.1, wN_ok.2⟩ (sealN_lt _ _ _ (lit_lt (by kernel_rfl))) (by rw [sealN_len]; decide) (by omega) w Hw (distinct_names rfl (distinct_at MM21.distinct (is := [0, 1, 3]) rfl rfl)); rw [wake8, wake9] at h0; exact h0)), fun _ _ FF22 MM22 => then_n ?_⟩))
  refine wp_seq (rg_c FF22 MM22 [(1, b_ 10), (0, b_ 9), (0, c_ (sB (sealN wT wN [] [0])) [(3, NM ([((wK, wN, sealN wT wN [] [0]), [121])]))])] 11 [] [] (⟨rfl, ((cn_size _ _).trans wK_ok.1), rfl, ((cn_size _ _).trans wN_ok.1), (callU_B [0, 1, 3] en_pseal rfl rfl (fun w Hw => by have h0 := pseal_any (K := wK) wKT_ok ⟨wK_ok.1, wK_ok.2⟩ okQ_nil (N := wN) (Y := [121]) ⟨wN_ok.1, wN_ok.2⟩ (lit_lt (by kernel_rfl)) (by decide) (ownI_true _).get w Hw (distinct_names rfl (distinct_at MM22.distinct (is := [0, 1, 3]) rfl rfl)); rw [wake3, wake4] at h0; exact h0)), fun _ _ FF23 MM23 => then_n ?_⟩))
  refine wp_seq (rg_c FF23 MM23 [(1, b_ 10), (0, b_ 9), (1, c_ (.tuple #[sB [121], .bool true]) [(0, oC #[.bool true, pT gt, .map (some z1), .map (some z2), .map (some z3), iN 0] 82)])] 13 [] [] (⟨rfl, ((cn_size _ _).trans wK_ok.1), rfl, ((cn_size _ _).trans wN_ok.1), (callU_B [0, 1, 3] en_popen rfl rfl (fun w Hw => by have h0 := popen_any (K := wK) wKT_ok ⟨wK_ok.1, wK_ok.2⟩ wake5 (N := wN) (Z := (sealN wT wN [] [0])) ⟨wN_ok.1, wN_ok.2⟩ (sealN_lt _ _ _ (lit_lt (by kernel_rfl))) (by rw [sealN_len]; decide) (by omega) w Hw (distinct_names rfl (distinct_at MM23.distinct (is := [0, 1, 3]) rfl rfl)); rw [wakeA, wake9] at h0; exact h0)), fun _ _ FF24 MM24 => then_n ?_⟩))
  refine wp_seq (rg_dc 59 FF24 MM24 [(1, w_ 2), (5, u_ 1 (iN 1)), (0, w_ 2), (7, u_ 1 (iN 0)), (0, w_ 2), (3, w_ 2), (6, t_ (.agg (cn .u8 wT))), (0, b_ 9), (0, t_ (sB (sealN wT wN [] [0]))), (0, w_ 2), (3, b_ 10), (0, u_ 1 (.agg (cn .u8 wT))), (0, t_ (.agg (cn .u8 wT))), (0, f_ (.bool true)), (3, b_ 10), (0, u_ 1 (.agg (cn .u8 wK))), (0, b_ 10), (0, f_ (.bool true)), (3, b_ 10), (0, u_ 1 (.bool true)), (3, t_ (.agg (cn .u8 wL))), (0, u_ 1 (.bool false))] [] 6 [10] [] (⟨rfl, (callP_B [5] en_pforged rfl (fun w Hw => pforged_any w Hw (distinct_names rfl (distinct_at MM24.distinct (is := [5]) rfl rfl)))), by decide, (callP_B [0] en_pforged rfl (fun w Hw => pforged_any w Hw (distinct_names rfl (distinct_at MM24.distinct (is := [0]) rfl rfl)))), by decide, rfl, (Eq.trans (show _ = some (cn .u8 ([97, 98, 99, 0, 0, 0, 0, 0, 0, 0, 0, 0, 0, 0, 0, 0, 0, 0, 0, 0, 0, 0, 0, 0, 0, 0, 0, 0, 0, 0, 0, 0])) by kernel_rfl) (congrArg some (Value.agg.inj rfl))), rfl, ((cn_size _ _).trans wN_ok.1), (callP_of en_Seal (seal_any wT wN ⟨wT_ok.1, wT_ok.2⟩ ⟨wN_ok.1, wN_ok.2⟩ [] [0] (lit_lt (by kernel_rfl)) (lit_lt (by kernel_rfl)) (by decide) (by decide)) _), rfl, rfl, ((cn_size _ _).trans wK_ok.1), (callP_B [0, 1] en_pKey rfl (fun w Hw => by have h0 := pKey_any (K := wK) wKT_ok ⟨wK_ok.1, wK_ok.2⟩ w Hw (distinct_names rfl (distinct_at MM24.distinct (is := [0, 1]) rfl rfl)); rw [wakeB] at h0; exact h0)), (Eq.trans (show _ = some (cn .u8 ([97, 98, 99, 0, 0, 0, 0, 0, 0, 0, 0, 0, 0, 0, 0, 0, 0, 0, 0, 0, 0, 0, 0, 0, 0, 0, 0, 0, 0, 0, 0, 0])) by kernel_rfl) (congrArg some (Value.agg.inj rfl))), (eqA_ok (t := 42) (t' := 42) (e := 5) (m := 32) (k := .u8) (x := (.tmp 97)) (y := (.tmp 98)) (by kernel_rfl) Try.underlying42 Try.underlying5 (by kernel_rfl) (by kernel_rfl) (by kernel_rfl) rfl rfl wT_ok.1 wT_ok.1 (decide_eq_true rfl)), rfl, ((cn_size _ _).trans wK_ok.1), (callP_B [5, 6] en_pKey rfl (fun w Hw => by have h0 := pKey_any (K := wK) wKK_ok ⟨wK_ok.1, wK_ok.2⟩ w Hw (distinct_names rfl (distinct_at MM24.distinct (is := [5, 6]) rfl rfl)); rw [wakeC] at h0; exact h0)), rfl, ((cn_size _ _).trans wK_ok.1), (eqA_ok (t := 42) (t' := 42) (e := 5) (m := 32) (k := .u8) (x := (.tmp 104)) (y := (.tmp 105)) (by kernel_rfl) Try.underlying42 Try.underlying5 (by kernel_rfl) (by kernel_rfl) (by kernel_rfl) rfl rfl wK_ok.1 wK_ok.1 (decide_eq_true rfl)), rfl, ((cn_size _ _).trans wK_ok.1), (callP_B [5, 6] en_pshared rfl (fun w Hw => by have h0 := pshared_any (K := wK) wKK_ok ⟨wK_ok.1, wK_ok.2⟩ w Hw (distinct_names rfl (distinct_at MM24.distinct (is := [5, 6]) rfl rfl)); rw [wakeD] at h0; exact h0)), (Eq.trans (show _ = some (cn .u8 ([2, 0, 0, 0, 0, 0, 0, 0, 0, 0, 0, 0, 0, 0, 0, 0, 0, 0, 0, 0, 0, 0, 0, 0, 0, 0, 0, 0, 0, 0, 0, 0])) by kernel_rfl) (congrArg some (Value.agg.inj rfl))), (callP_B [5, 6] en_pshared rfl (fun w Hw => by have h0 := pshared_any (K := wL) wKK_ok ⟨wL_ok.1, wL_ok.2⟩ w Hw (distinct_names rfl (distinct_at MM24.distinct (is := [5, 6]) rfl rfl)); rw [wakeE] at h0; exact h0)), fun _ _ FF25 MM25 => then_n ?_⟩))
  refine wp_ret ?_
  repeat first | refine then_ret ?_ | refine inb_ret ?_
  exact (ret_fr FF25 0 Try.results8 rfl ⟨rfl, MM25.below⟩)
end Go.Proofs.Ytniplfjnpjihoaa
namespace Go.Proofs.Ytniplfjnpjihoaa
open Go.RowKit
theorem en_kmod : Enters Try.prog 20 := fun args w => by simp [go_sem]
/-- The calls: what they are. -/
def actV (fK : Nat → Int) (fA fR : Nat → Nat) (fW : Nat → List Nat) (fN : Nat → Int) (c : Nat) : Value := match c % 5 with | 0 => .int .i64 (fK (c / 5)) | 1 => iB (fA (c / 5)) | 2 => iB (fR (c / 5)) | 3 => sB (fW (c / 5)) | _ => .int .i64 (fN (c / 5))
theorem actV_0 {fK : Nat → Int} {fA fR : Nat → Nat} {fW : Nat → List Nat} {fN : Nat → Int} (i : Nat) : actV fK fA fR fW fN (i * 5) = .int .i64 (fK i) := by
  unfold actV; rw [show (i * 5) % 5 = 0 by omega, show (i * 5) / 5 = i by omega]; rfl
theorem actV_1 {fK : Nat → Int} {fA fR : Nat → Nat} {fW : Nat → List Nat} {fN : Nat → Int} (i : Nat) : actV fK fA fR fW fN (i * 5 + 1) = iB (fA i) := by
  unfold actV; rw [show (i * 5 + 1) % 5 = 1 by omega, show (i * 5 + 1) / 5 = i by omega]; rfl
theorem actV_2 {fK : Nat → Int} {fA fR : Nat → Nat} {fW : Nat → List Nat} {fN : Nat → Int} (i : Nat) : actV fK fA fR fW fN (i * 5 + 2) = iB (fR i) := by
  unfold actV; rw [show (i * 5 + 2) % 5 = 2 by omega, show (i * 5 + 2) / 5 = i by omega]; rfl
theorem actV_3 {fK : Nat → Int} {fA fR : Nat → Nat} {fW : Nat → List Nat} {fN : Nat → Int} (i : Nat) : actV fK fA fR fW fN (i * 5 + 3) = sB (fW i) := by
  unfold actV; rw [show (i * 5 + 3) % 5 = 3 by omega, show (i * 5 + 3) / 5 = i by omega]; rfl
theorem actV_4 {fK : Nat → Int} {fA fR : Nat → Nat} {fW : Nat → List Nat} {fN : Nat → Int} (i : Nat) : actV fK fA fR fW fN (i * 5 + 4) = .int .i64 (fN i) := by
  unfold actV; rw [show (i * 5 + 4) % 5 = 4 by omega, show (i * 5 + 4) / 5 = i by omega]; rfl
def FairP (n : Nat) (fW : Nat → List Nat) : Prop := n ≤ 25 ∧ ∀ j, j < n → ¬ (fW j).length > 100
set_option maxRecDepth 100000 in
theorem fair_O (O : Blks) (hD : Distinct O) (p : Option Addr) (n cp : Nat) (fK : Nat → Int) (fA fR : Nat → Nat) (fW : Nat → List Nat) (fN : Nat → Int) (hA : RowO O p (n * 5) (actV fK fA fR fW fN)) (b : Bool) (hb : b = true ↔ FairP n fW) (w0 : World) (H : Has w0 O) :
    Calls Try.prog 7 #[.slice p n cp] w0 fun e w' => e = .returned (.bool b) ∧ Below w0.heap.size w0 w' := by
  refine enter_fr Try.func7 rfl Try.ntmps7 (by simp) fun ac (FF : Fr 20 ac [(0, .slice p n cp)]) => ?_
  have MM : MemS (fun k => k < w0.heap.size ∧ ∀ x ∈ O, x.1 ≠ k) w0 w0 O [] := MemS.startN H hD
  refine wp_seq (rg_c FF MM [] 3 [] [] (fun _ _ FF1 MM1 => then_n ?_))
  refine wp_seq ?_
  refine wp_seq (rg_c FF1 MM1 [] 3 [6] [] (fun _ _ FF2 MM2 => then_n ?_))
  by_cases hs6 : n > 25
  · refine wp_cond_true ((FF2.ev 0 rfl).trans (dec_t hs6)) ?_
    have hnf : ¬ FairP n fW := fun h => by have := h.1; omega
    refine wp_seq (rg_c FF2 MM2 [] 3 [] [] (fun _ _ FF3 MM3 => then_n ?_))
    refine wp_ret ?_
    repeat first | refine then_ret ?_ | refine inb_ret ?_
    exact (ret_fr FF3 0 Try.results7 rfl ⟨congrArg (fun b => Ending.returned (Value.bool b)) (Bool.eq_false_iff.2 (fun h => hnf (hb.1 h))).symm, MM3.belowN H (fun _ hx => hx)⟩)
  · refine wp_cond_false ((FF2.ev 0 rfl).trans (dec_f hs6)) ?_
    refine wp_skip ?_
    refine then_n ?_
    refine wp_seq ?_
    refine wp_seq (rg_c FF2 MM2 [] 4 [] [] (fun _ _ FF4 MM4 => then_n ?_))
    refine wp_for2 (fun a' w' => ∃ i : Nat, i ≤ n ∧ (∀ j, j < i → ¬ (fW j).length > 100) ∧ Fr 20 a' [(3, iN i), (0, .slice p n cp)] ∧ MemS (fun k => k < w0.heap.size ∧ ∀ x ∈ O, x.1 ≠ k) w0 w' O []) (fun a' _ => (n - cnt 3 a').toNat) ⟨0, Nat.zero_le _, (fun j hj => absurd hj (Nat.not_lt_zero _)), FF4.pick [0, 2], MM4⟩ ?_
    rintro ac5 wd5 ⟨i, hi, hG, FF5, MM5⟩
    have hc := cnt_of (FF5.get 0 rfl)
    refine rg_c FF5 MM5 [] 4 [10] [] (fun _ _ FF6 MM6 => ?_)
    by_cases hlt : i < n
    · skip
      refine then_n (.inl ⟨(FF6.ev 0 rfl).trans (dec_t hlt), ?_⟩)
      by_cases hgi : (fW i).length > 100
      · skip
        have hnf : ¬ FairP n fW := fun h => h.2 i hlt hgi
        refine wp_seq (rg_c FF6 MM6 [(2, f_ (.pointer (some ⟨gOf p, oOf p + i * 5, none⟩))), (1, f_ (sB (fW i))), (0, t_ (iN ((fW i).length))), (0, w_ 2)] 4 [19] [] (⟨(rowX_addr (x := (.tmp 13)) (y := (.tmp 14)) (k := 5) (i := i) (by kernel_rfl) rfl rfl Try.underlying22 (by kernel_rfl) hA (by omega) (by omega)), (rowX_load (x := (.tmp 16)) (j := i * 5 + 3) (by kernel_rfl) rfl Try.underlying9 rfl hA (fun _ hx => hx) (by omega) (actV_3 i)), (vI (bs_size _)), hgi, fun _ _ FF7 MM7 => then_n ?_⟩))
        refine wp_cond_true (FF7.ev 0 rfl) ?_
        refine wp_seq (rg_c FF7 MM7 [] 4 [] [] (fun _ _ FF8 MM8 => then_n ?_))
        refine wp_ret ?_
        repeat first | refine then_ret ?_ | refine inb_ret ?_
        exact (ret_fr FF8 0 Try.results7 rfl ⟨congrArg (fun b => Ending.returned (Value.bool b)) (Bool.eq_false_iff.2 (fun h => hnf (hb.1 h))).symm, MM8.belowN H (fun _ hx => hx)⟩)
      · skip
        refine wp_seq (rg_c FF6 MM6 [(2, f_ (.pointer (some ⟨gOf p, oOf p + i * 5, none⟩))), (1, f_ (sB (fW i))), (0, t_ (iN ((fW i).length))), (0, w_ 3)] 4 [19] [] (⟨(rowX_addr (x := (.tmp 13)) (y := (.tmp 14)) (k := 5) (i := i) (by kernel_rfl) rfl rfl Try.underlying22 (by kernel_rfl) hA (by omega) (by omega)), (rowX_load (x := (.tmp 16)) (j := i * 5 + 3) (by kernel_rfl) rfl Try.underlying9 rfl hA (fun _ hx => hx) (by omega) (actV_3 i)), (vI (bs_size _)), hgi, fun _ _ FF9 MM9 => then_n ?_⟩))
        refine wp_cond_false (FF9.ev 0 rfl) ?_
        refine wp_skip ?_
        refine inb_n (then_n ?_)
        refine rg_c FF9 MM9 [] 4 [] [] (⟨by omega, fun _ _ FF10 MM10 => ?_⟩)
        have hd := cnt_of (FF10.get 0 rfl)
        refine then_n ⟨⟨i + 1, by omega, (fun j hj => (Nat.lt_or_ge j i).elim (hG j) (fun h => (show i = j by omega) ▸ hgi)), FF10.pick [0, 1], MM10⟩, ?_⟩
        rw [hc, hd]; omega
    · skip
      refine then_n (.inr ⟨(FF6.ev 0 rfl).trans (dec_f hlt), ?_⟩)
      have hF : FairP n fW := ⟨by omega, fun j hj => hG j (by omega)⟩
      refine then_n ?_
      refine wp_seq (rg_c FF6 MM6 [] 4 [] [] (fun _ _ FF11 MM11 => then_n ?_))
      refine wp_ret ?_
      repeat first | refine then_ret ?_ | refine inb_ret ?_
      exact (ret_fr FF11 0 Try.results7 rfl ⟨congrArg (fun b => Ending.returned (Value.bool b)) (hb.2 hF).symm, MM11.belowN H (fun _ hx => hx)⟩)
theorem fair_w (p : Option Addr) (n cp : Nat) (fK : Nat → Int) (fA fR : Nat → Nat) (fW : Nat → List Nat) (fN : Nat → Int) (b : Bool) (hb : b = true ↔ FairP n fW) (w : World) (hA : RowIn w p (n * 5) (actV fK fA fR fW fN)) : Calls Try.prog 7 #[.slice p n cp] w fun e w' => e = .returned (.bool b) ∧ Below w.heap.size w w' := by
  obtain ⟨O, h1, h2, h3, _⟩ := rowX_O (O := []) hA (fun i y hy => by simp at hy) .nil
  exact fair_O O (distinct_of h2) p n cp fK fA fR fW fN h3 b hb w h1
/-- A whole number as one from 0 below m. -/
def modZ (z : Int) (m : Nat) : Nat := if 0 ≤ z then z.toNat % m else (18446744073709551616 - (-z).toNat) % m
theorem modZ_lt (z : Int) {m : Nat} (h : 0 < m) : modZ z m < m := by unfold modZ; split <;> exact Nat.mod_lt _ h
set_option maxRecDepth 100000 in
theorem kmod_pos (n m : Nat) (hn : n < 9223372036854775808) (h1 : 0 < m) (hm : m ≤ 65536) (w0 : World) :
    Calls Try.prog 20 #[iN n, iN m] w0 fun e w' => e = .returned (iN ((n) % m)) ∧ Below w0.heap.size w0 w' := by
  refine enter_fr Try.func20 rfl Try.ntmps20 (by simp) fun ac (FF : Fr 11 ac [(0, iN n), (1, iN m)]) => ?_
  have MM := MemS.start w0
  refine wp_seq (rg_c FF MM [] 5 [] [] (fun _ _ FF1 MM1 => then_n ?_))
  refine wp_seq (rg_c FF1 MM1 [(1, w_ 1), (1, w_ 1), (1, w_ 1)] 0 [4] [] (⟨(by have := hn; omega), (by have := hm; omega), (by have := hn; have := hm; omega), (Nat.lt_trans (Nat.mod_lt _ h1) (by omega)), fun _ _ FF2 MM2 => then_n ?_⟩))
  refine wp_ret ?_
  repeat first | refine then_ret ?_ | refine inb_ret ?_
  exact (ret_fr FF2 0 Try.results20 rfl ⟨rfl, MM2.below⟩)
set_option maxRecDepth 100000 in
theorem kmod_neg (n m : Nat) (h0 : 0 < n) (hn : n ≤ 9223372036854775808) (h1 : 0 < m) (hm : m ≤ 65536) (w0 : World) :
    Calls Try.prog 20 #[.int .i64 (-((n : Nat) : Int)), iN m] w0 fun e w' => e = .returned (iN ((18446744073709551616 - n) % m)) ∧ Below w0.heap.size w0 w' := by
  refine enter_fr Try.func20 rfl Try.ntmps20 (by simp) fun ac (FF : Fr 11 ac [(0, .int .i64 (-((n : Nat) : Int) : Int)), (1, iN m)]) => ?_
  have MM := MemS.start w0
  refine wp_seq (rg_c FF MM [] 5 [] [] (fun _ _ FF1 MM1 => then_n ?_))
  refine wp_seq (rg_c FF1 MM1 [(1, f_ (iW (18446744073709551616 - n))), (1, w_ 1), (1, w_ 1)] 0 [4] [] (⟨(negconv_ok (src := 3) (dst := 102) (x := (.tmp 5)) (n := n) (by kernel_rfl) rfl Try.underlying3 Try.underlying102 h0 (by omega)), (by have := hm; omega), (by have := hm; omega), (Nat.lt_trans (Nat.mod_lt _ h1) (by omega)), fun _ _ FF2 MM2 => then_n ?_⟩))
  refine wp_ret ?_
  repeat first | refine then_ret ?_ | refine inb_ret ?_
  exact (ret_fr FF2 0 Try.results20 rfl ⟨rfl, MM2.below⟩)
theorem kmod_any (z : Int) (m : Nat) (h1 : -9223372036854775808 ≤ z) (h2 : z < 9223372036854775808) (hm1 : 0 < m) (hm : m ≤ 65536) (w : World) : Calls Try.prog 20 #[.int .i64 z, iN m] w fun e w' => e = .returned (iN (modZ z m)) ∧ Below w.heap.size w w' := by
  unfold modZ
  split
  · obtain ⟨n, rfl⟩ := Int.eq_ofNat_of_zero_le (by assumption)
    exact kmod_pos n m (by omega) hm1 hm w
  · obtain ⟨n, hn⟩ := Int.eq_ofNat_of_zero_le (a := -z) (by omega)
    obtain rfl : z = -((n : Nat) : Int) := by omega
    rw [show (- -((n : Nat) : Int)).toNat = n by omega]
    exact kmod_neg n m (by omega) (by omega) hm1 hm w
theorem getD_memL {l : List (List Nat)} {i : Nat} (h : i < l.length) : l.getD i [] ∈ l := by
  rw [List.getD_eq_getElem?_getD, List.getElem?_eq_getElem h]; exact List.getElem_mem h
end Go.Proofs.Ytniplfjnpjihoaa
namespace Go.Proofs.Ytniplfjnpjihoaa
open Go.RowKit
theorem neB_same {P : Program} {l : Slots} {L : Blks} {o : Oper} {p : Bool} (h : RunV P l L o (.bool (p != p))) : RunV P l L o (.bool false) := by rwa [bne_self_eq_false] at h
end Go.Proofs.Ytniplfjnpjihoaa
namespace Go.Proofs.Ytniplfjnpjihoaa
open Go.RowKit
theorem OkN.note {i : Bool} {K N X : List Nat} {ks : Pairs} {dn : Notes} (h : OkN dn) (hK : BytesK 32 K) (hN : BytesK 12 N) (hX : ∀ i, X.getD i 0 < 256) (hl : X.length ≤ 900000) : OkN (noteD i K N ks X dn) := by
  unfold noteD
  split
  · intro p hp
    rcases List.mem_append.1 hp with hp | hp
    · exact h p hp
    · rw [List.mem_singleton] at hp
      subst hp
      exact ⟨⟨hK, hN, boxN_lt i K N ks hX, by show (boxN i K N ks X).length ≤ 1000000; rw [boxN_len]; omega⟩, hX, by show X.length ≤ 1000000; omega⟩
  · exact h
theorem noteD_len (i : Bool) (K N : List Nat) (ks : Pairs) (X : List Nat) (dn : Notes) : (noteD i K N ks X dn).length ≤ dn.length + 1 := by
  unfold noteD
  split
  · rw [List.length_append]; exact Nat.le_refl _
  · exact Nat.le_succ _
theorem note_same {i : Bool} {K N X : List Nat} {ks : Pairs} {pn dn : Notes} (h : ∀ x, mget x pn = rget x dn) : ∀ x, mget x (noteP i K N ks X pn) = rget x (noteD i K N ks X dn) := fun z => by
  cases hg : mget K ks with
  | none => rw [noteP_no hg, noteD_no hg]; exact h z
  | some v =>
    rw [noteP_yes hg, noteD_yes hg, rget_app]
    by_cases e : (K, N, boxN i K N ks X) = z
    · subst e; rw [mget_put, if_pos rfl]
    · rw [mget_put_ne e, if_neg e]; exact h z
theorem openF_le (i : Bool) (K N : List Nat) (ks : Pairs) (lk : Option (List Nat)) (Z : List Nat) : openF i K N ks lk Z ≤ 1 := by
  unfold openF; split <;> omega
theorem strV_at {l : List (List Nat)} {i : Nat} (h : i < l.length) : (strV l).getD i undef = sB (l.getD i []) := by
  rw [List.getD_eq_getElem?_getD, strV_get _ _ h]; rfl
theorem bID_any {O : Blks} {q : Nat} {i : Bool} {t v1 v3 : Value} {f : Nat} {p : Option Addr} {c : Nat} {ks : Pairs} {K : List Nat} (hk : OkP 16 ks) (hl : ks.length ≤ 1000000) (hK : BytesK 16 K) (hR : RowO O p (ks.length * 32) (fun j => (keyC ks).getD j undef)) (w0 : World) (H : Has w0 ((q, oC #[.bool i, t, v1, .slice p ks.length c, v3, iN f] 37) :: O)) (hD : Distinct ((q, oC #[.bool i, t, v1, .slice p ks.length c, v3, iN f] 37) :: O)) :
    Calls Try.prog 29 #[pT q, .agg (cn .u8 K)] w0 fun e w' => e = .returned (.agg (cn .u8 (ownN K ks))) ∧ Below w0.heap.size w0 w' := by
  cases hg : mget K ks with
  | none => exact bID_no hg hk hl hK hR w0 H hD
  | some own => exact bID_yes hg hk hl hK hR w0 H hD
set_option maxHeartbeats 2000000 in
set_option maxRecDepth 100000 in
theorem tells_O (O : Blks) (hD : Distinct O) (g : Bool) (X : List Nat) (hX : ∀ i, X.getD i 0 < 256) (p : Option Addr) (n cp : Nat) (fK : Nat → Int) (fA fR : Nat → Nat) (fW : Nat → List Nat) (fN : Nat → Int) (hW : ∀ j i, (fW j).getD i 0 < 256) (hN : ∀ j, -9223372036854775808 ≤ fN j ∧ fN j < 9223372036854775808) (hA : RowO O p (n * 5) (actV fK fA fR fW fN)) (w0 : World) (H : Has w0 O) :
    Calls Try.prog 3 #[.bool g, sB X, .slice p n cp] w0 fun e w' => e = .returned (.bool true) ∧ Below w0.heap.size w0 w' := by
  refine enter_fr Try.func3 rfl Try.ntmps3 (by simp) fun ac (FF : Fr 183 ac [(0, .bool g), (1, sB X), (2, .slice p n cp)]) => ?_
  have MM : MemS (fun k => k < w0.heap.size ∧ ∀ x ∈ O, x.1 ≠ k) w0 w0 O [] := MemS.startN H hD
  refine wp_seq (rg_c FF MM [] 7 [] [] (fun _ _ FF1 MM1 => then_n ?_))
  refine wp_seq ?_
  by_cases h1 : X.length > 500
  · skip
    refine wp_seq (rg_c FF1 MM1 [(1, t_ (iN X.length)), (0, w_ 2)] 7 [27] [] (⟨(vI (bs_size _)), h1, fun _ _ FF2 MM2 => then_n ?_⟩))
    refine wp_cond_true (FF2.ev 0 rfl) ?_
    refine wp_seq (rg_c FF2 MM2 [(0, t_ (.bool true))] 7 [] [] (⟨(callP_of en_wakesL wakes_any _), fun _ _ FF3 MM3 => then_n ?_⟩))
    refine wp_ret ?_
    repeat first | refine then_ret ?_ | refine inb_ret ?_
    exact (ret_fr FF3 0 Try.results3 rfl ⟨rfl, MM3.belowN H (fun _ hx => hx)⟩)
  · by_cases hF : FairP n fW
    · skip
      refine wp_seq (rg_c FF1 MM1 [(1, t_ (iN X.length)), (0, w_ 3), (2, u_ 1 (.bool true))] 7 [27] [] (⟨(vI (bs_size _)), h1, ⟨en_fairL, fun w Hw => fair_w p n cp fK fA fR fW fN true ⟨fun _ => hF, fun _ => rfl⟩ w (hA.at Hw)⟩, fun _ _ FF4 MM4 => then_n ?_⟩))
      refine wp_cond_false (FF4.ev 0 rfl) ?_
      refine wp_skip ?_
      refine then_n ?_
      refine wp_seq (wp_region_list ?_)
      refine rp_c 2 FF4 MM4 [] 31 [] [27] (fun _ _ FF5 MM5 => ?_)
      refine st_callE [29, 6, 0, 1, 2, 31] FF5 (d := 31) (mk := fun v => v) en_tnew rfl rfl (tnew_any X _) rfl (by kernel_rfl) (by decide) fun ac7 wd7 lv6 FF7 hr8 => ?_
      obtain ⟨gA, rfl, hB_gA, hf_gA, hb_gA⟩ := hr8
      have MM9 := MM5.keep hB_gA
      have MM10 : MemS (fun k => k < w0.heap.size ∧ ∀ x ∈ O, x.1 ≠ k) w0 wd7 ((gA, oC #[sB X, iN 0] 84) :: O) [] := MM5.addFresh MM9 hb_gA hf_gA
      refine st_callE [6, 0, 1, 2, 32] FF7 (d := 32) (mk := fun v => v) en_pnew rfl rfl (pnew_E g (some ⟨gA, 0, none⟩) _) rfl (by kernel_rfl) (by decide) fun ac12 wd12 lv11 FF12 hr13 => ?_
      obtain ⟨bA, bA1, bA2, bA3, rfl, hB_bA, hN_bA⟩ := hr13
      have MM14 : MemS (fun k => k < w0.heap.size ∧ ∀ x ∈ O, x.1 ≠ k) w0 wd12 ((bA, oC #[.bool g, pT gA, .map (some bA1), .map (some bA2), .map (some bA3), iN 0] 82) :: (bA1, KM []) :: (bA2, KM []) :: (bA3, NM []) :: (gA, oC #[sB X, iN 0] 84) :: O) [] := MM10.addAll hB_bA hN_bA.1 hN_bA.2.1 hN_bA.2.2
      refine rp_c 1 FF12 MM14 [] 8 [] [] (fun _ _ FF15 MM15 => ?_)
      refine wpl_nil (then_n ?_)
      refine wp_seq (wp_region_list ?_)
      refine rp_c 4 FF15 MM15 [(2, t_ (aG #[sB X, iN 0]))] 34 [36] [] (⟨(by kernel_rfl), fun t => fun _ _ FF16 MM16 => ?_⟩)
      refine rp_c 2 FF16 MM16 [(0, t_ (aG #[.bool g, pT t, .slice none 0 0, .slice none 0 0, .slice none 0 0, iN 0]))] 8 [38] [] (⟨(by kernel_rfl), fun q => fun _ _ FF17 MM17 => ?_⟩)
      refine rp_c 1 FF17 MM17 [] 9 [] [] (fun _ wd18 FF18 MM18 => ?_)
      refine wpl_nil (then_n ?_)
      have Mz19 : MemS (fun k => k < w0.heap.size ∧ ∀ x ∈ O, x.1 ≠ k) w0 wd18 ((q, oC #[.bool g, pT t, .slice none 0 0, .slice none 0 0, .slice none 0 0, iN 0] 37) :: (t, oC #[sB X, iN 0] 32) :: (bA, oC #[.bool g, pT gA, .map (some bA1), .map (some bA2), .map (some bA3), iN 0] 82) :: (bA1, KM []) :: (bA2, KM []) :: (bA3, NM []) :: (gA, oC #[sB X, iN 0] 84) :: O) [(.slice none 0 0, 88, 64, ([] : Pairs).length, (keyC ([] : Pairs))), (.slice none 0 0, 93, 32, ([] : Pairs).length, (keyC ([] : Pairs))), (.slice none 0 0, 101, 46, ([] : Notes).length, (notC ([] : Notes))), (.slice none 0 0, 9, 1, ([] : List (List Nat)).length, (strV ([] : List (List Nat))))] := ((((MM18.rowNil 9 1).rowNil 101 46).rowNil 93 32).rowNil 88 64)
      have Mz20 : MemS (fun k => k < w0.heap.size ∧ ∀ x ∈ O, x.1 ≠ k) w0 wd18 ((q, oC #[.bool g, pT t, .slice none 0 0, .slice none 0 0, .slice none 0 0, iN 0] 37) :: (t, oC #[sB X, iN 0] 32) :: (bA, oC #[.bool g, pT gA, .map (some bA1), .map (some bA2), .map (some bA3), iN 0] 82) :: (bA1, KM []) :: (bA2, KM (idsP g [])) :: (bA3, NM []) :: (gA, oC #[sB X, iN 0] 84) :: O) [(.slice none 0 0, 88, 64, ([] : Pairs).length, (keyC ([] : Pairs))), (.slice none 0 0, 93, 32, ([] : Pairs).length, (keyC ([] : Pairs))), (.slice none 0 0, 101, 46, ([] : Notes).length, (notC ([] : Notes))), (.slice none 0 0, 9, 1, ([] : List (List Nat)).length, (strV ([] : List (List Nat))))] := by rw [ids_nil]; exact Mz19
      refine wp_seq ?_
      refine wp_seq (rg_c FF18 Mz20 [(1, f_ (.bool false))] 9 [40] [] (⟨(ptrSome_ok (t := 25) (t' := 25) (x := (.tmp 39)) (y := (.const (.pointer none))) (by kernel_rfl) rfl rfl Try.underlying25), fun _ _ FF21 MM21 => then_n ?_⟩))
      refine wp_cond_false (FF21.ev 0 rfl) ?_
      refine wp_skip ?_
      refine then_n ?_
      refine wp_seq (rg_c FF21 MM21 [] 9 [9] [] (fun _ _ FF22 MM22 => then_n ?_))
      refine wp_seq ?_
      refine wp_seq (rg_c FF22 MM22 [] 11 [] [] (fun _ _ FF23 MM23 => then_n ?_))
      refine wp_for2 (fun a' w' => ∃ i : Nat, ∃ u : Nat, ∃ ks : Pairs, ∃ is : Pairs, ∃ pn : Notes, ∃ dn : Notes, ∃ f : Nat, ∃ v1 : Value, ∃ v2 : Value, ∃ v3 : Value, ∃ vb : Value, ∃ bxs : List (List Nat), i ≤ n ∧ u ≤ 32 * i ∧ OkP 32 ks ∧ ks.length ≤ i ∧ OkP 16 is ∧ is.length ≤ i ∧ OwnI g ks ∧ OwnI g is ∧ OkQ pn ∧ OkN dn ∧ dn.length ≤ i ∧ (∀ x, mget x pn = rget x dn) ∧ f ≤ i ∧ (∀ B ∈ bxs, (∀ j, B.getD j 0 < 256) ∧ B.length ≤ 116) ∧ bxs.length ≤ i ∧ Fr 183 a' [(10, iN i), (9, vb), (8, pT q), (7, pT bA), (0, .bool g), (1, sB X), (2, .slice p n cp)] ∧ MemS (fun k => k < w0.heap.size ∧ ∀ x ∈ O, x.1 ≠ k) w0 w' ((q, oC #[.bool g, pT t, v1, v2, v3, iN f] 37) :: (t, oC #[sB X, iN u] 32) :: (bA, oC #[.bool g, pT gA, .map (some bA1), .map (some bA2), .map (some bA3), iN f] 82) :: (bA1, KM ks) :: (bA2, KM (idsP g is)) :: (bA3, NM pn) :: (gA, oC #[sB (X.drop u), iN u] 84) :: O) [(v1, 88, 64, ks.length, (keyC ks)), (v2, 93, 32, is.length, (keyC is)), (v3, 101, 46, dn.length, (notC dn)), (vb, 9, 1, bxs.length, (strV bxs))]) (fun a' _ => (n - cnt 10 a').toNat) ⟨0, 0, [], [], [], [], 0, .slice none 0 0, .slice none 0 0, .slice none 0 0, .slice none 0 0, [], Nat.zero_le _, Nat.zero_le _, okP_nil 32, Nat.zero_le _, okP_nil 16, Nat.zero_le _, ownI_nil g, ownI_nil g, okQ_nil, okN_nil, Nat.zero_le _, fun _ => rfl, Nat.zero_le _, fun _ h => (nomatch h), Nat.zero_le _, FF23.pick [0, 1, 2, 3, 5, 6, 7], MM23⟩ ?_
      rintro ac24 wd24 ⟨i, u, ks, is, pn, dn, f, v1, v2, v3, vb, bxs, hi, hu, hks, hkl, his, hil, hwk, hwi, hp, hd, hdl, hpd, hf, hbx, hbl, FF24, MM24⟩
      have hc := cnt_of (FF24.get 0 rfl)
      refine rg_c FF24 MM24 [] 11 [44] [] (fun _ _ FF25 MM25 => ?_)
      by_cases hlt : i < n
      · skip
        refine then_n (.inl ⟨(FF25.ev 0 rfl).trans (dec_t hlt), ?_⟩)
        have hn25 := hF.1
        have hgi := hF.2 i hlt
        refine wp_seq (rg_c FF25 MM25 [(2, f_ (.pointer (some ⟨gOf p, oOf p + i * 5, none⟩))), (0, f_ (aG #[.int .i64 (fK i : Int), iB (fA i), iB (fR i), sB (fW i), .int .i64 (fN i : Int)])), (1, b_ 0)] 12 [] [] (⟨(rowX_addr (x := (.tmp 47)) (y := (.tmp 48)) (k := 5) (i := i) (by kernel_rfl) rfl rfl Try.underlying22 (by kernel_rfl) hA (by omega) (by omega)), (rowX_loadA (x := (.tmp 49)) (j := i * 5) (k := 5) (vs := [.int .i64 (fK i : Int), iB (fA i), iB (fR i), sB (fW i), .int .i64 (fN i : Int)]) (by kernel_rfl) rfl Try.underlying40 rfl (by kernel_rfl) rfl hA (fun _ hx => List.mem_cons_of_mem _ (List.mem_cons_of_mem _ (List.mem_cons_of_mem _ (List.mem_cons_of_mem _ (List.mem_cons_of_mem _ (List.mem_cons_of_mem _ (List.mem_cons_of_mem _ (hx)))))))) (by omega) (by decide) (fun q9 h9 => by match q9, h9 with | 0, _ => exact congrArg some (actV_0 i) | 1, _ => exact congrArg some (actV_1 i) | 2, _ => exact congrArg some (actV_2 i) | 3, _ => exact congrArg some (actV_3 i) | 4, _ => exact congrArg some (actV_4 i) | _ + 5, h => omega)), fun bx => ⟨rfl, rfl, rfl, (by kernel_rfl), rfl, fun _ _ FF26 MM26 => then_n ?_⟩⟩))
        refine wp_seq (rg_draw FF26 MM26 [.inl (.pointer (some ⟨bx, 1, none⟩)), .inl (iB (fA i)), .inl (.agg (cn .u8 (keyW (fA i)))), .inl (.pointer (some ⟨bx, 2, none⟩)), .inl (iB (fR i)), .inl (.agg (cn .u8 (nonW (fR i)))), .inr (.cells (cn .u8 (List.replicate 32 0)) 42, fun b => pT b), .inr (.cells (cn .u8 (List.replicate 12 0)) 45, fun b => pT b)] [6, 7] [o_, l_ 0 (iB (fA i)), t_ (.agg (cn .u8 (keyW (fA i)))), o_, l_ 0 (iB (fR i)), t_ (.agg (cn .u8 (nonW (fR i)))), o_, o_] [b_ 0, b_ 1] [11, 10, 9, 8, 7, 0, 1, 2, 12, 13] (fun nb => [bx = bx, (#[.int .i64 (fK i : Int), iB (fA i), iB (fR i), sB (fW i), .int .i64 (fN i : Int)] : Array Value)[1]? = some (iB (fA i)), CallP Try.prog 11 [iB (fA i)] [] (.agg (cn .u8 (keyW (fA i)))), bx = bx, (#[.int .i64 (fK i : Int), iB (fA i), iB (fR i), sB (fW i), .int .i64 (fN i : Int)] : Array Value)[2]? = some (iB (fR i)), CallP Try.prog 12 [iB (fR i)] [] (.agg (cn .u8 (nonW (fR i))))]) (fun nb Kt => (nb 6) = (nb 6) ∧ (cn .u8 (List.replicate 32 0)).size = 32 ∧ (cn .u8 (keyW (fA i))).size = 32 ∧ (cn .u8 (keyW (fA i))).all (·.oneCell') = true ∧ (0, 0).2 = 0 ∧ (nb 7) = (nb 7) ∧ (cn .u8 (List.replicate 12 0)).size = 12 ∧ (cn .u8 (nonW (fR i))).size = 12 ∧ (cn .u8 (nonW (fR i))).all (·.oneCell') = true ∧ (0, 0).2 = 0 ∧ Kt [(13, pT (nb 7)), (12, pT (nb 6)), (11, pT bx), (10, iN i), (9, vb), (8, pT q), (7, pT bA), (0, .bool g), (1, sB X), (2, .slice p n cp)] (((nb 6), .cells (cn .u8 (keyW (fA i))) 42) :: ((nb 7), .cells (cn .u8 (nonW (fR i))) 45) :: (bx, oC #[.int .i64 (fK i : Int), iB (fA i), iB (fR i), sB (fW i), .int .i64 (fN i : Int)] 40) :: (q, oC #[.bool g, pT t, v1, v2, v3, iN f] 37) :: (t, oC #[sB X, iN u] 32) :: (bA, oC #[.bool g, pT gA, .map (some bA1), .map (some bA2), .map (some bA3), iN f] 82) :: (bA1, KM ks) :: (bA2, KM (idsP g is)) :: (bA3, NM pn) :: (gA, oC #[sB (X.drop u), iN u] 84) :: O)) (by kernel_rfl) (by kernel_rfl) (by kernel_rfl) (fun _ => by kernel_rfl) (fun _ _ => by kernel_rfl) ⟨⟨_, rfl⟩, rfl, ⟨⟨_, rfl⟩, rfl, trivial⟩⟩ (fun nb => ⟨rfl, rfl, (callP_of en_keyL (keyL_any (fA i)) _), rfl, rfl, (callP_of en_nonceL (nonceL_any (fR i)) _), trivial⟩) (fun nb => ⟨rfl, ((cn_size _ _).trans (List.length_replicate ..)), ((cn_size _ _).trans (keyW_ok (fA i)).1), (cn_one _ _), rfl, rfl, ((cn_size _ _).trans (List.length_replicate ..)), ((cn_size _ _).trans (nonW_ok (fR i)).1), (cn_one _ _), rfl, fun _ _ FF27 MM27 => then_n ?_⟩))
        generalize nb 6 = bk at *
        generalize nb 7 = bn at *
        refine wp_mid (fun a' w' => ∃ u2 : Nat, ∃ ks2 : Pairs, ∃ is2 : Pairs, ∃ pn2 : Notes, ∃ dn2 : Notes, ∃ f2 : Nat, ∃ y1 : Value, ∃ y2 : Value, ∃ y3 : Value, ∃ yb : Value, ∃ bys : List (List Nat), u2 ≤ 32 * (i + 1) ∧ OkP 32 ks2 ∧ ks2.length ≤ (i + 1) ∧ OkP 16 is2 ∧ is2.length ≤ (i + 1) ∧ OwnI g ks2 ∧ OwnI g is2 ∧ OkQ pn2 ∧ OkN dn2 ∧ dn2.length ≤ (i + 1) ∧ (∀ x, mget x pn2 = rget x dn2) ∧ f2 ≤ (i + 1) ∧ (∀ B ∈ bys, (∀ j, B.getD j 0 < 256) ∧ B.length ≤ 116) ∧ bys.length ≤ (i + 1) ∧ Fr 183 a' [(13, pT bn), (12, pT bk), (11, pT bx), (10, iN i), (9, yb), (8, pT q), (7, pT bA), (0, .bool g), (1, sB X), (2, .slice p n cp)] ∧ MemS (fun k => k < w0.heap.size ∧ ∀ x ∈ O, x.1 ≠ k) w0 w' ((bk, .cells (cn .u8 (keyW (fA i))) 42) :: (bn, .cells (cn .u8 (nonW (fR i))) 45) :: (bx, oC #[.int .i64 (fK i : Int), iB (fA i), iB (fR i), sB (fW i), .int .i64 (fN i : Int)] 40) :: (q, oC #[.bool g, pT t, y1, y2, y3, iN f2] 37) :: (t, oC #[sB X, iN u2] 32) :: (bA, oC #[.bool g, pT gA, .map (some bA1), .map (some bA2), .map (some bA3), iN f2] 82) :: (bA1, KM ks2) :: (bA2, KM (idsP g is2)) :: (bA3, NM pn2) :: (gA, oC #[sB (X.drop u2), iN u2] 84) :: O) [(y1, 88, 64, ks2.length, (keyC ks2)), (y2, 93, 32, is2.length, (keyC is2)), (y3, 101, 46, dn2.length, (notC dn2)), (yb, 9, 1, bys.length, (strV bys))]) ?_ ?_
        · skip
          refine wp_seq (rg_c FF27 MM27 [(1, l_ 2 (.int .i64 (fK i : Int)))] 14 [58] [] (⟨rfl, rfl, fun _ _ FF28 MM28 => then_n ?_⟩))
          refine wp_block ?_
          by_cases hk0 : fK i = ((0 : Nat) : Int)
          · skip
            refine wp_seq (rg_c FF28 MM28 [(0, w_ 6)] 60 [] [] (⟨hk0, fun _ _ FF29 MM29 => then_n ?_⟩))
            refine wp_cond_true (FF29.ev 0 rfl) ?_
            refine wp_seq (rg_c FF29 MM29 [(1, b_ 0), (0, c_ (.tuple #[]) [(6, KM (shareK g 32 (keyW (fA i)) ks (X.drop u))), (9, oC #[sB ((X.drop u).drop (shareU g 32 (keyW (fA i)) ks)), iN (u + shareU g 32 (keyW (fA i)) ks)] 84)])] 59 [] [] (⟨rfl, ((cn_size _ _).trans (keyW_ok (fA i)).1), (callU_B [5, 6, 9] en_pshare rfl rfl (fun w Hw => pshare_any (K := (keyW (fA i))) hks ⟨(keyW_ok (fA i)).1, (keyW_ok (fA i)).2⟩ (dropX_lt hX u) (by omega) w Hw (distinct_names rfl (distinct_at MM29.distinct (is := [5, 6, 9]) rfl rfl)))), fun _ wd30 FF30 MM30 => then_n ?_⟩))
            have Mz31 : MemS (fun k => k < w0.heap.size ∧ ∀ x ∈ O, x.1 ≠ k) w0 wd30 ((bk, .cells (cn .u8 (keyW (fA i))) 42) :: (bn, .cells (cn .u8 (nonW (fR i))) 45) :: (bx, oC #[.int .i64 (fK i : Int), iB (fA i), iB (fR i), sB (fW i), .int .i64 (fN i : Int)] 40) :: (q, oC #[.bool g, pT t, v1, v2, v3, iN f] 37) :: (t, oC #[sB X, iN u] 32) :: (bA, oC #[.bool g, pT gA, .map (some bA1), .map (some bA2), .map (some bA3), iN f] 82) :: (bA1, KM (shareK g 32 (keyW (fA i)) ks (X.drop u))) :: (bA2, KM (idsP g is)) :: (bA3, NM pn) :: (gA, oC #[sB (X.drop (u + shareU g 32 (keyW (fA i)) ks)), iN (u + shareU g 32 (keyW (fA i)) ks)] 84) :: O) [(v1, 88, 64, ks.length, (keyC ks)), (v2, 93, 32, is.length, (keyC is)), (v3, 101, 46, dn.length, (notC dn)), (vb, 9, 1, bxs.length, (strV bxs))] := by rw [← List.drop_drop]; exact MM30
            refine wp_region_list ?_
            refine rp_c 2 FF30 Mz31 [(1, b_ 0)] 66 [] [] (⟨rfl, ((cn_size _ _).trans (keyW_ok (fA i)).1), fun _ wd32 FF32 MM32 => ?_⟩)
            have Mq33 : MemS (fun k => k < w0.heap.size ∧ ∀ x ∈ O, x.1 ≠ k) w0 wd32 ((q, oC #[.bool g, pT t, v1, v2, v3, iN f] 37) :: (t, oC #[sB X, iN u] 32) :: (bk, .cells (cn .u8 (keyW (fA i))) 42) :: (bn, .cells (cn .u8 (nonW (fR i))) 45) :: (bx, oC #[.int .i64 (fK i : Int), iB (fA i), iB (fR i), sB (fW i), .int .i64 (fN i : Int)] 40) :: (bA, oC #[.bool g, pT gA, .map (some bA1), .map (some bA2), .map (some bA3), iN f] 82) :: (bA1, KM (shareK g 32 (keyW (fA i)) ks (X.drop u))) :: (bA2, KM (idsP g is)) :: (bA3, NM pn) :: (gA, oC #[sB (X.drop (u + shareU g 32 (keyW (fA i)) ks)), iN (u + shareU g 32 (keyW (fA i)) ks)] 84) :: O) [(v1, 88, 64, ks.length, (keyC ks)), (v2, 93, 32, is.length, (keyC is)), (v3, 101, 46, dn.length, (notC dn)), (vb, 9, 1, bxs.length, (strV bxs))] := MM32.perm (List.perm_append_comm_assoc [(bk, .cells (cn .u8 (keyW (fA i))) 42), (bn, .cells (cn .u8 (nonW (fR i))) 45), (bx, oC #[.int .i64 (fK i : Int), iB (fA i), iB (fR i), sB (fW i), .int .i64 (fN i : Int)] 40)] [(q, oC #[.bool g, pT t, v1, v2, v3, iN f] 37), (t, oC #[sB X, iN u] 32)] _)
            refine st_callM [58, 13, 12, 11, 10, 9, 8, 7, 0, 1, 2, 66] FF32 (d := 66) en_bshare rfl rfl (bshare_any hks (by omega) ⟨(keyW_ok (fA i)).1, (keyW_ok (fA i)).2⟩ hX (by omega) wd32 Mq33) rfl (by kernel_rfl) (by decide) fun ac34 wd34 FF34 hr35 => ?_
            obtain ⟨vq36, MM34⟩ := hr35
            have Mq37 : MemS (fun k => k < w0.heap.size ∧ ∀ x ∈ O, x.1 ≠ k) w0 wd34 ((bk, .cells (cn .u8 (keyW (fA i))) 42) :: (bn, .cells (cn .u8 (nonW (fR i))) 45) :: (bx, oC #[.int .i64 (fK i : Int), iB (fA i), iB (fR i), sB (fW i), .int .i64 (fN i : Int)] 40) :: (q, oC #[.bool g, pT t, vq36, v2, v3, iN f] 37) :: (t, oC #[sB X, iN (u + shareU g 32 (keyW (fA i)) ks)] 32) :: (bA, oC #[.bool g, pT gA, .map (some bA1), .map (some bA2), .map (some bA3), iN f] 82) :: (bA1, KM (shareK g 32 (keyW (fA i)) ks (X.drop u))) :: (bA2, KM (idsP g is)) :: (bA3, NM pn) :: (gA, oC #[sB (X.drop (u + shareU g 32 (keyW (fA i)) ks)), iN (u + shareU g 32 (keyW (fA i)) ks)] 84) :: O) [(vq36, 88, 64, (shareK g 32 (keyW (fA i)) ks (X.drop u)).length, (keyC (shareK g 32 (keyW (fA i)) ks (X.drop u)))), (v2, 93, 32, is.length, (keyC is)), (v3, 101, 46, dn.length, (notC dn)), (vb, 9, 1, bxs.length, (strV bxs))] := MM34.perm (List.perm_append_comm_assoc [(q, oC #[.bool g, pT t, vq36, v2, v3, iN f] 37), (t, oC #[sB X, iN (u + shareU g 32 (keyW (fA i)) ks)] 32)] [(bk, .cells (cn .u8 (keyW (fA i))) 42), (bn, .cells (cn .u8 (nonW (fR i))) 45), (bx, oC #[.int .i64 (fK i : Int), iB (fA i), iB (fR i), sB (fW i), .int .i64 (fN i : Int)] 40)] _)
            refine wpl_nil ?_
            refine inb_n ?_
            refine then_n ?_
            exact ⟨u + shareU g 32 (keyW (fA i)) ks, shareK g 32 (keyW (fA i)) ks (X.drop u), is, pn, dn, f, vq36, v2, v3, vb, bxs, (by have := shareU_le g 32 (keyW (fA i)) ks; omega), (share_ok g hks (keyW_ok _) (dropX_lt hX u)), (by have := share_len g 32 (keyW (fA i)) ks (X.drop u); omega), his, by omega, (hwk.share (X.drop u)), hwi, hp, hd, by omega, hpd, by omega, hbx, by omega, FF34.pick [2, 3, 4, 5, 6, 7, 8, 9, 10, 11], Mq37⟩
          · skip
            refine wp_seq (rg_c FF28 MM28 [(0, u_ 4 (.bool false))] 60 [] [] (⟨(dec_f hk0), fun _ _ FF38 MM38 => then_n ?_⟩))
            refine wp_cond_false (FF38.ev 0 rfl) ?_
            by_cases hk1 : fK i = ((1 : Nat) : Int)
            · skip
              refine wp_seq (rg_c FF38 MM38 [(0, w_ 6)] 59 [67] [] (⟨hk1, fun _ _ FF39 MM39 => then_n ?_⟩))
              refine wp_cond_true (FF39.ev 0 rfl) ?_
              refine wp_seq (rg_c FF39 MM39 [(2, l_ 2 (iB (fA i))), (0, t_ (.agg (cn .u8 (idW (fA i))))), (0, c_ (.tuple #[]) [(7, KM (idsP g (shareK g 16 (idW (fA i)) is (X.drop u)))), (9, oC #[sB ((X.drop u).drop (shareU g 16 (idW (fA i)) is)), iN (u + shareU g 16 (idW (fA i)) is)] 84)])] 59 [] [] (⟨rfl, rfl, (callP_of en_idL (idL_any (fA i)) _), (callU_B [5, 7, 9] en_pshareid rfl rfl (fun w Hw => pshareid_any (K := (idW (fA i))) his ⟨(idW_ok (fA i)).1, (idW_ok (fA i)).2⟩ (dropX_lt hX u) (by omega) w Hw (distinct_names rfl (distinct_at MM39.distinct (is := [5, 7, 9]) rfl rfl)))), fun _ wd40 FF40 MM40 => then_n ?_⟩))
              have Mz41 : MemS (fun k => k < w0.heap.size ∧ ∀ x ∈ O, x.1 ≠ k) w0 wd40 ((bk, .cells (cn .u8 (keyW (fA i))) 42) :: (bn, .cells (cn .u8 (nonW (fR i))) 45) :: (bx, oC #[.int .i64 (fK i : Int), iB (fA i), iB (fR i), sB (fW i), .int .i64 (fN i : Int)] 40) :: (q, oC #[.bool g, pT t, v1, v2, v3, iN f] 37) :: (t, oC #[sB X, iN u] 32) :: (bA, oC #[.bool g, pT gA, .map (some bA1), .map (some bA2), .map (some bA3), iN f] 82) :: (bA1, KM ks) :: (bA2, KM (idsP g (shareK g 16 (idW (fA i)) is (X.drop u)))) :: (bA3, NM pn) :: (gA, oC #[sB (X.drop (u + shareU g 16 (idW (fA i)) is)), iN (u + shareU g 16 (idW (fA i)) is)] 84) :: O) [(v1, 88, 64, ks.length, (keyC ks)), (v2, 93, 32, is.length, (keyC is)), (v3, 101, 46, dn.length, (notC dn)), (vb, 9, 1, bxs.length, (strV bxs))] := by rw [← List.drop_drop]; exact MM40
              refine wp_region_list ?_
              refine rp_c 4 FF40 Mz41 [(2, l_ 2 (iB (fA i))), (0, t_ (.agg (cn .u8 (idW (fA i)))))] 75 [77] [] (⟨rfl, rfl, (callP_of en_idL (idL_any (fA i)) _), fun _ wd42 FF42 MM42 => ?_⟩)
              have Mq43 : MemS (fun k => k < w0.heap.size ∧ ∀ x ∈ O, x.1 ≠ k) w0 wd42 ((q, oC #[.bool g, pT t, v1, v2, v3, iN f] 37) :: (t, oC #[sB X, iN u] 32) :: (bk, .cells (cn .u8 (keyW (fA i))) 42) :: (bn, .cells (cn .u8 (nonW (fR i))) 45) :: (bx, oC #[.int .i64 (fK i : Int), iB (fA i), iB (fR i), sB (fW i), .int .i64 (fN i : Int)] 40) :: (bA, oC #[.bool g, pT gA, .map (some bA1), .map (some bA2), .map (some bA3), iN f] 82) :: (bA1, KM ks) :: (bA2, KM (idsP g (shareK g 16 (idW (fA i)) is (X.drop u)))) :: (bA3, NM pn) :: (gA, oC #[sB (X.drop (u + shareU g 16 (idW (fA i)) is)), iN (u + shareU g 16 (idW (fA i)) is)] 84) :: O) [(v1, 88, 64, ks.length, (keyC ks)), (v2, 93, 32, is.length, (keyC is)), (v3, 101, 46, dn.length, (notC dn)), (vb, 9, 1, bxs.length, (strV bxs))] := MM42.perm (List.perm_append_comm_assoc [(bk, .cells (cn .u8 (keyW (fA i))) 42), (bn, .cells (cn .u8 (nonW (fR i))) 45), (bx, oC #[.int .i64 (fK i : Int), iB (fA i), iB (fR i), sB (fW i), .int .i64 (fN i : Int)] 40)] [(q, oC #[.bool g, pT t, v1, v2, v3, iN f] 37), (t, oC #[sB X, iN u] 32)] _)
              refine st_callM [58, 13, 12, 11, 10, 9, 8, 7, 0, 1, 2, 78] FF42 (d := 78) en_bshareid rfl rfl (bshareid_any his (by omega) ⟨(idW_ok (fA i)).1, (idW_ok (fA i)).2⟩ hX (by omega) wd42 Mq43) rfl (by kernel_rfl) (by decide) fun ac44 wd44 FF44 hr45 => ?_
              obtain ⟨vq46, MM44⟩ := hr45
              have Mq47 : MemS (fun k => k < w0.heap.size ∧ ∀ x ∈ O, x.1 ≠ k) w0 wd44 ((bk, .cells (cn .u8 (keyW (fA i))) 42) :: (bn, .cells (cn .u8 (nonW (fR i))) 45) :: (bx, oC #[.int .i64 (fK i : Int), iB (fA i), iB (fR i), sB (fW i), .int .i64 (fN i : Int)] 40) :: (q, oC #[.bool g, pT t, v1, vq46, v3, iN f] 37) :: (t, oC #[sB X, iN (u + shareU g 16 (idW (fA i)) is)] 32) :: (bA, oC #[.bool g, pT gA, .map (some bA1), .map (some bA2), .map (some bA3), iN f] 82) :: (bA1, KM ks) :: (bA2, KM (idsP g (shareK g 16 (idW (fA i)) is (X.drop u)))) :: (bA3, NM pn) :: (gA, oC #[sB (X.drop (u + shareU g 16 (idW (fA i)) is)), iN (u + shareU g 16 (idW (fA i)) is)] 84) :: O) [(v1, 88, 64, ks.length, (keyC ks)), (vq46, 93, 32, (shareK g 16 (idW (fA i)) is (X.drop u)).length, (keyC (shareK g 16 (idW (fA i)) is (X.drop u)))), (v3, 101, 46, dn.length, (notC dn)), (vb, 9, 1, bxs.length, (strV bxs))] := MM44.perm (List.perm_append_comm_assoc [(q, oC #[.bool g, pT t, v1, vq46, v3, iN f] 37), (t, oC #[sB X, iN (u + shareU g 16 (idW (fA i)) is)] 32)] [(bk, .cells (cn .u8 (keyW (fA i))) 42), (bn, .cells (cn .u8 (nonW (fR i))) 45), (bx, oC #[.int .i64 (fK i : Int), iB (fA i), iB (fR i), sB (fW i), .int .i64 (fN i : Int)] 40)] _)
              refine wpl_nil ?_
              refine inb_n ?_
              refine then_n ?_
              exact ⟨u + shareU g 16 (idW (fA i)) is, ks, shareK g 16 (idW (fA i)) is (X.drop u), pn, dn, f, v1, vq46, v3, vb, bxs, (by have := shareU_le g 16 (idW (fA i)) is; omega), hks, by omega, (share_ok g his (idW_ok _) (dropX_lt hX u)), (by have := share_len g 16 (idW (fA i)) is (X.drop u); omega), hwk, (hwi.share (X.drop u)), hp, hd, by omega, hpd, by omega, hbx, by omega, FF44.pick [2, 3, 4, 5, 6, 7, 8, 9, 10, 11], Mq47⟩
            · skip
              refine wp_seq (rg_c FF38 MM38 [(0, u_ 4 (.bool false))] 59 [67] [] (⟨(dec_f hk1), fun _ _ FF48 MM48 => then_n ?_⟩))
              refine wp_cond_false (FF48.ev 0 rfl) ?_
              by_cases hk2 : fK i = ((2 : Nat) : Int)
              · skip
                refine wp_seq (rg_c FF48 MM48 [(0, w_ 6)] 59 [79] [] (⟨hk2, fun _ _ FF49 MM49 => then_n ?_⟩))
                refine wp_cond_true (FF49.ev 0 rfl) ?_
                obtain ⟨C, hC⟩ : ∃ C, boxN g (keyW (fA i)) (nonW (fR i)) ks (fW i) = C := ⟨_, rfl⟩
                have hCl : ∀ j, C.getD j 0 < 256 := hC ▸ boxN_lt g (keyW (fA i)) (nonW (fR i)) ks (hW i)
                have hCn : C.length = (fW i).length + 16 := hC ▸ boxN_len g (keyW (fA i)) (nonW (fR i)) ks (fW i)
                refine wp_seq (rg_c FF49 MM49 [(1, b_ 0), (0, b_ 1), (1, l_ 2 (sB (fW i))), (0, c_ (sB C) [(8, NM (noteP g (keyW (fA i)) (nonW (fR i)) ks (fW i) pn))])] 59 [] [] (⟨rfl, ((cn_size _ _).trans (keyW_ok (fA i)).1), rfl, ((cn_size _ _).trans (nonW_ok (fR i)).1), rfl, rfl, (callU_B [5, 6, 8] en_pseal rfl rfl (fun w Hw => by have h0 := pseal_any (K := (keyW (fA i))) hks ⟨(keyW_ok (fA i)).1, (keyW_ok (fA i)).2⟩ hp (N := (nonW (fR i))) (Y := (fW i)) ⟨(nonW_ok (fR i)).1, (nonW_ok (fR i)).2⟩ (hW i) (by omega) hwk.get w Hw (distinct_names rfl (distinct_at MM49.distinct (is := [5, 6, 8]) rfl rfl)); rw [hC] at h0; exact h0)), fun _ _ FF50 MM50 => then_n ?_⟩))
                refine wp_seq ?_
                refine wp_seq (wp_region_list ?_)
                refine rp_c 6 FF50 MM50 [(2, b_ 0), (0, b_ 1), (1, l_ 2 (sB (fW i)))] 91 [92] [] (⟨rfl, ((cn_size _ _).trans (keyW_ok (fA i)).1), rfl, ((cn_size _ _).trans (nonW_ok (fR i)).1), rfl, rfl, fun _ wd51 FF51 MM51 => ?_⟩)
                have Mq52 : MemS (fun k => k < w0.heap.size ∧ ∀ x ∈ O, x.1 ≠ k) w0 wd51 ((q, oC #[.bool g, pT t, v1, v2, v3, iN f] 37) :: (t, oC #[sB X, iN u] 32) :: (bk, .cells (cn .u8 (keyW (fA i))) 42) :: (bn, .cells (cn .u8 (nonW (fR i))) 45) :: (bx, oC #[.int .i64 (fK i : Int), iB (fA i), iB (fR i), sB (fW i), .int .i64 (fN i : Int)] 40) :: (bA, oC #[.bool g, pT gA, .map (some bA1), .map (some bA2), .map (some bA3), iN f] 82) :: (bA1, KM ks) :: (bA2, KM (idsP g is)) :: (bA3, NM (noteP g (keyW (fA i)) (nonW (fR i)) ks (fW i) pn)) :: (gA, oC #[sB (X.drop u), iN u] 84) :: O) [(v1, 88, 64, ks.length, (keyC ks)), (v2, 93, 32, is.length, (keyC is)), (v3, 101, 46, dn.length, (notC dn)), (vb, 9, 1, bxs.length, (strV bxs))] := MM51.perm (List.perm_append_comm_assoc [(bk, .cells (cn .u8 (keyW (fA i))) 42), (bn, .cells (cn .u8 (nonW (fR i))) 45), (bx, oC #[.int .i64 (fK i : Int), iB (fA i), iB (fR i), sB (fW i), .int .i64 (fN i : Int)] 40)] [(q, oC #[.bool g, pT t, v1, v2, v3, iN f] 37), (t, oC #[sB X, iN u] 32)] _)
                refine st_callM [87, 14, 58, 13, 12, 11, 10, 9, 8, 7, 0, 1, 2, 93] FF51 (d := 93) en_bseal rfl rfl (by have h0 := bseal_any hks (by omega) (by omega) ⟨(keyW_ok (fA i)).1, (keyW_ok (fA i)).2⟩ ⟨(nonW_ok (fR i)).1, (nonW_ok (fR i)).2⟩ (hW i) (by omega) wd51 Mq52; rw [hC] at h0; exact h0) rfl (by kernel_rfl) (by decide) fun ac53 wd53 FF53 hr54 => ?_
                obtain ⟨vq55, MM53⟩ := hr54
                have Mq56 : MemS (fun k => k < w0.heap.size ∧ ∀ x ∈ O, x.1 ≠ k) w0 wd53 ((bk, .cells (cn .u8 (keyW (fA i))) 42) :: (bn, .cells (cn .u8 (nonW (fR i))) 45) :: (bx, oC #[.int .i64 (fK i : Int), iB (fA i), iB (fR i), sB (fW i), .int .i64 (fN i : Int)] 40) :: (q, oC #[.bool g, pT t, v1, v2, vq55, iN f] 37) :: (t, oC #[sB X, iN u] 32) :: (bA, oC #[.bool g, pT gA, .map (some bA1), .map (some bA2), .map (some bA3), iN f] 82) :: (bA1, KM ks) :: (bA2, KM (idsP g is)) :: (bA3, NM (noteP g (keyW (fA i)) (nonW (fR i)) ks (fW i) pn)) :: (gA, oC #[sB (X.drop u), iN u] 84) :: O) [(v1, 88, 64, ks.length, (keyC ks)), (v2, 93, 32, is.length, (keyC is)), (vq55, 101, 46, (noteD g (keyW (fA i)) (nonW (fR i)) ks (fW i) dn).length, (notC (noteD g (keyW (fA i)) (nonW (fR i)) ks (fW i) dn))), (vb, 9, 1, bxs.length, (strV bxs))] := MM53.perm (List.perm_append_comm_assoc [(q, oC #[.bool g, pT t, v1, v2, vq55, iN f] 37), (t, oC #[sB X, iN u] 32)] [(bk, .cells (cn .u8 (keyW (fA i))) 42), (bn, .cells (cn .u8 (nonW (fR i))) 45), (bx, oC #[.int .i64 (fK i : Int), iB (fA i), iB (fR i), sB (fW i), .int .i64 (fN i : Int)] 40)] _)
                refine rp_c 1 FF53 Mq56 [(0, w_ 3)] 59 [94] [] (⟨(fun h => h rfl), fun _ wd57 FF57 MM57 => ?_⟩)
                refine wpl_nil (then_n ?_)
                refine wp_cond_false (FF57.ev 0 rfl) ?_
                refine wp_skip ?_
                refine then_n ?_
                have Mz58 : MemS (fun k => k < w0.heap.size ∧ ∀ x ∈ O, x.1 ≠ k) w0 wd57 ((bk, .cells (cn .u8 (keyW (fA i))) 42) :: (bn, .cells (cn .u8 (nonW (fR i))) 45) :: (bx, oC #[.int .i64 (fK i : Int), iB (fA i), iB (fR i), sB (fW i), .int .i64 (fN i : Int)] 40) :: (q, oC #[.bool g, pT t, v1, v2, vq55, iN f] 37) :: (t, oC #[sB X, iN u] 32) :: (bA, oC #[.bool g, pT gA, .map (some bA1), .map (some bA2), .map (some bA3), iN f] 82) :: (bA1, KM ks) :: (bA2, KM (idsP g is)) :: (bA3, NM (noteP g (keyW (fA i)) (nonW (fR i)) ks (fW i) pn)) :: (gA, oC #[sB (X.drop u), iN u] 84) :: O) [(vb, 9, 1, bxs.length, (strV bxs)), (v1, 88, 64, ks.length, (keyC ks)), (v2, 93, 32, is.length, (keyC is)), (vq55, 101, 46, (noteD g (keyW (fA i)) (nonW (fR i)) ks (fW i) dn).length, (notC (noteD g (keyW (fA i)) (nonW (fR i)) ks (fW i) dn)))] := MM57.rowsPerm (List.perm_middle (l₁ := [(v1, 88, 64, ks.length, (keyC ks)), (v2, 93, 32, is.length, (keyC is)), (vq55, 101, 46, (noteD g (keyW (fA i)) (nonW (fR i)) ks (fW i) dn).length, (notC (noteD g (keyW (fA i)) (nonW (fR i)) ks (fW i) dn)))]))
                refine wp_region_list ?_
                refine rp_c 3 FF57 Mz58 [(2, s_ 0 (oC #[sB C] 9))] 96 [97] [94] (⟨(by kernel_rfl), fun bq => fun _ _ FF59 MM59 => ?_⟩)
                refine st_app [14, 58, 13, 12, 11, 10, 9, 8, 7, 0, 1, 2, 98] FF59 MM59 (d := 98) (s := 95) (x := 97) (Y := [sB C]) (z := sB []) (bb := 16) rfl rfl rfl rfl (lies_lit (MM59.get 0 rfl)) (fun u hu => by rw [List.mem_singleton.1 hu]; rfl) (by decide) Try.underlying38 (by kernel_rfl) rfl (by decide) (by simp only [maxLen]; omega) (by omega) rfl rfl (by decide) fun ac61 wd61 rv60 FF61 MM61 => ?_
                refine rp_c 1 FF61 MM61 [] 59 [] [] (fun _ wd62 FF62 MM62 => ?_)
                refine wpl_nil ?_
                have Mz63 : MemS (fun k => k < w0.heap.size ∧ ∀ x ∈ O, x.1 ≠ k) w0 wd62 ((bq, oC #[sB C] 9) :: (bk, .cells (cn .u8 (keyW (fA i))) 42) :: (bn, .cells (cn .u8 (nonW (fR i))) 45) :: (bx, oC #[.int .i64 (fK i : Int), iB (fA i), iB (fR i), sB (fW i), .int .i64 (fN i : Int)] 40) :: (q, oC #[.bool g, pT t, v1, v2, vq55, iN f] 37) :: (t, oC #[sB X, iN u] 32) :: (bA, oC #[.bool g, pT gA, .map (some bA1), .map (some bA2), .map (some bA3), iN f] 82) :: (bA1, KM ks) :: (bA2, KM (idsP g is)) :: (bA3, NM (noteP g (keyW (fA i)) (nonW (fR i)) ks (fW i) pn)) :: (gA, oC #[sB (X.drop u), iN u] 84) :: O) [(rv60, 9, 1, (bxs ++ [C]).length, (strV (bxs ++ [C]))), (v1, 88, 64, ks.length, (keyC ks)), (v2, 93, 32, is.length, (keyC is)), (vq55, 101, 46, (noteD g (keyW (fA i)) (nonW (fR i)) ks (fW i) dn).length, (notC (noteD g (keyW (fA i)) (nonW (fR i)) ks (fW i) dn)))] := by rw [← strV_app, List.length_append]; exact MM62
                have Mz64 : MemS (fun k => k < w0.heap.size ∧ ∀ x ∈ O, x.1 ≠ k) w0 wd62 ((bq, oC #[sB C] 9) :: (bk, .cells (cn .u8 (keyW (fA i))) 42) :: (bn, .cells (cn .u8 (nonW (fR i))) 45) :: (bx, oC #[.int .i64 (fK i : Int), iB (fA i), iB (fR i), sB (fW i), .int .i64 (fN i : Int)] 40) :: (q, oC #[.bool g, pT t, v1, v2, vq55, iN f] 37) :: (t, oC #[sB X, iN u] 32) :: (bA, oC #[.bool g, pT gA, .map (some bA1), .map (some bA2), .map (some bA3), iN f] 82) :: (bA1, KM ks) :: (bA2, KM (idsP g is)) :: (bA3, NM (noteP g (keyW (fA i)) (nonW (fR i)) ks (fW i) pn)) :: (gA, oC #[sB (X.drop u), iN u] 84) :: O) [(v1, 88, 64, ks.length, (keyC ks)), (v2, 93, 32, is.length, (keyC is)), (vq55, 101, 46, (noteD g (keyW (fA i)) (nonW (fR i)) ks (fW i) dn).length, (notC (noteD g (keyW (fA i)) (nonW (fR i)) ks (fW i) dn))), (rv60, 9, 1, (bxs ++ [C]).length, (strV (bxs ++ [C])))] := Mz63.rowsPerm (List.perm_middle (l₁ := [(v1, 88, 64, ks.length, (keyC ks)), (v2, 93, 32, is.length, (keyC is)), (vq55, 101, 46, (noteD g (keyW (fA i)) (nonW (fR i)) ks (fW i) dn).length, (notC (noteD g (keyW (fA i)) (nonW (fR i)) ks (fW i) dn)))])).symm
                refine inb_n ?_
                refine then_n ?_
                exact ⟨u, ks, is, noteP g (keyW (fA i)) (nonW (fR i)) ks (fW i) pn, noteD g (keyW (fA i)) (nonW (fR i)) ks (fW i) dn, f, v1, v2, vq55, rv60, (bxs ++ [C]), by omega, hks, by omega, his, by omega, hwk, hwi, (hp.note (keyW_ok _) (nonW_ok _) (hW i) (by omega)), (hd.note (keyW_ok _) (nonW_ok _) (hW i) (by omega)), (by have := noteD_len g (keyW (fA i)) (nonW (fR i)) ks (fW i) dn; omega), (note_same hpd), by omega, (fun B hB => (List.mem_append.1 hB).elim (hbx B) (fun h => by rw [List.mem_singleton.1 h]; exact ⟨hCl, by omega⟩)), (by rw [List.length_append, List.length_singleton]; omega), FF62.pick [3, 4, 5, 6, 0, 7, 8, 9, 10, 11], (Mz64.dropAt 0)⟩
              · skip
                refine wp_seq (rg_c FF48 MM48 [(0, u_ 4 (.bool false))] 59 [79] [] (⟨(dec_f hk2), fun _ _ FF65 MM65 => then_n ?_⟩))
                refine wp_cond_false (FF65.ev 0 rfl) ?_
                refine wp_seq ?_
                by_cases hk3 : fK i = ((3 : Nat) : Int)
                · skip
                  refine wp_seq (rg_c FF65 MM65 [(0, w_ 6)] 59 [99] [] (⟨hk3, fun _ _ FF66 MM66 => then_n ?_⟩))
                  refine wp_cond_true (FF66.ev 0 rfl) ?_
                  refine wp_skip ?_
                  refine then_n ?_
                  refine wp_cond_true (FF66.ev 0 rfl) ?_
                  refine wp_seq (rg_c FF66 MM66 [(1, l_ 2 (sB (fW i)))] 59 [] [] (⟨rfl, rfl, fun _ _ FF67 MM67 => then_n ?_⟩))
                  refine wp_mid (fun a' w' => ∃ Z : List Nat, (∀ j, Z.getD j 0 < 256) ∧ Z.length ≤ 300 ∧ Fr 183 a' [(15, sB Z), (58, .int .i64 (fK i : Int)), (13, pT bn), (12, pT bk), (11, pT bx), (10, iN i), (9, vb), (8, pT q), (7, pT bA), (0, .bool g), (1, sB X), (2, .slice p n cp)] ∧ MemS (fun k => k < w0.heap.size ∧ ∀ x ∈ O, x.1 ≠ k) w0 w' ((bk, .cells (cn .u8 (keyW (fA i))) 42) :: (bn, .cells (cn .u8 (nonW (fR i))) 45) :: (bx, oC #[.int .i64 (fK i : Int), iB (fA i), iB (fR i), sB (fW i), .int .i64 (fN i : Int)] 40) :: (q, oC #[.bool g, pT t, v1, v2, v3, iN f] 37) :: (t, oC #[sB X, iN u] 32) :: (bA, oC #[.bool g, pT gA, .map (some bA1), .map (some bA2), .map (some bA3), iN f] 82) :: (bA1, KM ks) :: (bA2, KM (idsP g is)) :: (bA3, NM pn) :: (gA, oC #[sB (X.drop u), iN u] 84) :: O) [(v1, 88, 64, ks.length, (keyC ks)), (v2, 93, 32, is.length, (keyC is)), (v3, 101, 46, dn.length, (notC dn)), (vb, 9, 1, bxs.length, (strV bxs))]) ?_ ?_
                  · skip
                    refine wp_seq (rg_c FF67 MM67 [(1, l_ 2 (.int .i64 (fK i : Int))), (0, u_ 4 (.bool false))] 59 [111] [] (⟨rfl, rfl, (dec_f (by omega)), fun _ _ FF68 MM68 => then_n ?_⟩))
                    refine wp_cond_false (FF68.ev 0 rfl) ?_
                    refine wp_skip ?_
                    refine then_n ?_
                    exact ⟨fW i, (hW i), by omega, FF68.pick [1, 2, 3, 4, 5, 6, 7, 8, 9, 10, 11, 12], MM68⟩
                  · rintro ac69 wd69 ⟨Z, hZ, hZl, FF69, MM69⟩
                    obtain ⟨PO, hPO⟩ : ∃ z, (openN g (keyW (fA i)) (nonW (fR i)) ks (mget ((keyW (fA i)), (nonW (fR i)), Z) pn) Z).getD [] = z := ⟨_, rfl⟩
                    obtain ⟨PB, hPB⟩ : ∃ z, (openN g (keyW (fA i)) (nonW (fR i)) ks (mget ((keyW (fA i)), (nonW (fR i)), Z) pn) Z).isSome = z := ⟨_, rfl⟩
                    obtain ⟨fo, hfo⟩ : ∃ z, openF g (keyW (fA i)) (nonW (fR i)) ks (mget ((keyW (fA i)), (nonW (fR i)), Z) pn) Z = z := ⟨_, rfl⟩
                    have hfo1 : fo ≤ 1 := hfo ▸ openF_le g (keyW (fA i)) (nonW (fR i)) ks (mget ((keyW (fA i)), (nonW (fR i)), Z) pn) Z
                    refine wp_seq (rg_c FF69 MM69 [(1, b_ 0), (0, b_ 1), (1, c_ (.tuple #[sB PO, .bool PB]) [(5, oC #[.bool g, pT gA, .map (some bA1), .map (some bA2), .map (some bA3), iN (f + fo)] 82)])] 59 [] [] (⟨rfl, ((cn_size _ _).trans (keyW_ok (fA i)).1), rfl, ((cn_size _ _).trans (nonW_ok (fR i)).1), (callU_B [5, 6, 8] en_popen rfl rfl (fun w Hw => by have h0 := popen_any (K := (keyW (fA i))) hks ⟨(keyW_ok (fA i)).1, (keyW_ok (fA i)).2⟩ hp (N := (nonW (fR i))) (Z := Z) ⟨(nonW_ok (fR i)).1, (nonW_ok (fR i)).2⟩ hZ (by omega) (by omega) w Hw (distinct_names rfl (distinct_at MM69.distinct (is := [5, 6, 8]) rfl rfl)); rw [hPO, hPB, hfo] at h0; exact h0)), fun _ _ FF70 MM70 => then_n ?_⟩))
                    refine wp_seq (wp_region_list ?_)
                    refine rp_c 4 FF70 MM70 [(1, b_ 0), (0, b_ 1)] 133 [] [] (⟨rfl, ((cn_size _ _).trans (keyW_ok (fA i)).1), rfl, ((cn_size _ _).trans (nonW_ok (fR i)).1), fun _ wd71 FF71 MM71 => ?_⟩)
                    have Mq72 : MemS (fun k => k < w0.heap.size ∧ ∀ x ∈ O, x.1 ≠ k) w0 wd71 ((q, oC #[.bool g, pT t, v1, v2, v3, iN f] 37) :: (t, oC #[sB X, iN u] 32) :: (bk, .cells (cn .u8 (keyW (fA i))) 42) :: (bn, .cells (cn .u8 (nonW (fR i))) 45) :: (bx, oC #[.int .i64 (fK i : Int), iB (fA i), iB (fR i), sB (fW i), .int .i64 (fN i : Int)] 40) :: (bA, oC #[.bool g, pT gA, .map (some bA1), .map (some bA2), .map (some bA3), iN (f + fo)] 82) :: (bA1, KM ks) :: (bA2, KM (idsP g is)) :: (bA3, NM pn) :: (gA, oC #[sB (X.drop u), iN u] 84) :: O) [(v1, 88, 64, ks.length, (keyC ks)), (v2, 93, 32, is.length, (keyC is)), (v3, 101, 46, dn.length, (notC dn)), (vb, 9, 1, bxs.length, (strV bxs))] := MM71.perm (List.perm_append_comm_assoc [(bk, .cells (cn .u8 (keyW (fA i))) 42), (bn, .cells (cn .u8 (nonW (fR i))) 45), (bx, oC #[.int .i64 (fK i : Int), iB (fA i), iB (fR i), sB (fW i), .int .i64 (fN i : Int)] 40)] [(q, oC #[.bool g, pT t, v1, v2, v3, iN f] 37), (t, oC #[sB X, iN u] 32)] _)
                    refine st_callM [17, 16, 15, 58, 13, 12, 11, 10, 9, 8, 7, 0, 1, 2, 133] FF71 (d := 133) en_bopen rfl rfl (by have h0 := bopen_any hks (by omega) (by omega) hd (by omega) ⟨(keyW_ok (fA i)).1, (keyW_ok (fA i)).2⟩ ⟨(nonW_ok (fR i)).1, (nonW_ok (fR i)).2⟩ hZ hZl wd71 Mq72; rw [← hpd, hPO, hPB, hfo] at h0; exact h0) rfl (by kernel_rfl) (by decide) fun ac73 wd73 FF73 hr74 => ?_
                    obtain ⟨vq75, vq76, MM73⟩ := hr74
                    have Mq77 : MemS (fun k => k < w0.heap.size ∧ ∀ x ∈ O, x.1 ≠ k) w0 wd73 ((bk, .cells (cn .u8 (keyW (fA i))) 42) :: (bn, .cells (cn .u8 (nonW (fR i))) 45) :: (bx, oC #[.int .i64 (fK i : Int), iB (fA i), iB (fR i), sB (fW i), .int .i64 (fN i : Int)] 40) :: (q, oC #[.bool g, pT t, vq75, v2, vq76, iN (f + fo)] 37) :: (t, oC #[sB X, iN u] 32) :: (bA, oC #[.bool g, pT gA, .map (some bA1), .map (some bA2), .map (some bA3), iN (f + fo)] 82) :: (bA1, KM ks) :: (bA2, KM (idsP g is)) :: (bA3, NM pn) :: (gA, oC #[sB (X.drop u), iN u] 84) :: O) [(vq75, 88, 64, ks.length, (keyC ks)), (v2, 93, 32, is.length, (keyC is)), (vq76, 101, 46, dn.length, (notC dn)), (vb, 9, 1, bxs.length, (strV bxs))] := MM73.perm (List.perm_append_comm_assoc [(q, oC #[.bool g, pT t, vq75, v2, vq76, iN (f + fo)] 37), (t, oC #[sB X, iN u] 32)] [(bk, .cells (cn .u8 (keyW (fA i))) 42), (bn, .cells (cn .u8 (nonW (fR i))) 45), (bx, oC #[.int .i64 (fK i : Int), iB (fA i), iB (fR i), sB (fW i), .int .i64 (fN i : Int)] 40)] _)
                    refine rp_c 5 FF73 Mq77 [] 59 [] [] (fun _ _ FF78 MM78 => ?_)
                    refine wpl_nil (then_n ?_)
                    refine wp_seq (rg_c FF78 MM78 [(2, w_ 3), (3, f_ (.bool false))] 59 [143] [] (⟨(fun h => h rfl), (neB_same (neqB_ok (t := 4) (t' := 4) (x := (.tmp 140)) (y := (.tmp 141)) (p := PB) (q := PB) (by kernel_rfl) Try.underlying4 rfl rfl)), fun _ _ FF79 MM79 => then_n ?_⟩))
                    refine wp_cond_false (FF79.ev 0 rfl) ?_
                    refine wp_skip ?_
                    refine inb_n ?_
                    refine then_n ?_
                    exact ⟨u, ks, is, pn, dn, f + fo, vq75, v2, vq76, vb, bxs, by omega, hks, by omega, his, by omega, hwk, hwi, hp, hd, by omega, hpd, by omega, hbx, by omega, FF79.pick [7, 8, 9, 10, 11, 12, 13, 14, 15, 16], MM79⟩
                · skip
                  refine wp_seq (rg_c FF65 MM65 [(0, u_ 4 (.bool false))] 59 [99] [] (⟨(dec_f hk3), fun _ _ FF80 MM80 => then_n ?_⟩))
                  refine wp_cond_false (FF80.ev 0 rfl) ?_
                  by_cases hk4 : fK i = ((4 : Nat) : Int)
                  · skip
                    refine rg_c FF80 MM80 [(0, w_ 6)] 100 [] [] (⟨hk4, fun _ _ FF81 MM81 => ?_⟩)
                    refine then_n ?_
                    refine wp_cond_true (FF81.ev 0 rfl) ?_
                    refine wp_seq (rg_c FF81 MM81 [(1, l_ 2 (sB (fW i)))] 59 [] [] (⟨rfl, rfl, fun _ wd82 FF82 MM82 => then_n ?_⟩))
                    refine wp_mid (fun a' w' => ∃ Z : List Nat, (∀ j, Z.getD j 0 < 256) ∧ Z.length ≤ 300 ∧ Fr 183 a' [(15, sB Z), (58, .int .i64 (fK i : Int)), (13, pT bn), (12, pT bk), (11, pT bx), (10, iN i), (9, vb), (8, pT q), (7, pT bA), (0, .bool g), (1, sB X), (2, .slice p n cp)] ∧ MemS (fun k => k < w0.heap.size ∧ ∀ x ∈ O, x.1 ≠ k) w0 w' ((bk, .cells (cn .u8 (keyW (fA i))) 42) :: (bn, .cells (cn .u8 (nonW (fR i))) 45) :: (bx, oC #[.int .i64 (fK i : Int), iB (fA i), iB (fR i), sB (fW i), .int .i64 (fN i : Int)] 40) :: (q, oC #[.bool g, pT t, v1, v2, v3, iN f] 37) :: (t, oC #[sB X, iN u] 32) :: (bA, oC #[.bool g, pT gA, .map (some bA1), .map (some bA2), .map (some bA3), iN f] 82) :: (bA1, KM ks) :: (bA2, KM (idsP g is)) :: (bA3, NM pn) :: (gA, oC #[sB (X.drop u), iN u] 84) :: O) [(v1, 88, 64, ks.length, (keyC ks)), (v2, 93, 32, is.length, (keyC is)), (v3, 101, 46, dn.length, (notC dn)), (vb, 9, 1, bxs.length, (strV bxs))]) ?_ ?_
                    · skip
                      have Mz83 : MemS (fun k => k < w0.heap.size ∧ ∀ x ∈ O, x.1 ≠ k) w0 wd82 ((bk, .cells (cn .u8 (keyW (fA i))) 42) :: (bn, .cells (cn .u8 (nonW (fR i))) 45) :: (bx, oC #[.int .i64 (fK i : Int), iB (fA i), iB (fR i), sB (fW i), .int .i64 (fN i : Int)] 40) :: (q, oC #[.bool g, pT t, v1, v2, v3, iN f] 37) :: (t, oC #[sB X, iN u] 32) :: (bA, oC #[.bool g, pT gA, .map (some bA1), .map (some bA2), .map (some bA3), iN f] 82) :: (bA1, KM ks) :: (bA2, KM (idsP g is)) :: (bA3, NM pn) :: (gA, oC #[sB (X.drop u), iN u] 84) :: O) [(vb, 9, 1, bxs.length, (strV bxs)), (v1, 88, 64, ks.length, (keyC ks)), (v2, 93, 32, is.length, (keyC is)), (v3, 101, 46, dn.length, (notC dn))] := MM82.rowsPerm (List.perm_middle (l₁ := [(v1, 88, 64, ks.length, (keyC ks)), (v2, 93, 32, is.length, (keyC is)), (v3, 101, 46, dn.length, (notC dn))]))
                      obtain ⟨O84, pvb, cvb, Mf85, hFvb, rfl, hRB⟩ := MemS.frz (K := [(bk, .cells (cn .u8 (keyW (fA i))) 42), (bn, .cells (cn .u8 (nonW (fR i))) 45), (bx, oC #[.int .i64 (fK i : Int), iB (fA i), iB (fR i), sB (fW i), .int .i64 (fN i : Int)] 40), (q, oC #[.bool g, pT t, v1, v2, v3, iN f] 37), (t, oC #[sB X, iN u] 32), (bA, oC #[.bool g, pT gA, .map (some bA1), .map (some bA2), .map (some bA3), iN f] 82), (bA1, KM ks), (bA2, KM (idsP g is)), (bA3, NM pn), (gA, oC #[sB (X.drop u), iN u] 84)]) (O := O) Mz83
                      have hm86 := hA.mono hFvb.mono
                      have Mz87 : MemS (fun k => k < w0.heap.size ∧ ∀ x ∈ O, x.1 ≠ k) w0 wd82 ((bk, .cells (cn .u8 (keyW (fA i))) 42) :: (bn, .cells (cn .u8 (nonW (fR i))) 45) :: (bx, oC #[.int .i64 (fK i : Int), iB (fA i), iB (fR i), sB (fW i), .int .i64 (fN i : Int)] 40) :: (q, oC #[.bool g, pT t, v1, v2, v3, iN f] 37) :: (t, oC #[sB X, iN u] 32) :: (bA, oC #[.bool g, pT gA, .map (some bA1), .map (some bA2), .map (some bA3), iN f] 82) :: (bA1, KM ks) :: (bA2, KM (idsP g is)) :: (bA3, NM pn) :: (gA, oC #[sB (X.drop u), iN u] 84) :: O84) [(v1, 88, 64, ks.length, (keyC ks)), (v2, 93, 32, is.length, (keyC is)), (v3, 101, 46, dn.length, (notC dn))] := Mf85
                      refine wp_seq (rg_c FF82 Mz87 [(1, l_ 2 (.int .i64 (fK i : Int))), (0, w_ 6)] 59 [111] [] (⟨rfl, rfl, hk4, fun _ wd88 FF88 MM88 => then_n ?_⟩))
                      by_cases hs111 : bxs.length > 0
                      · refine wp_cond_true ((FF88.ev 0 rfl).trans (dec_t hs111)) ?_
                        have hmz := modZ_lt (fN i) (m := bxs.length) (by omega)
                        have hmem : bxs.getD (modZ (fN i) bxs.length) [] ∈ bxs := getD_memL hmz
                        refine rg_c FF88 MM88 [(2, l_ 2 (.int .i64 (fN i : Int))), (2, t_ (iN (modZ (fN i) bxs.length))), (0, f_ (.pointer (some ⟨gOf pvb, oOf pvb + modZ (fN i) bxs.length, none⟩))), (0, f_ (sB (bxs.getD (modZ (fN i) bxs.length) [])))] 59 [] [] (⟨rfl, rfl, (callP_of en_kmod (kmod_any (fN i) bxs.length (hN _).1 (hN _).2 (by omega) (by omega)) _), (rowX_addr (x := (.tmp 112)) (y := (.tmp 117)) (k := 1) (i := modZ (fN i) bxs.length) (by kernel_rfl) rfl rfl Try.underlying38 (by kernel_rfl) hRB (by omega) hmz), (rowX_load (x := (.tmp 118)) (j := modZ (fN i) bxs.length) (by kernel_rfl) rfl Try.underlying9 rfl hRB (fun _ hx => List.mem_cons_of_mem _ (List.mem_cons_of_mem _ (List.mem_cons_of_mem _ (List.mem_cons_of_mem _ (List.mem_cons_of_mem _ (List.mem_cons_of_mem _ (List.mem_cons_of_mem _ (List.mem_cons_of_mem _ (List.mem_cons_of_mem _ (List.mem_cons_of_mem _ (hx))))))))))) (by omega) (strV_at hmz)), fun _ wd89 FF89 MM89 => ?_⟩)
                        refine then_n ?_
                        have Mz90 : MemS (fun k => k < w0.heap.size ∧ ∀ x ∈ O, x.1 ≠ k) w0 wd89 ((bk, .cells (cn .u8 (keyW (fA i))) 42) :: (bn, .cells (cn .u8 (nonW (fR i))) 45) :: (bx, oC #[.int .i64 (fK i : Int), iB (fA i), iB (fR i), sB (fW i), .int .i64 (fN i : Int)] 40) :: (q, oC #[.bool g, pT t, v1, v2, v3, iN f] 37) :: (t, oC #[sB X, iN u] 32) :: (bA, oC #[.bool g, pT gA, .map (some bA1), .map (some bA2), .map (some bA3), iN f] 82) :: (bA1, KM ks) :: (bA2, KM (idsP g is)) :: (bA3, NM pn) :: (gA, oC #[sB (X.drop u), iN u] 84) :: O) [(.slice pvb bxs.length cvb, 9, 1, bxs.length, (strV bxs)), (v1, 88, 64, ks.length, (keyC ks)), (v2, 93, 32, is.length, (keyC is)), (v3, 101, 46, dn.length, (notC dn))] := MemS.thw (K := [(bk, .cells (cn .u8 (keyW (fA i))) 42), (bn, .cells (cn .u8 (nonW (fR i))) 45), (bx, oC #[.int .i64 (fK i : Int), iB (fA i), iB (fR i), sB (fW i), .int .i64 (fN i : Int)] 40), (q, oC #[.bool g, pT t, v1, v2, v3, iN f] 37), (t, oC #[sB X, iN u] 32), (bA, oC #[.bool g, pT gA, .map (some bA1), .map (some bA2), .map (some bA3), iN f] 82), (bA1, KM ks), (bA2, KM (idsP g is)), (bA3, NM pn), (gA, oC #[sB (X.drop u), iN u] 84)]) (O := O) MM89 hFvb
                        have Mz91 : MemS (fun k => k < w0.heap.size ∧ ∀ x ∈ O, x.1 ≠ k) w0 wd89 ((bk, .cells (cn .u8 (keyW (fA i))) 42) :: (bn, .cells (cn .u8 (nonW (fR i))) 45) :: (bx, oC #[.int .i64 (fK i : Int), iB (fA i), iB (fR i), sB (fW i), .int .i64 (fN i : Int)] 40) :: (q, oC #[.bool g, pT t, v1, v2, v3, iN f] 37) :: (t, oC #[sB X, iN u] 32) :: (bA, oC #[.bool g, pT gA, .map (some bA1), .map (some bA2), .map (some bA3), iN f] 82) :: (bA1, KM ks) :: (bA2, KM (idsP g is)) :: (bA3, NM pn) :: (gA, oC #[sB (X.drop u), iN u] 84) :: O) [(v1, 88, 64, ks.length, (keyC ks)), (v2, 93, 32, is.length, (keyC is)), (v3, 101, 46, dn.length, (notC dn)), (.slice pvb bxs.length cvb, 9, 1, bxs.length, (strV bxs))] := Mz90.rowsPerm (List.perm_middle (l₁ := [(v1, 88, 64, ks.length, (keyC ks)), (v2, 93, 32, is.length, (keyC is)), (v3, 101, 46, dn.length, (notC dn))])).symm
                        exact ⟨bxs.getD (modZ (fN i) bxs.length) [], (hbx _ hmem).1, (Nat.le_trans (hbx _ hmem).2 (by decide)), FF89.pick [0, 1, 2, 3, 4, 5, 6, 7, 8, 9, 10, 11], Mz91⟩
                      · refine wp_cond_false ((FF88.ev 0 rfl).trans (dec_f hs111)) ?_
                        refine wp_skip ?_
                        refine then_n ?_
                        have Mz92 : MemS (fun k => k < w0.heap.size ∧ ∀ x ∈ O, x.1 ≠ k) w0 wd88 ((bk, .cells (cn .u8 (keyW (fA i))) 42) :: (bn, .cells (cn .u8 (nonW (fR i))) 45) :: (bx, oC #[.int .i64 (fK i : Int), iB (fA i), iB (fR i), sB (fW i), .int .i64 (fN i : Int)] 40) :: (q, oC #[.bool g, pT t, v1, v2, v3, iN f] 37) :: (t, oC #[sB X, iN u] 32) :: (bA, oC #[.bool g, pT gA, .map (some bA1), .map (some bA2), .map (some bA3), iN f] 82) :: (bA1, KM ks) :: (bA2, KM (idsP g is)) :: (bA3, NM pn) :: (gA, oC #[sB (X.drop u), iN u] 84) :: O) [(.slice pvb bxs.length cvb, 9, 1, bxs.length, (strV bxs)), (v1, 88, 64, ks.length, (keyC ks)), (v2, 93, 32, is.length, (keyC is)), (v3, 101, 46, dn.length, (notC dn))] := MemS.thw (K := [(bk, .cells (cn .u8 (keyW (fA i))) 42), (bn, .cells (cn .u8 (nonW (fR i))) 45), (bx, oC #[.int .i64 (fK i : Int), iB (fA i), iB (fR i), sB (fW i), .int .i64 (fN i : Int)] 40), (q, oC #[.bool g, pT t, v1, v2, v3, iN f] 37), (t, oC #[sB X, iN u] 32), (bA, oC #[.bool g, pT gA, .map (some bA1), .map (some bA2), .map (some bA3), iN f] 82), (bA1, KM ks), (bA2, KM (idsP g is)), (bA3, NM pn), (gA, oC #[sB (X.drop u), iN u] 84)]) (O := O) MM88 hFvb
                        have Mz93 : MemS (fun k => k < w0.heap.size ∧ ∀ x ∈ O, x.1 ≠ k) w0 wd88 ((bk, .cells (cn .u8 (keyW (fA i))) 42) :: (bn, .cells (cn .u8 (nonW (fR i))) 45) :: (bx, oC #[.int .i64 (fK i : Int), iB (fA i), iB (fR i), sB (fW i), .int .i64 (fN i : Int)] 40) :: (q, oC #[.bool g, pT t, v1, v2, v3, iN f] 37) :: (t, oC #[sB X, iN u] 32) :: (bA, oC #[.bool g, pT gA, .map (some bA1), .map (some bA2), .map (some bA3), iN f] 82) :: (bA1, KM ks) :: (bA2, KM (idsP g is)) :: (bA3, NM pn) :: (gA, oC #[sB (X.drop u), iN u] 84) :: O) [(v1, 88, 64, ks.length, (keyC ks)), (v2, 93, 32, is.length, (keyC is)), (v3, 101, 46, dn.length, (notC dn)), (.slice pvb bxs.length cvb, 9, 1, bxs.length, (strV bxs))] := Mz92.rowsPerm (List.perm_middle (l₁ := [(v1, 88, 64, ks.length, (keyC ks)), (v2, 93, 32, is.length, (keyC is)), (v3, 101, 46, dn.length, (notC dn))])).symm
                        exact ⟨fW i, (hW i), by omega, FF88.pick [1, 2, 3, 4, 5, 6, 7, 8, 9, 10, 11, 12], Mz93⟩
                    · rintro ac94 wd94 ⟨Z, hZ, hZl, FF94, MM94⟩
                      obtain ⟨PO, hPO⟩ : ∃ z, (openN g (keyW (fA i)) (nonW (fR i)) ks (mget ((keyW (fA i)), (nonW (fR i)), Z) pn) Z).getD [] = z := ⟨_, rfl⟩
                      obtain ⟨PB, hPB⟩ : ∃ z, (openN g (keyW (fA i)) (nonW (fR i)) ks (mget ((keyW (fA i)), (nonW (fR i)), Z) pn) Z).isSome = z := ⟨_, rfl⟩
                      obtain ⟨fo, hfo⟩ : ∃ z, openF g (keyW (fA i)) (nonW (fR i)) ks (mget ((keyW (fA i)), (nonW (fR i)), Z) pn) Z = z := ⟨_, rfl⟩
                      have hfo1 : fo ≤ 1 := hfo ▸ openF_le g (keyW (fA i)) (nonW (fR i)) ks (mget ((keyW (fA i)), (nonW (fR i)), Z) pn) Z
                      refine wp_seq (rg_c FF94 MM94 [(1, b_ 0), (0, b_ 1), (1, c_ (.tuple #[sB PO, .bool PB]) [(5, oC #[.bool g, pT gA, .map (some bA1), .map (some bA2), .map (some bA3), iN (f + fo)] 82)])] 59 [] [] (⟨rfl, ((cn_size _ _).trans (keyW_ok (fA i)).1), rfl, ((cn_size _ _).trans (nonW_ok (fR i)).1), (callU_B [5, 6, 8] en_popen rfl rfl (fun w Hw => by have h0 := popen_any (K := (keyW (fA i))) hks ⟨(keyW_ok (fA i)).1, (keyW_ok (fA i)).2⟩ hp (N := (nonW (fR i))) (Z := Z) ⟨(nonW_ok (fR i)).1, (nonW_ok (fR i)).2⟩ hZ (by omega) (by omega) w Hw (distinct_names rfl (distinct_at MM94.distinct (is := [5, 6, 8]) rfl rfl)); rw [hPO, hPB, hfo] at h0; exact h0)), fun _ _ FF95 MM95 => then_n ?_⟩))
                      refine wp_seq (wp_region_list ?_)
                      refine rp_c 4 FF95 MM95 [(1, b_ 0), (0, b_ 1)] 133 [] [] (⟨rfl, ((cn_size _ _).trans (keyW_ok (fA i)).1), rfl, ((cn_size _ _).trans (nonW_ok (fR i)).1), fun _ wd96 FF96 MM96 => ?_⟩)
                      have Mq97 : MemS (fun k => k < w0.heap.size ∧ ∀ x ∈ O, x.1 ≠ k) w0 wd96 ((q, oC #[.bool g, pT t, v1, v2, v3, iN f] 37) :: (t, oC #[sB X, iN u] 32) :: (bk, .cells (cn .u8 (keyW (fA i))) 42) :: (bn, .cells (cn .u8 (nonW (fR i))) 45) :: (bx, oC #[.int .i64 (fK i : Int), iB (fA i), iB (fR i), sB (fW i), .int .i64 (fN i : Int)] 40) :: (bA, oC #[.bool g, pT gA, .map (some bA1), .map (some bA2), .map (some bA3), iN (f + fo)] 82) :: (bA1, KM ks) :: (bA2, KM (idsP g is)) :: (bA3, NM pn) :: (gA, oC #[sB (X.drop u), iN u] 84) :: O) [(v1, 88, 64, ks.length, (keyC ks)), (v2, 93, 32, is.length, (keyC is)), (v3, 101, 46, dn.length, (notC dn)), (vb, 9, 1, bxs.length, (strV bxs))] := MM96.perm (List.perm_append_comm_assoc [(bk, .cells (cn .u8 (keyW (fA i))) 42), (bn, .cells (cn .u8 (nonW (fR i))) 45), (bx, oC #[.int .i64 (fK i : Int), iB (fA i), iB (fR i), sB (fW i), .int .i64 (fN i : Int)] 40)] [(q, oC #[.bool g, pT t, v1, v2, v3, iN f] 37), (t, oC #[sB X, iN u] 32)] _)
                      refine st_callM [17, 16, 15, 58, 13, 12, 11, 10, 9, 8, 7, 0, 1, 2, 133] FF96 (d := 133) en_bopen rfl rfl (by have h0 := bopen_any hks (by omega) (by omega) hd (by omega) ⟨(keyW_ok (fA i)).1, (keyW_ok (fA i)).2⟩ ⟨(nonW_ok (fR i)).1, (nonW_ok (fR i)).2⟩ hZ hZl wd96 Mq97; rw [← hpd, hPO, hPB, hfo] at h0; exact h0) rfl (by kernel_rfl) (by decide) fun ac98 wd98 FF98 hr99 => ?_
                      obtain ⟨vq100, vq101, MM98⟩ := hr99
                      have Mq102 : MemS (fun k => k < w0.heap.size ∧ ∀ x ∈ O, x.1 ≠ k) w0 wd98 ((bk, .cells (cn .u8 (keyW (fA i))) 42) :: (bn, .cells (cn .u8 (nonW (fR i))) 45) :: (bx, oC #[.int .i64 (fK i : Int), iB (fA i), iB (fR i), sB (fW i), .int .i64 (fN i : Int)] 40) :: (q, oC #[.bool g, pT t, vq100, v2, vq101, iN (f + fo)] 37) :: (t, oC #[sB X, iN u] 32) :: (bA, oC #[.bool g, pT gA, .map (some bA1), .map (some bA2), .map (some bA3), iN (f + fo)] 82) :: (bA1, KM ks) :: (bA2, KM (idsP g is)) :: (bA3, NM pn) :: (gA, oC #[sB (X.drop u), iN u] 84) :: O) [(vq100, 88, 64, ks.length, (keyC ks)), (v2, 93, 32, is.length, (keyC is)), (vq101, 101, 46, dn.length, (notC dn)), (vb, 9, 1, bxs.length, (strV bxs))] := MM98.perm (List.perm_append_comm_assoc [(q, oC #[.bool g, pT t, vq100, v2, vq101, iN (f + fo)] 37), (t, oC #[sB X, iN u] 32)] [(bk, .cells (cn .u8 (keyW (fA i))) 42), (bn, .cells (cn .u8 (nonW (fR i))) 45), (bx, oC #[.int .i64 (fK i : Int), iB (fA i), iB (fR i), sB (fW i), .int .i64 (fN i : Int)] 40)] _)
                      refine rp_c 5 FF98 Mq102 [] 59 [] [] (fun _ _ FF103 MM103 => ?_)
                      refine wpl_nil (then_n ?_)
                      refine wp_seq (rg_c FF103 MM103 [(2, w_ 3), (3, f_ (.bool false))] 59 [143] [] (⟨(fun h => h rfl), (neB_same (neqB_ok (t := 4) (t' := 4) (x := (.tmp 140)) (y := (.tmp 141)) (p := PB) (q := PB) (by kernel_rfl) Try.underlying4 rfl rfl)), fun _ _ FF104 MM104 => then_n ?_⟩))
                      refine wp_cond_false (FF104.ev 0 rfl) ?_
                      refine wp_skip ?_
                      refine inb_n ?_
                      refine then_n ?_
                      exact ⟨u, ks, is, pn, dn, f + fo, vq100, v2, vq101, vb, bxs, by omega, hks, by omega, his, by omega, hwk, hwi, hp, hd, by omega, hpd, by omega, hbx, by omega, FF104.pick [7, 8, 9, 10, 11, 12, 13, 14, 15, 16], MM104⟩
                  · skip
                    refine rg_c FF80 MM80 [(0, u_ 4 (.bool false))] 100 [] [] (⟨(dec_f hk4), fun _ _ FF105 MM105 => ?_⟩)
                    refine then_n ?_
                    refine wp_cond_false (FF105.ev 0 rfl) ?_
                    refine wp_skip ?_
                    refine inb_n ?_
                    refine then_n ?_
                    exact ⟨u, ks, is, pn, dn, f, v1, v2, v3, vb, bxs, by omega, hks, by omega, his, by omega, hwk, hwi, hp, hd, by omega, hpd, by omega, hbx, by omega, FF105.pick [2, 3, 4, 5, 6, 7, 8, 9, 10, 11], MM105⟩
        · rintro ac106 wd106 ⟨u2, ks2, is2, pn2, dn2, f2, y1, y2, y3, yb, bys, hu2, hks2, hkl2, his2, hil2, hwk2, hwi2, hp2, hd2, hdl2, hpd2, hf2, hbx2, hbl2, FF106, MM106⟩
          obtain ⟨O107, py1, cy1, Mf108, hFy1, rfl, hR1⟩ := MemS.frz (K := [(bk, .cells (cn .u8 (keyW (fA i))) 42), (bn, .cells (cn .u8 (nonW (fR i))) 45), (bx, oC #[.int .i64 (fK i : Int), iB (fA i), iB (fR i), sB (fW i), .int .i64 (fN i : Int)] 40), (q, oC #[.bool g, pT t, y1, y2, y3, iN f2] 37), (t, oC #[sB X, iN u2] 32), (bA, oC #[.bool g, pT gA, .map (some bA1), .map (some bA2), .map (some bA3), iN f2] 82), (bA1, KM ks2), (bA2, KM (idsP g is2)), (bA3, NM pn2), (gA, oC #[sB (X.drop u2), iN u2] 84)]) (O := O) MM106
          have hm109 := hA.mono hFy1.mono
          have Mz110 : MemS (fun k => k < w0.heap.size ∧ ∀ x ∈ O, x.1 ≠ k) w0 wd106 ((bk, .cells (cn .u8 (keyW (fA i))) 42) :: (bn, .cells (cn .u8 (nonW (fR i))) 45) :: (bx, oC #[.int .i64 (fK i : Int), iB (fA i), iB (fR i), sB (fW i), .int .i64 (fN i : Int)] 40) :: (q, oC #[.bool g, pT t, .slice py1 ks2.length cy1, y2, y3, iN f2] 37) :: (t, oC #[sB X, iN u2] 32) :: (bA, oC #[.bool g, pT gA, .map (some bA1), .map (some bA2), .map (some bA3), iN f2] 82) :: (bA1, KM ks2) :: (bA2, KM (idsP g is2)) :: (bA3, NM pn2) :: (gA, oC #[sB (X.drop u2), iN u2] 84) :: O107) [(y2, 93, 32, is2.length, (keyC is2)), (y3, 101, 46, dn2.length, (notC dn2)), (yb, 9, 1, bys.length, (strV bys))] := Mf108
          obtain ⟨O111, py2, cy2, Mf112, hFy2, rfl, hR2⟩ := MemS.frz (K := [(bk, .cells (cn .u8 (keyW (fA i))) 42), (bn, .cells (cn .u8 (nonW (fR i))) 45), (bx, oC #[.int .i64 (fK i : Int), iB (fA i), iB (fR i), sB (fW i), .int .i64 (fN i : Int)] 40), (q, oC #[.bool g, pT t, .slice py1 ks2.length cy1, y2, y3, iN f2] 37), (t, oC #[sB X, iN u2] 32), (bA, oC #[.bool g, pT gA, .map (some bA1), .map (some bA2), .map (some bA3), iN f2] 82), (bA1, KM ks2), (bA2, KM (idsP g is2)), (bA3, NM pn2), (gA, oC #[sB (X.drop u2), iN u2] 84)]) (O := O107) Mz110
          have hm113 := hm109.mono hFy2.mono
          have hm114 := hR1.mono hFy2.mono
          have Mz115 : MemS (fun k => k < w0.heap.size ∧ ∀ x ∈ O, x.1 ≠ k) w0 wd106 ((bk, .cells (cn .u8 (keyW (fA i))) 42) :: (bn, .cells (cn .u8 (nonW (fR i))) 45) :: (bx, oC #[.int .i64 (fK i : Int), iB (fA i), iB (fR i), sB (fW i), .int .i64 (fN i : Int)] 40) :: (q, oC #[.bool g, pT t, .slice py1 ks2.length cy1, .slice py2 is2.length cy2, y3, iN f2] 37) :: (t, oC #[sB X, iN u2] 32) :: (bA, oC #[.bool g, pT gA, .map (some bA1), .map (some bA2), .map (some bA3), iN f2] 82) :: (bA1, KM ks2) :: (bA2, KM (idsP g is2)) :: (bA3, NM pn2) :: (gA, oC #[sB (X.drop u2), iN u2] 84) :: O111) [(y3, 101, 46, dn2.length, (notC dn2)), (yb, 9, 1, bys.length, (strV bys))] := Mf112
          refine wp_seq (rg_dc 38 FF106 Mz115 [(1, u_ 1 (iN f2)), (3, l_ 3 (iN f2)), (0, w_ 3), (2, b_ 0), (0, u_ 1 (.bool ((mget (keyW (fA i)) ks2).isSome))), (1, b_ 0), (0, u_ 1 (.bool ((mget (keyW (fA i)) ks2).isSome))), (0, f_ (.bool false)), (3, b_ 0), (0, u_ 1 (.agg (cn .u8 (ownN (keyW (fA i)) ks2)))), (1, b_ 0), (0, u_ 1 (.agg (cn .u8 (ownN (keyW (fA i)) ks2)))), (0, f_ (.bool false)), (4, l_ 2 (iB (fA i))), (0, t_ (.agg (cn .u8 (idW (fA i))))), (0, u_ 1 (.agg (cn .u8 (ownN (idW (fA i)) is2)))), (2, l_ 2 (iB (fA i))), (0, t_ (.agg (cn .u8 (idW (fA i))))), (0, u_ 1 (.agg (cn .u8 (ownN (idW (fA i)) is2)))), (0, f_ (.bool false))] [] 14 [181] [] (⟨(callP_B [5] en_pforged rfl (fun w Hw => pforged_any w Hw (distinct_names rfl (distinct_at Mz115.distinct (is := [5]) rfl rfl)))), rfl, rfl, (fun h => h rfl), rfl, ((cn_size _ _).trans (keyW_ok (fA i)).1), (callP_B [5, 6] en_pshared rfl (fun w Hw => pshared_any (K := (keyW (fA i))) hks2 ⟨(keyW_ok (fA i)).1, (keyW_ok (fA i)).2⟩ w Hw (distinct_names rfl (distinct_at Mz115.distinct (is := [5, 6]) rfl rfl)))), rfl, ((cn_size _ _).trans (keyW_ok (fA i)).1), ⟨en_bshared, fun w Hw => bshared_any hks2 (by omega) ⟨(keyW_ok (fA i)).1, (keyW_ok (fA i)).2⟩ hm114 w (has_cons (Hw 3 _ rfl) (Has.tl (Has.tl (Has.tl (Has.tl (Has.tl (Has.tl (Has.tl (Has.tl (Has.tl (Has.tl Hw))))))))))) (((((((((Mz115.dropAt 9).dropAt 8).dropAt 7).dropAt 6).dropAt 5).dropAt 4).dropAt 2).dropAt 1).dropAt 0).distinct⟩, (neB_same (neqB_ok (t := 4) (t' := 4) (x := (.tmp 154)) (y := (.tmp 157)) (p := (mget (keyW (fA i)) ks2).isSome) (q := (mget (keyW (fA i)) ks2).isSome) (by kernel_rfl) Try.underlying4 rfl rfl)), rfl, ((cn_size _ _).trans (keyW_ok (fA i)).1), (callP_B [5, 6] en_pKey rfl (fun w Hw => pKey_any (K := (keyW (fA i))) hks2 ⟨(keyW_ok (fA i)).1, (keyW_ok (fA i)).2⟩ w Hw (distinct_names rfl (distinct_at Mz115.distinct (is := [5, 6]) rfl rfl)))), rfl, ((cn_size _ _).trans (keyW_ok (fA i)).1), ⟨en_bKey, fun w Hw => bKey_any hks2 (by omega) ⟨(keyW_ok (fA i)).1, (keyW_ok (fA i)).2⟩ hm114 w (has_cons (Hw 3 _ rfl) (Has.tl (Has.tl (Has.tl (Has.tl (Has.tl (Has.tl (Has.tl (Has.tl (Has.tl (Has.tl Hw))))))))))) (((((((((Mz115.dropAt 9).dropAt 8).dropAt 7).dropAt 6).dropAt 5).dropAt 4).dropAt 2).dropAt 1).dropAt 0).distinct⟩, (neqA_ok (t := 42) (t' := 42) (e := 5) (m := 32) (k := .u8) (x := (.tmp 163)) (y := (.tmp 166)) (by kernel_rfl) Try.underlying42 Try.underlying5 (by kernel_rfl) (by kernel_rfl) (by kernel_rfl) rfl rfl (own_ok hks2 ⟨(keyW_ok (fA i)).1, (keyW_ok (fA i)).2⟩).1 (own_ok hks2 ⟨(keyW_ok (fA i)).1, (keyW_ok (fA i)).2⟩).1 (decide_eq_false (fun h => h rfl))), rfl, rfl, (callP_of en_idL (idL_any (fA i)) _), (callP_B [5, 7] en_pID rfl (fun w Hw => by have h0 := pID_any (K := (idW (fA i))) (okP_ids his2) ⟨(idW_ok (fA i)).1, (idW_ok (fA i)).2⟩ w Hw (distinct_names rfl (distinct_at Mz115.distinct (is := [5, 7]) rfl rfl)); rw [ids_own hwi2] at h0; exact h0)), rfl, rfl, (callP_of en_idL (idL_any (fA i)) _), ⟨en_bID, fun w Hw => bID_any his2 (by omega) ⟨(idW_ok (fA i)).1, (idW_ok (fA i)).2⟩ hR2 w (has_cons (Hw 3 _ rfl) (Has.tl (Has.tl (Has.tl (Has.tl (Has.tl (Has.tl (Has.tl (Has.tl (Has.tl (Has.tl Hw))))))))))) (((((((((Mz115.dropAt 9).dropAt 8).dropAt 7).dropAt 6).dropAt 5).dropAt 4).dropAt 2).dropAt 1).dropAt 0).distinct⟩, (neqA_ok (t := 51) (t' := 51) (e := 5) (m := 16) (k := .u8) (x := (.tmp 174)) (y := (.tmp 179)) (by kernel_rfl) Try.underlying51 Try.underlying5 (by kernel_rfl) (by kernel_rfl) (by kernel_rfl) rfl rfl (own_ok his2 ⟨(idW_ok (fA i)).1, (idW_ok (fA i)).2⟩).1 (own_ok his2 ⟨(idW_ok (fA i)).1, (idW_ok (fA i)).2⟩).1 (decide_eq_false (fun h => h rfl))), fun _ wd116 FF116 MM116 => then_n ?_⟩))
          have Mz117 : MemS (fun k => k < w0.heap.size ∧ ∀ x ∈ O, x.1 ≠ k) w0 wd116 ((bk, .cells (cn .u8 (keyW (fA i))) 42) :: (bn, .cells (cn .u8 (nonW (fR i))) 45) :: (bx, oC #[.int .i64 (fK i : Int), iB (fA i), iB (fR i), sB (fW i), .int .i64 (fN i : Int)] 40) :: (q, oC #[.bool g, pT t, .slice py1 ks2.length cy1, .slice py2 is2.length cy2, y3, iN f2] 37) :: (t, oC #[sB X, iN u2] 32) :: (bA, oC #[.bool g, pT gA, .map (some bA1), .map (some bA2), .map (some bA3), iN f2] 82) :: (bA1, KM ks2) :: (bA2, KM (idsP g is2)) :: (bA3, NM pn2) :: (gA, oC #[sB (X.drop u2), iN u2] 84) :: O107) [(.slice py2 is2.length cy2, 93, 32, is2.length, (keyC is2)), (y3, 101, 46, dn2.length, (notC dn2)), (yb, 9, 1, bys.length, (strV bys))] := MemS.thw (K := [(bk, .cells (cn .u8 (keyW (fA i))) 42), (bn, .cells (cn .u8 (nonW (fR i))) 45), (bx, oC #[.int .i64 (fK i : Int), iB (fA i), iB (fR i), sB (fW i), .int .i64 (fN i : Int)] 40), (q, oC #[.bool g, pT t, .slice py1 ks2.length cy1, .slice py2 is2.length cy2, y3, iN f2] 37), (t, oC #[sB X, iN u2] 32), (bA, oC #[.bool g, pT gA, .map (some bA1), .map (some bA2), .map (some bA3), iN f2] 82), (bA1, KM ks2), (bA2, KM (idsP g is2)), (bA3, NM pn2), (gA, oC #[sB (X.drop u2), iN u2] 84)]) (O := O107) MM116 hFy2
          have Mz118 : MemS (fun k => k < w0.heap.size ∧ ∀ x ∈ O, x.1 ≠ k) w0 wd116 ((bk, .cells (cn .u8 (keyW (fA i))) 42) :: (bn, .cells (cn .u8 (nonW (fR i))) 45) :: (bx, oC #[.int .i64 (fK i : Int), iB (fA i), iB (fR i), sB (fW i), .int .i64 (fN i : Int)] 40) :: (q, oC #[.bool g, pT t, .slice py1 ks2.length cy1, .slice py2 is2.length cy2, y3, iN f2] 37) :: (t, oC #[sB X, iN u2] 32) :: (bA, oC #[.bool g, pT gA, .map (some bA1), .map (some bA2), .map (some bA3), iN f2] 82) :: (bA1, KM ks2) :: (bA2, KM (idsP g is2)) :: (bA3, NM pn2) :: (gA, oC #[sB (X.drop u2), iN u2] 84) :: O) [(.slice py1 ks2.length cy1, 88, 64, ks2.length, (keyC ks2)), (.slice py2 is2.length cy2, 93, 32, is2.length, (keyC is2)), (y3, 101, 46, dn2.length, (notC dn2)), (yb, 9, 1, bys.length, (strV bys))] := MemS.thw (K := [(bk, .cells (cn .u8 (keyW (fA i))) 42), (bn, .cells (cn .u8 (nonW (fR i))) 45), (bx, oC #[.int .i64 (fK i : Int), iB (fA i), iB (fR i), sB (fW i), .int .i64 (fN i : Int)] 40), (q, oC #[.bool g, pT t, .slice py1 ks2.length cy1, .slice py2 is2.length cy2, y3, iN f2] 37), (t, oC #[sB X, iN u2] 32), (bA, oC #[.bool g, pT gA, .map (some bA1), .map (some bA2), .map (some bA3), iN f2] 82), (bA1, KM ks2), (bA2, KM (idsP g is2)), (bA3, NM pn2), (gA, oC #[sB (X.drop u2), iN u2] 84)]) (O := O) Mz117 hFy1
          refine wp_cond_false (FF116.ev 0 rfl) ?_
          refine wp_skip ?_
          refine inb_n (then_n ?_)
          refine rg_c FF116 Mz118 [] 14 [] [] (⟨by omega, fun _ _ FF119 MM119 => ?_⟩)
          have hd := cnt_of (FF119.get 0 rfl)
          refine then_n ⟨⟨i + 1, u2, ks2, is2, pn2, dn2, f2, .slice py1 ks2.length cy1, .slice py2 is2.length cy2, y3, yb, bys, by omega, hu2, hks2, hkl2, his2, hil2, hwk2, hwi2, hp2, hd2, hdl2, hpd2, hf2, hbx2, hbl2, FF119.pick [0, 4, 5, 6, 7, 8, 9], (((MM119.dropAt 2).dropAt 1).dropAt 0)⟩, ?_⟩
          rw [hc, hd]; omega
      · skip
        refine then_n (.inr ⟨(FF25.ev 0 rfl).trans (dec_f hlt), ?_⟩)
        refine then_n ?_
        refine wp_seq (rg_c FF25 MM25 [(0, t_ (.bool true))] 11 [] [] (⟨(callP_of en_wakesL wakes_any _), fun _ _ FF120 MM120 => then_n ?_⟩))
        refine wp_ret ?_
        repeat first | refine then_ret ?_ | refine inb_ret ?_
        exact (ret_fr FF120 0 Try.results3 rfl ⟨rfl, MM120.belowN H (fun _ hx => List.mem_cons_of_mem _ (List.mem_cons_of_mem _ (List.mem_cons_of_mem _ (List.mem_cons_of_mem _ (List.mem_cons_of_mem _ (List.mem_cons_of_mem _ (List.mem_cons_of_mem _ (hx))))))))⟩)
    · skip
      refine wp_seq (rg_c FF1 MM1 [(1, t_ (iN X.length)), (0, w_ 3), (2, u_ 1 (.bool false))] 7 [27] [] (⟨(vI (bs_size _)), h1, ⟨en_fairL, fun w Hw => fair_w p n cp fK fA fR fW fN false ⟨fun h => (by cases h), fun h => (hF h).elim⟩ w (hA.at Hw)⟩, fun _ _ FF121 MM121 => then_n ?_⟩))
      refine wp_cond_true (FF121.ev 0 rfl) ?_
      refine wp_seq (rg_c FF121 MM121 [(0, t_ (.bool true))] 7 [] [] (⟨(callP_of en_wakesL wakes_any _), fun _ _ FF122 MM122 => then_n ?_⟩))
      refine wp_ret ?_
      repeat first | refine then_ret ?_ | refine inb_ret ?_
      exact (ret_fr FF122 0 Try.results3 rfl ⟨rfl, MM122.belowN H (fun _ hx => hx)⟩)
end Go.Proofs.Ytniplfjnpjihoaa
namespace Go.Proofs.Ytniplfjnpjihoaa
open Go.ChangeShapes Go.WideShapes Go.ChangeAt Go.RowKit
set_option maxRecDepth 100000 in
theorem act_cells {H : Type} {enc : TypeId × Value → H} {W : World} {base' : Nat} {spare : Nat → Bool} {held : Bool} {fuel : Nat} {X : List Value} {x : DataW H × List MemPlace} (h : DataW.trod enc Try.prog W base' spare held fuel 40 X = some x) :
    ∃ (k : Int) (a r : Nat) (w : List Nat) (m : Int), X[0]? = some (.int .i64 k) ∧ X[1]? = some (.int .u8 (a : Nat)) ∧ X[2]? = some (.int .u8 (r : Nat)) ∧ X[3]? = some (.string (bs w)) ∧ X[4]? = some (.int .i64 m) ∧ (∀ i, w.getD i 0 < 256) ∧ (-9223372036854775808 ≤ m ∧ m < 9223372036854775808) := by
  obtain ⟨xs, m, _, _, hl, hlen, hel⟩ := DataW.trod_struct Try.underlying40 h
  have hx : xs.length = 5 := hlen
  have g : ∀ i, i < 5 → xs[i]? = some (xs[i]?.getD (.agg [], [])) := fun i hi => by simp [hx, hi]
  have e0 : DataW.trod enc Try.prog W base' spare held m 3 (List.take (Try.prog.cellsOf 3) (List.drop 0 X)) = xs[0]? := hel 0 _ rfl
  rw [show Try.prog.cellsOf 3 = 1 by kernel_rfl, g 0 (by omega)] at e0
  obtain ⟨z0, q0, _, w0⟩ := DataW.trod_int Try.underlying3 e0
  have e1 : DataW.trod enc Try.prog W base' spare held m 5 (List.take (Try.prog.cellsOf 5) (List.drop 1 X)) = xs[1]? := hel 1 _ rfl
  rw [show Try.prog.cellsOf 5 = 1 by kernel_rfl, g 1 (by omega)] at e1
  obtain ⟨z1, q1, _, w1⟩ := DataW.trod_int Try.underlying5 e1
  have bb1 := bounds_u8 w1
  obtain ⟨n1, rfl⟩ := Int.eq_ofNat_of_zero_le bb1.1
  have e2 : DataW.trod enc Try.prog W base' spare held m 5 (List.take (Try.prog.cellsOf 5) (List.drop 2 X)) = xs[2]? := hel 2 _ rfl
  rw [show Try.prog.cellsOf 5 = 1 by kernel_rfl, g 2 (by omega)] at e2
  obtain ⟨z2, q2, _, w2⟩ := DataW.trod_int Try.underlying5 e2
  have bb2 := bounds_u8 w2
  obtain ⟨n2, rfl⟩ := Int.eq_ofNat_of_zero_le bb2.1
  have e3 : DataW.trod enc Try.prog W base' spare held m 9 (List.take (Try.prog.cellsOf 9) (List.drop 3 X)) = xs[3]? := hel 3 _ rfl
  rw [show Try.prog.cellsOf 9 = 1 by kernel_rfl, g 3 (by omega)] at e3
  obtain ⟨z3, q3, _, w3⟩ := DataW.trod_string Try.underlying9 e3
  have e4 : DataW.trod enc Try.prog W base' spare held m 3 (List.take (Try.prog.cellsOf 3) (List.drop 4 X)) = xs[4]? := hel 4 _ rfl
  rw [show Try.prog.cellsOf 3 = 1 by kernel_rfl, g 4 (by omega)] at e4
  obtain ⟨z4, q4, _, w4⟩ := DataW.trod_int Try.underlying3 e4
  have bb4 := bounds_i64 w4
  refine ⟨z0, n1, n2, nl z3, z4, ?_, ?_, ?_, ?_, ?_, nl_lt z3, bb4.1, by have := bb4.2; omega⟩
  · have h3 := congrArg (fun l => l[0]?) q0; simpa [Value.cells] using h3
  · have h3 := congrArg (fun l => l[0]?) q1; simpa [Value.cells] using h3
  · have h3 := congrArg (fun l => l[0]?) q2; simpa [Value.cells] using h3
  · rw [bs_nl]; have h3 := congrArg (fun l => l[0]?) q3; simpa [Value.cells] using h3
  · have h3 := congrArg (fun l => l[0]?) q4; simpa [Value.cells] using h3
set_option maxRecDepth 100000 in
theorem acts_param {H : Type} {enc : TypeId × Value → H} {W : World} {r : Reach} {base base' : Nat} {spare : Nat → Bool} {held : Bool} {v : Value} {d : DataW H} {q : List MemPlace} (hv : Value.okWide Try.prog W r base 22 v) (h : DataW.Trod enc Try.prog W base' spare held 22 v d q) :
    ∃ (p : Option Addr) (n c : Nat) (fK : Nat → Int) (fA fR : Nat → Nat) (fW : Nat → List Nat) (fN : Nat → Int), v = .slice p n c ∧ (∀ i j, (fW i).getD j 0 < 256) ∧ (∀ j, -9223372036854775808 ≤ fN j ∧ fN j < 9223372036854775808) ∧ RowIn W p (n * 5) (actV fK fA fR fW fN) := by
  obtain ⟨p, n, c, rfl, h1⟩ := rowX_param Try.underlying22 (k := 5) (by kernel_rfl) (by decide) hv h
  rcases h1 with rfl | ⟨b, off, cs, T, fr, h2, h3, h4⟩
  · exact ⟨p, 0, c, fun _ => 0, fun _ => 0, fun _ => 0, fun _ => [], fun _ => 0, rfl, fun i j => by simp, fun _ => (show (-9223372036854775808 : Int) ≤ 0 ∧ (0 : Int) < 9223372036854775808 by decide), .inl rfl⟩
  · have key : ∀ j, ∃ x : Int × Nat × Nat × List Nat × Int, (∀ i, x.2.2.2.1.getD i 0 < 256) ∧ (-9223372036854775808 ≤ x.2.2.2.2 ∧ x.2.2.2.2 < 9223372036854775808) ∧ (j < n → cs[off + (j * 5 + 0)]? = some (.int .i64 x.1) ∧ cs[off + (j * 5 + 1)]? = some (.int .u8 (x.2.1 : Nat)) ∧ cs[off + (j * 5 + 2)]? = some (.int .u8 (x.2.2.1 : Nat)) ∧ cs[off + (j * 5 + 3)]? = some (.string (bs x.2.2.2.1)) ∧ cs[off + (j * 5 + 4)]? = some (.int .i64 x.2.2.2.2)) := fun j => by
      by_cases hj : j < n
      · obtain ⟨X, x, fuel, q1, q2, q3⟩ := h4 j hj
        obtain ⟨k, a, r, w, m, a0, a1, a2, a3, a4, hw, hm⟩ := act_cells q3
        exact ⟨(k, a, r, w, m), hw, hm, fun _ => ⟨(q2 0 (by decide)).trans a0, (q2 1 (by decide)).trans a1, (q2 2 (by decide)).trans a2, (q2 3 (by decide)).trans a3, (q2 4 (by decide)).trans a4⟩⟩
      · exact ⟨(0, 0, 0, [], 0), fun i => by simp, by decide, fun h => (hj h).elim⟩
    obtain ⟨f, hf⟩ := Classical.axiomOfChoice key
    refine ⟨p, n, c, fun i => (f i).1, fun i => (f i).2.1, fun i => (f i).2.2.1, fun i => (f i).2.2.2.1, fun i => (f i).2.2.2.2, rfl, fun i => (hf i).1, fun i => (hf i).2.1, .inr ⟨b, off, cs, T, fr, h2, h3, fun j hj => ?_⟩⟩
    obtain ⟨g0, g1, g2, g3, g4⟩ := (hf (j / 5)).2.2 (by omega)
    have hm : j % 5 = 0 ∨ j % 5 = 1 ∨ j % 5 = 2 ∨ j % 5 = 3 ∨ j % 5 = 4 := by omega
    rcases hm with hm | hm | hm | hm | hm
    · rw [show j = j / 5 * 5 + 0 by omega, g0, Nat.add_zero, actV_0]
    · rw [show j = j / 5 * 5 + 1 by omega, g1, actV_1]
    · rw [show j = j / 5 * 5 + 2 by omega, g2, actV_2]
    · rw [show j = j / 5 * 5 + 3 by omega, g3, actV_3]
    · rw [show j = j / 5 * 5 + 4 by omega, g4, actV_4]
end Go.Proofs.Ytniplfjnpjihoaa
