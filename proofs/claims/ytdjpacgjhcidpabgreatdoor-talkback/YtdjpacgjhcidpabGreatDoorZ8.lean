/- Several texts in one: Package book: Open, Forged, New. Package wire: bodies, requests. Books of nil. Package talk: lesser, inRow, keyOf, nonce, Name, Meet. Package talk: Idle, Say, Hear. A book in which a Say has been. No program in this text. Package talk: Say, Hear in any book. Two keys in common and two digests, reckoned. No program in this text. -/
import Derived.Test.YtdjpacgjhcidpabGreatDoorZ7
import Derived.Test.YtdjpacgjhcidpabGreatDoorZ6
namespace Go.Proofs.YtdjpacgjhcidpabGreatDoor
open Go.RowKit
set_option maxRecDepth 100000 in
theorem popen_any {b m1 m2 m3 : Nat} {i : Bool} {t : Value} {f : Nat} {ks : Pairs} {K : List Nat} (hk : OkP 32 ks) (hK : BytesK 32 K) {pn : Notes} (hp_ : OkQ pn) {N Z : List Nat} (hN : BytesK 12 N) (hZ : ∀ i, Z.getD i 0 < 256) (hZl : Z.length ≤ 1000000) (hf : f < 4611686018427387904) (w0 : World) (H : Has w0 [(b, oC #[.bool i, t, .map (some m1), .map (some m2), .map (some m3), iN f] 73), (m1, KM ks), (m3, NM pn)]) (hD : Distinct [(b, oC #[.bool i, t, .map (some m1), .map (some m2), .map (some m3), iN f] 73), (m1, KM ks), (m3, NM pn)]) :
    Calls Tryz.prog 36 #[pT b, .agg (cn .u8 K), .agg (cn .u8 N), sB Z] w0 fun e w' => e = .returned (.tuple #[sB ((openN i K N ks (mget (K, N, Z) pn) Z).getD []), .bool (openN i K N ks (mget (K, N, Z) pn) Z).isSome]) ∧ TurnB [(b, BB i t m1 m2 m3 (f + openF i K N ks (mget (K, N, Z) pn) Z))] w0 w' := by
  refine enter_fr Tryz.func36 rfl Tryz.ntmps36 (by simp) fun ac (FF : Fr 64 ac [(0, pT b), (1, .agg (cn .u8 K)), (2, .agg (cn .u8 N)), (3, sB Z)]) => ?_
  have MM : MemS (fun k => k < w0.heap.size ∧ ∀ x ∈ [(b, oC #[.bool i, t, .map (some m1), .map (some m2), .map (some m3), iN f] 73), (m1, KM ks), (m3, NM pn)], x.1 ≠ k) w0 w0 [(b, oC #[.bool i, t, .map (some m1), .map (some m2), .map (some m3), iN f] 73), (m1, KM ks), (m3, NM pn)] [] := MemS.startN H hD
  refine wp_seq (rg_c FF MM [(0, s_ 0 (.cells (cn .u8 K) 23)), (0, s_ 0 (.cells (cn .u8 N) 56)), (0, t_ (sB []))] 9 [9] [1, 2] (⟨(by kernel_rfl), fun bk => ⟨(by kernel_rfl), fun bn => ⟨(by kernel_rfl), fun _ _ FF1 MM1 => then_n ?_⟩⟩⟩))
  refine wp_seq ?_
  cases hg : mget K ks with
  | none =>
    refine wp_seq (rg_c FF1 MM1 [(1, b_ 1), (0, u_ 1 (.bool false))] 10 [17] [] (⟨rfl, ((cn_size _ _).trans hK.1), (callP_B [2, 3] en_pshared rfl (fun w Hw => by have h0 := pshared_any hk hK w Hw (distinct_names rfl (distinct_at MM1.distinct (is := [2, 3]) rfl rfl)); rw [hg] at h0; exact h0)), fun _ _ FF2 MM2 => then_n ?_⟩))
    refine wp_cond_true (FF2.ev 0 rfl) ?_
    by_cases ho : opensN K N [] Z
    · skip
      refine wp_seq (rg_c FF2 MM2 [(0, b_ 1), (0, b_ 0), (1, t_ (.tuple #[sB (plainN K N Z), .bool true]))] 9 [9] [] (⟨rfl, ((cn_size _ _).trans hK.1), rfl, ((cn_size _ _).trans hN.1), (callP_of en_Open (open_yes K N ⟨hK.1, hK.2⟩ ⟨hN.1, hN.2⟩ [] Z (lit_lt (by kernel_rfl)) hZ (by decide) (by omega) ho.1 ho) _), fun _ _ FF3 MM3 => then_n ?_⟩))
      refine wp_ret ?_
      repeat first | refine then_ret ?_ | refine inb_ret ?_
      exact (ret_tup2 FF3 1 0 Tryz.results36 rfl rfl (by rw [(opn_no hg).1, (opn_no hg).2, if_pos ho]; exact ⟨rfl, MM3.turnB [(b, oC #[.bool i, t, .map (some m1), .map (some m2), .map (some m3), iN f] 73)] H (List.forall_mem_cons.2 ⟨(List.mem_of_getElem? (i := 2) rfl), (fun _ h => (nomatch h))⟩) (List.forall_mem_cons.2 ⟨.inr ⟨_, (List.mem_of_getElem? (i := 0) rfl), rfl⟩, (List.forall_mem_cons.2 ⟨.inl (List.mem_of_getElem? (i := 3) rfl), (List.forall_mem_cons.2 ⟨.inl (List.mem_of_getElem? (i := 4) rfl), (fun _ h => (nomatch h))⟩)⟩)⟩)⟩))
    · skip
      refine wp_seq (rg_c FF2 MM2 [(0, b_ 1), (0, b_ 0), (1, t_ (.tuple #[sB [], .bool false]))] 9 [9] [] (⟨rfl, ((cn_size _ _).trans hK.1), rfl, ((cn_size _ _).trans hN.1), (callP_of en_Open (open_no K N ⟨hK.1, hK.2⟩ ⟨hN.1, hN.2⟩ [] Z (lit_lt (by kernel_rfl)) hZ (by decide) (by omega) ho) _), fun _ _ FF4 MM4 => then_n ?_⟩))
      refine wp_ret ?_
      repeat first | refine then_ret ?_ | refine inb_ret ?_
      exact (ret_tup2 FF4 1 0 Tryz.results36 rfl rfl (by rw [(opn_no hg).1, (opn_no hg).2, if_neg ho]; exact ⟨rfl, MM4.turnB [(b, oC #[.bool i, t, .map (some m1), .map (some m2), .map (some m3), iN f] 73)] H (List.forall_mem_cons.2 ⟨(List.mem_of_getElem? (i := 2) rfl), (fun _ h => (nomatch h))⟩) (List.forall_mem_cons.2 ⟨.inr ⟨_, (List.mem_of_getElem? (i := 0) rfl), rfl⟩, (List.forall_mem_cons.2 ⟨.inl (List.mem_of_getElem? (i := 3) rfl), (List.forall_mem_cons.2 ⟨.inl (List.mem_of_getElem? (i := 4) rfl), (fun _ h => (nomatch h))⟩)⟩)⟩)⟩))
  | some own =>
    refine wp_seq (rg_c FF1 MM1 [(1, b_ 1), (0, u_ 1 (.bool true))] 10 [17] [] (⟨rfl, ((cn_size _ _).trans hK.1), (callP_B [2, 3] en_pshared rfl (fun w Hw => by have h0 := pshared_any hk hK w Hw (distinct_names rfl (distinct_at MM1.distinct (is := [2, 3]) rfl rfl)); rw [hg] at h0; exact h0)), fun _ _ FF5 MM5 => then_n ?_⟩))
    refine wp_cond_false (FF5.ev 0 rfl) ?_
    refine wp_skip ?_
    refine then_n ?_
    cases hn : mget (K, N, Z) pn with
    | none =>
      refine wp_seq (rg_dc 14 FF5 MM5 [(3, l_ 2 (.map (some m3))), (0, b_ 1), (0, b_ 0), (1, f_ (.agg ((cn .u8 K) ++ (cn .u8 N) ++ (#[sB Z] : Array Value)))), (0, f_ (.tuple #[sB [], .bool false]))] [] 12 [] [] (⟨rfl, rfl, rfl, ((cn_size _ _).trans hK.1), rfl, ((cn_size _ _).trans hN.1), (build_ok (t := 111) (ps := #[(0, (.tmp 29)), (1, (.tmp 30)), (2, (.tmp 31))]) (by kernel_rfl) rfl (built_fits (pl := [(0, 32), (32, 12), (44, 1)]) (tot := 45) (n := 32) (by kernel_rfl) (by kernel_rfl) (ns := [12, 1]) ⟨rfl, (show (cn .u8 K).size = 32 from ((cn_size _ _).trans hK.1)), rfl, (show (cn .u8 N).size = 12 from ((cn_size _ _).trans hN.1)), rfl, rfl, rfl⟩ rfl)), (mapNo_ok (t := 71) (m := (.tmp 28)) (y := (.tmp 32)) (b := m3) (i := 4) (kf := boxV) (vf := noteV) (l := pn) (x := (K, N, Z)) (c := true) (z := sB []) (by kernel_rfl) rfl rfl Tryz.underlying71 box_law (fun p hp => (hp_.1 p hp).1) hp_.2 ⟨hK, hN, hZ, hZl⟩ rfl (by kernel_rfl) hn), fun _ _ FF6 MM6 => then_n ?_⟩))
      refine wp_seq ?_
      cases i with
      | false =>
        refine wp_seq (rg_c FF6 MM6 [(3, l_ 2 (.bool false))] 12 [39] [] (⟨rfl, rfl, fun _ _ FF7 MM7 => then_n ?_⟩))
        refine wp_cond_false (FF7.ev 0 rfl) ?_
        refine wp_skip ?_
        refine then_n ?_
        by_cases ho : opensN K N [] Z
        · skip
          refine wp_seq (rg_c FF7 MM7 [(0, b_ 1), (0, b_ 0), (1, t_ (.tuple #[sB (plainN K N Z), .bool true]))] 14 [] [] (⟨rfl, ((cn_size _ _).trans hK.1), rfl, ((cn_size _ _).trans hN.1), (callP_of en_Open (open_yes K N ⟨hK.1, hK.2⟩ ⟨hN.1, hN.2⟩ [] Z (lit_lt (by kernel_rfl)) hZ (by decide) (by omega) ho.1 ho) _), fun _ _ FF8 MM8 => then_n ?_⟩))
          refine wp_seq ?_
          refine wp_seq (rg_c FF8 MM8 [] 14 [54] [] (fun _ _ FF9 MM9 => then_n ?_))
          refine wp_cond_true (FF9.ev 0 rfl) ?_
          refine rg_c FF9 MM9 [(3, l_ 2 (iN f)), (3, s_ 2 (oC #[.bool false, t, .map (some m1), .map (some m2), .map (some m3), iN (f + 1)] 73))] 14 [] [] (⟨rfl, rfl, by omega, rfl, (by simp), (.inl rfl), rfl, fun _ _ FF10 MM10 => ?_⟩)
          refine then_n ?_
          refine wp_seq (rg_c FF10 MM10 [] 12 [13] [] (fun _ _ FF11 MM11 => then_n ?_))
          refine wp_ret ?_
          repeat first | refine then_ret ?_ | refine inb_ret ?_
          exact (ret_tup2 FF11 1 0 Tryz.results36 rfl rfl (by rw [(opn_real hg).1, (opn_real hg).2, if_pos ho, decide_eq_true ho]; exact ⟨rfl, MM11.turnB [(b, oC #[.bool false, t, .map (some m1), .map (some m2), .map (some m3), iN (f + 1)] 73)] H (List.forall_mem_cons.2 ⟨(List.mem_of_getElem? (i := 2) rfl), (fun _ h => (nomatch h))⟩) (List.forall_mem_cons.2 ⟨.inr ⟨_, (List.mem_of_getElem? (i := 0) rfl), rfl⟩, (List.forall_mem_cons.2 ⟨.inl (List.mem_of_getElem? (i := 3) rfl), (List.forall_mem_cons.2 ⟨.inl (List.mem_of_getElem? (i := 4) rfl), (fun _ h => (nomatch h))⟩)⟩)⟩)⟩))
        · skip
          refine wp_seq (rg_c FF7 MM7 [(0, b_ 1), (0, b_ 0), (1, t_ (.tuple #[sB [], .bool false]))] 14 [] [] (⟨rfl, ((cn_size _ _).trans hK.1), rfl, ((cn_size _ _).trans hN.1), (callP_of en_Open (open_no K N ⟨hK.1, hK.2⟩ ⟨hN.1, hN.2⟩ [] Z (lit_lt (by kernel_rfl)) hZ (by decide) (by omega) ho) _), fun _ _ FF12 MM12 => then_n ?_⟩))
          refine wp_seq ?_
          refine wp_seq (rg_c FF12 MM12 [] 14 [54] [] (fun _ _ FF13 MM13 => then_n ?_))
          refine wp_cond_false (FF13.ev 0 rfl) ?_
          refine wp_skip ?_
          refine then_n ?_
          refine wp_seq (rg_c FF13 MM13 [] 12 [13] [] (fun _ _ FF14 MM14 => then_n ?_))
          refine wp_ret ?_
          repeat first | refine then_ret ?_ | refine inb_ret ?_
          exact (ret_tup2 FF14 1 0 Tryz.results36 rfl rfl (by rw [(opn_real hg).1, (opn_real hg).2, if_neg ho, decide_eq_false ho, Bool.and_false]; exact ⟨rfl, MM14.turnB [(b, oC #[.bool false, t, .map (some m1), .map (some m2), .map (some m3), iN f] 73)] H (List.forall_mem_cons.2 ⟨(List.mem_of_getElem? (i := 2) rfl), (fun _ h => (nomatch h))⟩) (List.forall_mem_cons.2 ⟨.inr ⟨_, (List.mem_of_getElem? (i := 0) rfl), rfl⟩, (List.forall_mem_cons.2 ⟨.inl (List.mem_of_getElem? (i := 3) rfl), (List.forall_mem_cons.2 ⟨.inl (List.mem_of_getElem? (i := 4) rfl), (fun _ h => (nomatch h))⟩)⟩)⟩)⟩))
      | true =>
        refine wp_seq (rg_c FF6 MM6 [(3, l_ 2 (.bool true))] 12 [39] [] (⟨rfl, rfl, fun _ _ FF15 MM15 => then_n ?_⟩))
        refine wp_cond_true (FF15.ev 0 rfl) ?_
        refine wp_seq (rg_c FF15 MM15 [(1, t_ (sB []))] 10 [11] [] (⟨(callP_of en_clone (clone_any [] (lit_lt (by kernel_rfl)) (by decide)) _), fun _ _ FF16 MM16 => then_n ?_⟩))
        refine wp_ret ?_
        repeat first | refine then_ret ?_ | refine inb_ret ?_
        exact (ret_tup2 FF16 1 0 Tryz.results36 rfl rfl (by rw [(opn_ideal hg).1, (opn_ideal hg).2]; exact ⟨rfl, MM16.turnB [(b, oC #[.bool true, t, .map (some m1), .map (some m2), .map (some m3), iN f] 73)] H (List.forall_mem_cons.2 ⟨(List.mem_of_getElem? (i := 2) rfl), (fun _ h => (nomatch h))⟩) (List.forall_mem_cons.2 ⟨.inr ⟨_, (List.mem_of_getElem? (i := 0) rfl), rfl⟩, (List.forall_mem_cons.2 ⟨.inl (List.mem_of_getElem? (i := 3) rfl), (List.forall_mem_cons.2 ⟨.inl (List.mem_of_getElem? (i := 4) rfl), (fun _ h => (nomatch h))⟩)⟩)⟩)⟩))
    | some pl =>
      refine wp_seq (rg_dc 14 FF5 MM5 [(3, l_ 2 (.map (some m3))), (0, b_ 1), (0, b_ 0), (1, f_ (.agg ((cn .u8 K) ++ (cn .u8 N) ++ (#[sB Z] : Array Value)))), (0, f_ (.tuple #[sB pl, .bool true]))] [] 12 [] [] (⟨rfl, rfl, rfl, ((cn_size _ _).trans hK.1), rfl, ((cn_size _ _).trans hN.1), (build_ok (t := 111) (ps := #[(0, (.tmp 29)), (1, (.tmp 30)), (2, (.tmp 31))]) (by kernel_rfl) rfl (built_fits (pl := [(0, 32), (32, 12), (44, 1)]) (tot := 45) (n := 32) (by kernel_rfl) (by kernel_rfl) (ns := [12, 1]) ⟨rfl, (show (cn .u8 K).size = 32 from ((cn_size _ _).trans hK.1)), rfl, (show (cn .u8 N).size = 12 from ((cn_size _ _).trans hN.1)), rfl, rfl, rfl⟩ rfl)), (mapYes_ok (t := 71) (m := (.tmp 28)) (y := (.tmp 32)) (b := m3) (i := 4) (kf := boxV) (vf := noteV) (l := pn) (x := (K, N, Z)) (c := true) (v := pl) (by kernel_rfl) rfl rfl Tryz.underlying71 box_law (fun p hp => (hp_.1 p hp).1) hp_.2 ⟨hK, hN, hZ, hZl⟩ rfl hn), fun _ _ FF17 MM17 => then_n ?_⟩))
      refine wp_seq ?_
      cases i with
      | false =>
        refine wp_seq (rg_c FF17 MM17 [(3, l_ 2 (.bool false))] 12 [39] [] (⟨rfl, rfl, fun _ _ FF18 MM18 => then_n ?_⟩))
        refine wp_cond_false (FF18.ev 0 rfl) ?_
        refine wp_skip ?_
        refine then_n ?_
        by_cases ho : opensN K N [] Z
        · skip
          refine wp_seq (rg_c FF18 MM18 [(0, b_ 1), (0, b_ 0), (1, t_ (.tuple #[sB (plainN K N Z), .bool true]))] 14 [] [] (⟨rfl, ((cn_size _ _).trans hK.1), rfl, ((cn_size _ _).trans hN.1), (callP_of en_Open (open_yes K N ⟨hK.1, hK.2⟩ ⟨hN.1, hN.2⟩ [] Z (lit_lt (by kernel_rfl)) hZ (by decide) (by omega) ho.1 ho) _), fun _ _ FF19 MM19 => then_n ?_⟩))
          refine wp_seq ?_
          refine wp_seq (rg_c FF19 MM19 [] 14 [54] [] (fun _ _ FF20 MM20 => then_n ?_))
          refine wp_cond_false (FF20.ev 0 rfl) ?_
          refine wp_skip ?_
          refine then_n ?_
          refine wp_seq (rg_c FF20 MM20 [] 12 [13] [] (fun _ _ FF21 MM21 => then_n ?_))
          refine wp_ret ?_
          repeat first | refine then_ret ?_ | refine inb_ret ?_
          exact (ret_tup2 FF21 1 0 Tryz.results36 rfl rfl (by rw [(opn_real hg).1, (opn_real hg).2, if_pos ho, decide_eq_true ho]; exact ⟨rfl, MM21.turnB [(b, oC #[.bool false, t, .map (some m1), .map (some m2), .map (some m3), iN f] 73)] H (List.forall_mem_cons.2 ⟨(List.mem_of_getElem? (i := 2) rfl), (fun _ h => (nomatch h))⟩) (List.forall_mem_cons.2 ⟨.inr ⟨_, (List.mem_of_getElem? (i := 0) rfl), rfl⟩, (List.forall_mem_cons.2 ⟨.inl (List.mem_of_getElem? (i := 3) rfl), (List.forall_mem_cons.2 ⟨.inl (List.mem_of_getElem? (i := 4) rfl), (fun _ h => (nomatch h))⟩)⟩)⟩)⟩))
        · skip
          refine wp_seq (rg_c FF18 MM18 [(0, b_ 1), (0, b_ 0), (1, t_ (.tuple #[sB [], .bool false]))] 14 [] [] (⟨rfl, ((cn_size _ _).trans hK.1), rfl, ((cn_size _ _).trans hN.1), (callP_of en_Open (open_no K N ⟨hK.1, hK.2⟩ ⟨hN.1, hN.2⟩ [] Z (lit_lt (by kernel_rfl)) hZ (by decide) (by omega) ho) _), fun _ _ FF22 MM22 => then_n ?_⟩))
          refine wp_seq ?_
          refine wp_seq (rg_c FF22 MM22 [] 14 [54] [] (fun _ _ FF23 MM23 => then_n ?_))
          refine wp_cond_false (FF23.ev 0 rfl) ?_
          refine wp_skip ?_
          refine then_n ?_
          refine wp_seq (rg_c FF23 MM23 [] 12 [13] [] (fun _ _ FF24 MM24 => then_n ?_))
          refine wp_ret ?_
          repeat first | refine then_ret ?_ | refine inb_ret ?_
          exact (ret_tup2 FF24 1 0 Tryz.results36 rfl rfl (by rw [(opn_real hg).1, (opn_real hg).2, if_neg ho, decide_eq_false ho, Bool.and_false]; exact ⟨rfl, MM24.turnB [(b, oC #[.bool false, t, .map (some m1), .map (some m2), .map (some m3), iN f] 73)] H (List.forall_mem_cons.2 ⟨(List.mem_of_getElem? (i := 2) rfl), (fun _ h => (nomatch h))⟩) (List.forall_mem_cons.2 ⟨.inr ⟨_, (List.mem_of_getElem? (i := 0) rfl), rfl⟩, (List.forall_mem_cons.2 ⟨.inl (List.mem_of_getElem? (i := 3) rfl), (List.forall_mem_cons.2 ⟨.inl (List.mem_of_getElem? (i := 4) rfl), (fun _ h => (nomatch h))⟩)⟩)⟩)⟩))
      | true =>
        refine wp_seq (rg_c FF17 MM17 [(3, l_ 2 (.bool true))] 12 [39] [] (⟨rfl, rfl, fun _ _ FF25 MM25 => then_n ?_⟩))
        refine wp_cond_true (FF25.ev 0 rfl) ?_
        refine wp_seq (rg_c FF25 MM25 [(1, t_ (sB pl))] 10 [11] [] (⟨(callP_of en_clone (clone_any pl (hp_.1 _ (mget_mem hn)).2.1 ((hp_.1 _ (mget_mem hn)).2.2)) _), fun _ _ FF26 MM26 => then_n ?_⟩))
        refine wp_ret ?_
        repeat first | refine then_ret ?_ | refine inb_ret ?_
        exact (ret_tup2 FF26 1 0 Tryz.results36 rfl rfl (by rw [(opn_ideal hg).1, (opn_ideal hg).2]; exact ⟨rfl, MM26.turnB [(b, oC #[.bool true, t, .map (some m1), .map (some m2), .map (some m3), iN f] 73)] H (List.forall_mem_cons.2 ⟨(List.mem_of_getElem? (i := 2) rfl), (fun _ h => (nomatch h))⟩) (List.forall_mem_cons.2 ⟨.inr ⟨_, (List.mem_of_getElem? (i := 0) rfl), rfl⟩, (List.forall_mem_cons.2 ⟨.inl (List.mem_of_getElem? (i := 3) rfl), (List.forall_mem_cons.2 ⟨.inl (List.mem_of_getElem? (i := 4) rfl), (fun _ h => (nomatch h))⟩)⟩)⟩)⟩))
set_option maxRecDepth 100000 in
theorem pforged_any {b m1 m2 m3 : Nat} {i : Bool} {t : Value} {f : Nat} (w0 : World) (H : Has w0 [(b, oC #[.bool i, t, .map (some m1), .map (some m2), .map (some m3), iN f] 73)]) (hD : Distinct [(b, oC #[.bool i, t, .map (some m1), .map (some m2), .map (some m3), iN f] 73)]) :
    Calls Tryz.prog 15 #[pT b] w0 fun e w' => e = .returned (iN f) ∧ TurnB [] w0 w' := by
  refine enter_fr Tryz.func15 rfl Tryz.ntmps15 (by simp) fun ac (FF : Fr 9 ac [(0, pT b)]) => ?_
  have MM : MemS (fun k => k < w0.heap.size ∧ ∀ x ∈ [(b, oC #[.bool i, t, .map (some m1), .map (some m2), .map (some m3), iN f] 73)], x.1 ≠ k) w0 w0 [(b, oC #[.bool i, t, .map (some m1), .map (some m2), .map (some m3), iN f] 73)] [] := MemS.startN H hD
  refine wp_seq (rg_c FF MM [] 3 [] [] (fun _ _ FF1 MM1 => then_n ?_))
  refine wp_seq ?_
  refine wp_seq (rg_c FF1 MM1 [(1, f_ (.bool false))] 3 [4] [] (⟨(ptrSome_ok (t := 39) (t' := 39) (x := (.tmp 3)) (y := (.const (.pointer none))) (by kernel_rfl) rfl rfl Tryz.underlying39), fun _ _ FF2 MM2 => then_n ?_⟩))
  refine wp_cond_false (FF2.ev 0 rfl) ?_
  refine wp_skip ?_
  refine then_n ?_
  refine wp_seq (rg_c FF2 MM2 [(3, l_ 0 (iN f))] 3 [] [] (⟨rfl, rfl, fun _ _ FF3 MM3 => then_n ?_⟩))
  refine wp_ret ?_
  repeat first | refine then_ret ?_ | refine inb_ret ?_
  exact (ret_fr FF3 0 Tryz.results15 rfl ⟨rfl, MM3.turnB [] H (fun _ h => (nomatch h)) (List.forall_mem_cons.2 ⟨.inl (List.mem_of_getElem? (i := 0) rfl), (fun _ h => (nomatch h))⟩)⟩)
/-- Blocks that are new since base, each apart from the others. -/
def NewAll (base : Nat) (w : World) (K : Blks) : Prop := Has w K ∧ Distinct K ∧ ∀ x ∈ K, base ≤ x.1
theorem newAll {w0 w : World} {L : Blks} {R : List Row} (M : MemS (fun k => k < w0.heap.size) w0 w L R) {is : List Nat} {K : Blks} (hn : apartB is = true) (hK : atL L is = some K) : NewAll w0.heap.size w K :=
  ⟨atL_has hK M.hasL, distinct_at M.distinct hn hK, fun x hx => by
    obtain ⟨i, _, hi⟩ := atL_mem hK x hx
    exact Nat.not_lt.1 (M.base i x hi)⟩
set_option maxRecDepth 100000 in
theorem pnew_any (i : Bool) (tp : Option Addr) (w0 : World) : Calls Tryz.prog 10 #[.bool i, .pointer tp] w0 fun e w' => ∃ b m1 m2 m3 : Nat, e = .returned (pT b) ∧ Below w0.heap.size w0 w' ∧ NewAll w0.heap.size w' [(b, BB i (.pointer tp) m1 m2 m3 0), (m1, KM []), (m2, KM []), (m3, NM [])] := by
  refine enter_fr Tryz.func10 rfl Tryz.ntmps10 (by simp) fun ac (FF : Fr 12 ac [(0, .bool i), (1, .pointer tp)]) => ?_
  have MM := MemS.start w0
  refine wp_seq (rg_c FF MM [] 5 [] [] (fun _ _ FF1 MM1 => then_n ?_))
  refine wp_seq (wp_region_list ?_)
  refine rp_c 3 FF1 MM1 [(2, n_ (.map none) (KM []))] 8 [] [0, 1] (⟨(makeMap_ok (t := 69) (by kernel_rfl)), fun m1 => fun _ _ FF2 MM2 => ?_⟩)
  refine rp_c 1 FF2 MM2 [(0, n_ (.map none) (KM []))] 9 [] [] (⟨(makeMap_ok (t := 70) (by kernel_rfl)), fun m2 => fun _ _ FF3 MM3 => ?_⟩)
  refine rp_c 1 FF3 MM3 [(0, n_ (.map none) (NM []))] 9 [9] [] (⟨(makeMap_ok (t := 71) (by kernel_rfl)), fun m3 => fun _ _ FF4 MM4 => ?_⟩)
  refine rp_c 2 FF4 MM4 [(0, t_ (aG #[.bool i, .pointer tp, .map (some m1), .map (some m2), .map (some m3), iN 0]))] 5 [11] [] (⟨(by kernel_rfl), fun b => fun _ _ FF5 MM5 => ?_⟩)
  refine rp_c 1 FF5 MM5 [] 5 [] [] (fun _ _ FF6 MM6 => ?_)
  refine wpl_nil (then_n ?_)
  refine wp_ret ?_
  repeat first | refine then_ret ?_ | refine inb_ret ?_
  exact (ret_fr FF6 0 Tryz.results10 rfl ⟨b, m1, m2, m3, rfl, MM6.below, newAll MM6 (is := [0, 3, 2, 1]) rfl rfl⟩)
end Go.Proofs.YtdjpacgjhcidpabGreatDoor
namespace Go.Proofs.YtdjpacgjhcidpabGreatDoor
open Go.RowKit
theorem en_body : Enters Tryz.prog 28 := fun args w => by simp [go_sem]
theorem en_text : Enters Tryz.prog 37 := fun args w => by simp [go_sem]
theorem en_request : Enters Tryz.prog 31 := fun args w => by simp [go_sem]
theorem en_parts : Enters Tryz.prog 13 := fun args w => by simp [go_sem]
set_option maxRecDepth 100000 in
theorem body_any (X : List Nat) (hX : ∀ i, X.getD i 0 < 256) (w0 : World) :
    Calls Tryz.prog 28 #[sB X] w0 fun e w' => e = .returned (.tuple #[.string (bs (bodyR X).1), iN ((bodyR X).2)]) ∧ Below w0.heap.size w0 w' := by
  refine enter_fr Tryz.func28 rfl Tryz.ntmps28 (by simp) fun ac (FF : Fr 17 ac [(0, sB X)]) => ?_
  have MM := MemS.start w0
  refine wp_seq (rg_c FF MM [(0, t_ (sB []))] 4 [] [] (⟨(by kernel_rfl), fun _ _ FF1 MM1 => then_n ?_⟩))
  refine wp_seq ?_
  refine wp_seq (rg_c FF1 MM1 [(1, t_ (iN X.length))] 4 [7] [] (⟨(vI (bs_size _)), fun _ _ FF2 MM2 => then_n ?_⟩))
  by_cases hs7 : X.length > 19
  · refine wp_cond_true ((FF2.ev 0 rfl).trans (dec_t hs7)) ?_
    refine wp_seq (rg_c FF2 MM2 [(0, t_ (sB []))] 4 [] [] (⟨(by kernel_rfl), fun _ _ FF3 MM3 => then_n ?_⟩))
    refine wp_ret ?_
    repeat first | refine then_ret ?_ | refine inb_ret ?_
    exact (ret_tup2 FF3 1 0 Tryz.results28 rfl rfl ⟨by rw [bodyR_no hs7], MM3.below⟩)
  · refine wp_cond_false ((FF2.ev 0 rfl).trans (dec_f hs7)) ?_
    have h19 : X.length ≤ 19 := by omega
    refine wp_skip ?_
    refine then_n ?_
    refine wp_seq (rg_c FF2 MM2 [(0, s_ 0 (.cells (cn .u8 (List.replicate 20 0)) 107))] 5 [] [] (⟨(by kernel_rfl), fun bl => fun _ _ FF4 MM4 => then_n ?_⟩))
    refine wp_seq (rg_c FF4 MM4 [(1, t_ (iN X.length)), (0, t_ (iB X.length)), (0, w_ 1), (0, s_ 0 (.cells (cn .u8 ((List.replicate 20 0).set 0 X.length)) 107))] 5 [] [] (⟨(vI (bs_size _)), (vI (Nat.mod_eq_of_lt (by omega))), by decide, rfl, (by rw [cn_size, (List.length_replicate ..)]; decide), (.inl rfl), (cn_set _ _ _ _), fun _ _ FF5 MM5 => then_n ?_⟩))
    refine wp_seq (rg_c FF5 MM5 [(2, r_ (iN (min X.length 19)) [(0, .cells (cn .u8 (bodyN X)) 107)])] 5 [] [] (⟨by decide, by decide, by decide, (copyStr_ok (p := .tmp 12) (q := .tmp 13) (t := 59) (tq := 9) (e := 5) (T := 107) (off := 1) (len := 19) (X := X) (cs := cn .u8 ((List.replicate 20 0).set 0 X.length)) (i := 0) (by kernel_rfl) rfl rfl hX Tryz.underlying59 (by kernel_rfl) rfl (by rw [cn_size, List.length_set, List.length_replicate]; decide) (body_cells h19)), fun _ _ FF6 MM6 => then_n ?_⟩))
    refine wp_seq (rg_c FF6 MM6 [(1, l_ 0 (sB (bodyN X)))] 5 [] [] (⟨by decide, by decide, by decide, rfl, (str_all (bodyN_len h19) (bodyN_lt hX h19)), fun _ _ FF7 MM7 => then_n ?_⟩))
    refine wp_ret ?_
    repeat first | refine then_ret ?_ | refine inb_ret ?_
    exact (ret_tup2 FF7 1 0 Tryz.results28 rfl rfl ⟨by rw [bodyR_ok h19], MM7.below⟩)
set_option maxRecDepth 100000 in
theorem text_any (B : List Nat) (hB : ∀ i, B.getD i 0 < 256) (w0 : World) :
    Calls Tryz.prog 37 #[sB B] w0 fun e w' => e = .returned (.tuple #[.string (bs (textR B).1), .bool (textR B).2]) ∧ Below w0.heap.size w0 w' := by
  refine enter_fr Tryz.func37 rfl Tryz.ntmps37 (by simp) fun ac (FF : Fr 32 ac [(0, sB B)]) => ?_
  have MM := MemS.start w0
  refine wp_seq (rg_c FF MM [(0, t_ (sB []))] 4 [] [] (⟨(by kernel_rfl), fun _ _ FF1 MM1 => then_n ?_⟩))
  refine wp_seq ?_
  by_cases h20 : B.length = 20
  · by_cases h0 : B.getD 0 0 ≤ 19
    · skip
      refine wp_seq (rg_c FF1 MM1 [(1, t_ (iN B.length)), (0, w_ 3), (2, t_ (iB (B.getD 0 0))), (0, w_ 1), (0, w_ 3)] 4 [15] [] (⟨(vI (bs_size _)), (fun h => h h20), (by simp only [bs_size]; omega), (byte_bs hB _), (by have := hB 0; omega), by omega, fun _ _ FF2 MM2 => then_n ?_⟩))
      refine wp_cond_false (FF2.ev 0 rfl) ?_
      refine wp_skip ?_
      refine then_n ?_
      have htl := textN_len h20 h0
      refine wp_seq (rg_c FF2 MM2 [(2, t_ (iB (B.getD 0 0))), (0, w_ 1), (1, t_ (sB (textN B))), (0, t_ (sB (textN B)))] 5 [] [] (⟨(by simp only [bs_size]; omega), (byte_bs hB _), (by have := hB 0; omega), (by have := hB 0; omega), (by have := hB 0; omega), (by simp only [bs_size]; have := hB 0; omega), (vS2 (bs_extract _ _ _)), (callP_of en_clone (clone_any (textN B) (textN_lt hB) (by omega)) _), fun _ _ FF3 MM3 => then_n ?_⟩))
      refine wp_seq ?_
      refine wp_seq (rg_c FF3 MM3 [(1, t_ (.tuple #[sB (bodyN (textN B)), iN 0]))] 6 [] [] (⟨(callP_of en_body (fun w => by have h0 := body_any (textN B) (textN_lt hB) w; rw [bodyR_ok (by omega)] at h0; exact h0) _), fun _ _ FF4 MM4 => then_n ?_⟩))
      by_cases he : bodyN (textN B) = B
      · skip
        refine wp_seq (rg_c FF4 MM4 [(2, w_ 3)] 5 [30] [] (⟨(fun h => h (congrArg bs he)), fun _ _ FF5 MM5 => then_n ?_⟩))
        refine wp_cond_false (FF5.ev 0 rfl) ?_
        refine wp_skip ?_
        refine then_n ?_
        refine wp_seq (rg_c FF5 MM5 [] 5 [] [] (fun _ _ FF6 MM6 => then_n ?_))
        refine wp_ret ?_
        repeat first | refine then_ret ?_ | refine inb_ret ?_
        exact (ret_tup2 FF6 1 0 Tryz.results37 rfl rfl ⟨by rw [textR_ok h20 h0 he], MM6.below⟩)
      · skip
        refine wp_seq (rg_c FF4 MM4 [(2, w_ 2)] 5 [30] [] (⟨(fun h => he (bs_inj (bodyN_lt (textN_lt hB) (by omega)) hB h)), fun _ _ FF7 MM7 => then_n ?_⟩))
        refine wp_cond_true (FF7.ev 0 rfl) ?_
        refine wp_seq (rg_c FF7 MM7 [(0, t_ (sB []))] 5 [] [] (⟨(by kernel_rfl), fun _ _ FF8 MM8 => then_n ?_⟩))
        refine wp_ret ?_
        repeat first | refine then_ret ?_ | refine inb_ret ?_
        exact (ret_tup2 FF8 1 0 Tryz.results37 rfl rfl ⟨by rw [textR_else he], MM8.below⟩)
    · skip
      refine wp_seq (rg_c FF1 MM1 [(1, t_ (iN B.length)), (0, w_ 3), (2, t_ (iB (B.getD 0 0))), (0, w_ 1), (0, w_ 2)] 4 [15] [] (⟨(vI (bs_size _)), (fun h => h h20), (by simp only [bs_size]; omega), (byte_bs hB _), (by have := hB 0; omega), by omega, fun _ _ FF9 MM9 => then_n ?_⟩))
      refine wp_cond_true (FF9.ev 0 rfl) ?_
      refine wp_seq (rg_c FF9 MM9 [(0, t_ (sB []))] 4 [] [] (⟨(by kernel_rfl), fun _ _ FF10 MM10 => then_n ?_⟩))
      refine wp_ret ?_
      repeat first | refine then_ret ?_ | refine inb_ret ?_
      exact (ret_tup2 FF10 1 0 Tryz.results37 rfl rfl ⟨by rw [textR_big (by omega)], MM10.below⟩)
  · skip
    refine wp_seq (rg_c FF1 MM1 [(1, t_ (iN B.length)), (0, w_ 2)] 4 [15] [] (⟨(vI (bs_size _)), h20, fun _ _ FF11 MM11 => then_n ?_⟩))
    refine wp_cond_true (FF11.ev 0 rfl) ?_
    refine wp_seq (rg_c FF11 MM11 [(0, t_ (sB []))] 4 [] [] (⟨(by kernel_rfl), fun _ _ FF12 MM12 => then_n ?_⟩))
    refine wp_ret ?_
    repeat first | refine then_ret ?_ | refine inb_ret ?_
    exact (ret_tup2 FF12 1 0 Tryz.results37 rfl rfl ⟨by rw [textR_len h20], MM12.below⟩)
set_option maxRecDepth 100000 in
theorem request_any (D : List Nat) (hDl : D.length = 16) (hD : ∀ i, D.getD i 0 < 256) (B : List Nat) (w0 : World) :
    Calls Tryz.prog 31 #[.agg (cn .u8 D), sB B] w0 fun e w' => e = .returned (.tuple #[.string (bs (requestR D B).1), iN ((requestR D B).2)]) ∧ Below w0.heap.size w0 w' := by
  refine enter_fr Tryz.func31 rfl Tryz.ntmps31 (by simp) fun ac (FF : Fr 13 ac [(0, .agg (cn .u8 D)), (1, sB B)]) => ?_
  have MM := MemS.start w0
  refine wp_seq (rg_c FF MM [(0, s_ 0 (.cells (cn .u8 D) 32)), (0, t_ (sB []))] 6 [] [0] (⟨(by kernel_rfl), fun bi => ⟨(by kernel_rfl), fun _ _ FF1 MM1 => then_n ?_⟩⟩))
  refine wp_seq ?_
  refine wp_seq (rg_c FF1 MM1 [(1, t_ (iN B.length))] 6 [8] [] (⟨(vI (bs_size _)), fun _ _ FF2 MM2 => then_n ?_⟩))
  by_cases hs8 : B.length ≠ 36
  · refine wp_cond_true ((FF2.ev 0 rfl).trans (dec_t hs8)) ?_
    refine wp_seq (rg_c FF2 MM2 [(0, t_ (sB []))] 6 [] [] (⟨(by kernel_rfl), fun _ _ FF3 MM3 => then_n ?_⟩))
    refine wp_ret ?_
    repeat first | refine then_ret ?_ | refine inb_ret ?_
    exact (ret_tup2 FF3 1 0 Tryz.results31 rfl rfl ⟨by rw [requestR_no hs8], MM3.below⟩)
  · refine wp_cond_false ((FF2.ev 0 rfl).trans (dec_f hs8)) ?_
    refine wp_skip ?_
    refine then_n ?_
    refine wp_seq (rg_c FF2 MM2 [(1, l_ 0 (sB D)), (1, t_ (sB (D ++ B)))] 6 [] [2] (⟨by decide, by decide, by decide, rfl, (str_all hDl hD), (by simp only [bs_size]; omega), (vS2 (bs_app _ _)), fun _ _ FF4 MM4 => then_n ?_⟩))
    refine wp_ret ?_
    repeat first | refine then_ret ?_ | refine inb_ret ?_
    exact (ret_tup2 FF4 1 0 Tryz.results31 rfl rfl ⟨by rw [requestR_ok (Decidable.of_not_not hs8)], MM4.below⟩)
set_option maxRecDepth 100000 in
theorem parts_any (X : List Nat) (hX : ∀ i, X.getD i 0 < 256) (w0 : World) :
    Calls Tryz.prog 13 #[sB X] w0 fun e w' => e = .returned (.tuple #[.agg (cn .u8 (partsR X).1), .string (bs (partsR X).2.1), .bool (partsR X).2.2]) ∧ Below w0.heap.size w0 w' := by
  refine enter_fr Tryz.func13 rfl Tryz.ntmps13 (by simp) fun ac (FF : Fr 19 ac [(0, sB X)]) => ?_
  have MM := MemS.start w0
  refine wp_seq (rg_c FF MM [(0, s_ 0 (.cells (cn .u8 (List.replicate 16 0)) 32)), (0, t_ (sB []))] 5 [] [] (⟨(by kernel_rfl), fun br => ⟨(by kernel_rfl), fun _ _ FF1 MM1 => then_n ?_⟩⟩))
  refine wp_seq ?_
  refine wp_seq (rg_c FF1 MM1 [(1, t_ (iN X.length))] 5 [9] [] (⟨(vI (bs_size _)), fun _ _ FF2 MM2 => then_n ?_⟩))
  by_cases hs9 : X.length ≠ 52
  · refine wp_cond_true ((FF2.ev 0 rfl).trans (dec_t hs9)) ?_
    refine wp_seq (rg_c FF2 MM2 [(0, t_ (.agg (cn .u8 (List.replicate 16 0)))), (0, b_ 0), (0, t_ (sB []))] 5 [] [] (⟨(by kernel_rfl), rfl, ((cn_size _ _).trans (List.length_replicate ..)), ((cn_size _ _).trans (List.length_replicate ..)), (cn_one _ _), rfl, (by kernel_rfl), fun _ _ FF3 MM3 => then_n ?_⟩))
    refine wp_ret ?_
    repeat first | refine then_ret ?_ | refine inb_ret ?_
    exact (ret_ctt FF3 MM3 (k := 16) (i := 0) (j := 2) (m := 1) (m2 := 0) Tryz.results13 rfl rfl rfl rfl Tryz.underlying32 rfl (by kernel_rfl) ((cn_size _ _).trans (List.length_replicate ..)) ⟨by rw [partsR_no hs9], MM3.below⟩)
  · refine wp_cond_false ((FF2.ev 0 rfl).trans (dec_f hs9)) ?_
    have h52 : X.length = 52 := Decidable.of_not_not hs9
    refine wp_skip ?_
    refine then_n ?_
    refine wp_seq (rg_c FF2 MM2 [(0, s_ 0 (.cells (cn .u8 (List.replicate 16 0)) 32))] 6 [] [] (⟨(by kernel_rfl), fun bi => fun _ _ FF4 MM4 => then_n ?_⟩))
    refine wp_seq (rg_c FF4 MM4 [(2, r_ (iN 16) [(0, .cells (cn .u8 (X.take 16)) 32)])] 7 [] [] (⟨by decide, by decide, by decide, (by have h0 := copyStr_ok (P := Tryz.prog) (l := [(12, sB X), (11, .slice (some ⟨bi, 0, none⟩) 16 16), (5, pT bi), (4, .bool false), (3, sB []), (2, pT br), (0, sB X)]) (L := [(bi, .cells (cn .u8 (List.replicate 16 0)) 32), (br, .cells (cn .u8 (List.replicate 16 0)) 32)]) (o := opAt Tryz.f13 4 2) (p := .tmp 11) (q := .tmp 12) (t := 59) (tq := 9) (e := 5) (T := 32) (off := 0) (len := 16) (X := X) (cs := cn .u8 (List.replicate 16 0)) (i := 0) (by kernel_rfl) rfl rfl hX Tryz.underlying59 (by kernel_rfl) rfl (by rw [cn_size, List.length_replicate]; decide) (parts_cells h52); rw [show min X.length 16 = 16 by omega] at h0; exact h0), fun _ _ FF5 MM5 => then_n ?_⟩))
    refine wp_seq (rg_dc 5 FF5 MM5 [(0, b_ 0), (2, t_ (sB (X.drop 16))), (0, t_ (sB (X.drop 16)))] [(0, b_ 1)] 6 [] [] (⟨rfl, ((cn_size _ _).trans (by rw [List.length_take, h52]; rfl)), (by simp only [bs_size]; omega), (Nat.zero_le _), (vS2 (bs_from _ _)), (callP_of en_clone (clone_any (X.drop 16) (drop_lt hX) (by rw [List.length_drop]; omega)) _), rfl, ((cn_size _ _).trans (List.length_replicate ..)), ((cn_size _ _).trans (by rw [List.length_take, h52]; rfl)), (cn_one _ _), rfl, fun _ _ FF6 MM6 => then_n ?_⟩))
    refine wp_ret ?_
    repeat first | refine then_ret ?_ | refine inb_ret ?_
    exact (ret_ctt FF6 MM6 (k := 16) (i := 1) (j := 3) (m := 1) (m2 := 0) Tryz.results13 rfl rfl rfl rfl Tryz.underlying32 rfl (by kernel_rfl) ((cn_size _ _).trans (by rw [List.length_take, h52]; rfl)) ⟨by rw [partsR_ok h52], MM6.below⟩)
end Go.Proofs.YtdjpacgjhcidpabGreatDoor
namespace Go.Proofs.YtdjpacgjhcidpabGreatDoor
open Go.RowKit
/-- What a Share comes to. -/
theorem share_get {i : Bool} {n : Nat} {K : List Nat} {ks : Pairs} (Y : List Nat) : ∃ own, mget K (shareK i n K ks Y) = some own := by
  cases h : mget K ks with
  | some v => exact ⟨v, by rw [(share_yes h Y).1]; exact h⟩
  | none => exact ⟨_, by rw [(share_no h Y).1, ← mput_new _ h]; exact mget_put _ _ _⟩
set_option maxRecDepth 100000 in
theorem popen_nil_yes (K N Z : List Nat) (hK : BytesK 32 K) (hN : BytesK 12 N) (hZ : ∀ i, Z.getD i 0 < 256) (hZl : Z.length ≤ 1000000) (ho : opensN K N [] Z) (w0 : World) :
    Calls Tryz.prog 36 #[.pointer none, .agg (cn .u8 K), .agg (cn .u8 N), sB Z] w0 fun e w' => e = .returned (.tuple #[sB (plainN K N Z), .bool true]) ∧ Below w0.heap.size w0 w' := by
  refine enter_fr Tryz.func36 rfl Tryz.ntmps36 (by simp) fun ac (FF : Fr 64 ac [(0, .pointer none), (1, .agg (cn .u8 K)), (2, .agg (cn .u8 N)), (3, sB Z)]) => ?_
  have MM := MemS.start w0
  refine wp_seq (rg_c FF MM [(0, s_ 0 (.cells (cn .u8 K) 23)), (0, s_ 0 (.cells (cn .u8 N) 56)), (0, t_ (sB []))] 9 [9] [1, 2] (⟨(by kernel_rfl), fun bk => ⟨(by kernel_rfl), fun bn => ⟨(by kernel_rfl), fun _ _ FF1 MM1 => then_n ?_⟩⟩⟩))
  refine wp_seq ?_
  refine wp_seq (rg_c FF1 MM1 [(1, b_ 1), (0, t_ (.bool false))] 10 [17] [] (⟨rfl, ((cn_size _ _).trans hK.1), (callP_of en_pshared (pshared_nil K hK) _), fun _ _ FF2 MM2 => then_n ?_⟩))
  refine wp_cond_true (FF2.ev 0 rfl) ?_
  refine wp_seq (rg_c FF2 MM2 [(0, b_ 1), (0, b_ 0), (1, t_ (.tuple #[sB (plainN K N Z), .bool true]))] 9 [9] [] (⟨rfl, ((cn_size _ _).trans hK.1), rfl, ((cn_size _ _).trans hN.1), (callP_of en_Open (open_yes K N ⟨hK.1, hK.2⟩ ⟨hN.1, hN.2⟩ [] Z (lit_lt (by kernel_rfl)) hZ (by decide) (by omega) ho.1 ho) _), fun _ _ FF3 MM3 => then_n ?_⟩))
  refine wp_ret ?_
  repeat first | refine then_ret ?_ | refine inb_ret ?_
  exact (ret_tup2 FF3 1 0 Tryz.results36 rfl rfl ⟨rfl, MM3.below⟩)
/-- In the real game what stands for a key is it. -/
def OwnI (i : Bool) (ks : Pairs) : Prop := i = false → ∀ p ∈ ks, p.2 = p.1
theorem ownI_nil (i : Bool) : OwnI i [] := fun _ _ h => (nomatch h)
theorem OwnI.share {i : Bool} {n : Nat} {K : List Nat} {ks : Pairs} (h : OwnI i ks) (Y : List Nat) : OwnI i (shareK i n K ks Y) := fun hi p hp => by
  cases hg : mget K ks with
  | some v => rw [(share_yes hg Y).1] at hp; exact h hi p hp
  | none =>
    rw [(share_no hg Y).1, List.mem_append] at hp
    rcases hp with hp | hp
    · exact h hi p hp
    · rw [List.mem_singleton] at hp
      subst hp
      subst hi
      rfl
theorem OwnI.get {i : Bool} {K : List Nat} {ks : Pairs} (h : OwnI i ks) : i = false → ∀ own, mget K ks = some own → own = K := fun hi _ hg => h hi _ (mget_mem hg)
theorem own_real {K : List Nat} {ks : Pairs} (h : OwnI false ks) : ownN K ks = K := by
  unfold ownN
  cases hg : mget K ks with
  | none => rfl
  | some v => exact h.get rfl v hg
theorem ids_own {i : Bool} {K : List Nat} {l : Pairs} (h : OwnI i l) : ownN K (idsP i l) = ownN K l := by
  cases i with
  | true => rfl
  | false => exact (own_real h).symm
theorem ids_nil (i : Bool) : idsP i [] = [] := by cases i <;> rfl
theorem real_box (K N : List Nat) (ks : Pairs) (X : List Nat) : boxN false K N ks X = sealN K N [] X := if_neg (by simp)
theorem okQ_nil : OkQ [] := ⟨fun _ h => (nomatch h), List.Pairwise.nil⟩
theorem OkQ.note {i : Bool} {K N X : List Nat} {ks : Pairs} {pn : Notes} (h : OkQ pn) (hK : BytesK 32 K) (hN : BytesK 12 N) (hX : ∀ i, X.getD i 0 < 256) (hl : X.length ≤ 900000) : OkQ (noteP i K N ks X pn) := by
  unfold noteP
  split
  · refine ⟨fun p hp => ?_, h.2.put _ _⟩
    rcases mem_mput hp with rfl | hp
    · exact ⟨⟨hK, hN, boxN_lt i K N ks hX, by show (boxN i K N ks X).length ≤ 1000000; rw [boxN_len]; omega⟩, hX, by show X.length ≤ 1000000; omega⟩
    · exact h.1 p hp
  · exact h
/-- A book that was made. -/
def NewBk (i : Bool) (tp : Option Addr) (w w' : World) (v : Value) : Prop := ∃ b m1 m2 m3 : Nat, v = pT b ∧ Below w.heap.size w w' ∧ NewAll w.heap.size w' [(b, BB i (.pointer tp) m1 m2 m3 0), (m1, KM []), (m2, KM []), (m3, NM [])]
theorem pnew_E (i : Bool) (tp : Option Addr) (w0 : World) : Calls Tryz.prog 10 #[.bool i, .pointer tp] w0 fun e w' => ∃ v, e = .returned v ∧ NewBk i tp w0 w' v :=
  (pnew_any i tp w0).mono fun _ _ ⟨b, m1, m2, m3, h1, h2, h3⟩ => ⟨_, h1, b, m1, m2, m3, rfl, h2, h3⟩
/-- A tape that was made. -/
def NewT (X : List Nat) (w w' : World) (v : Value) : Prop := ∃ g, v = pT g ∧ Below w.heap.size w w' ∧ w.heap.size ≤ g ∧ w'.heap[g]? = some (TB X 0)
set_option maxRecDepth 100000 in
theorem tnew_any (X : List Nat) (w0 : World) : Calls Tryz.prog 11 #[sB X] w0 fun e w' => ∃ v, e = .returned v ∧ NewT X w0 w' v := by
  refine enter_fr Tryz.func11 rfl Tryz.ntmps11 (by simp) fun ac (FF : Fr 6 ac [(0, sB X)]) => ?_
  have MM := MemS.start w0
  refine wp_seq (rg_c FF MM [] 3 [] [] (fun _ _ FF1 MM1 => then_n ?_))
  refine wp_seq (rg_c FF1 MM1 [(1, t_ (aG #[sB X, iN 0]))] 0 [2] [] (⟨(by kernel_rfl), fun bt => fun _ _ FF2 MM2 => then_n ?_⟩))
  refine wp_ret ?_
  repeat first | refine then_ret ?_ | refine inb_ret ?_
  exact (ret_fr FF2 0 Tryz.results11 rfl ⟨_, rfl, bt, rfl, MM2.below, MM2.fresh 0 rfl, MM2.get 0 rfl⟩)
end Go.Proofs.YtdjpacgjhcidpabGreatDoor
namespace Go.Proofs.YtdjpacgjhcidpabGreatDoor
open Go.RowKit
theorem en_less : Enters Tryz.prog 44 := fun args w => by simp [go_sem]
theorem en_row : Enters Tryz.prog 23 := fun args w => by simp [go_sem]
theorem en_keyof : Enters Tryz.prog 24 := fun args w => by simp [go_sem]
theorem en_tnon : Enters Tryz.prog 34 := fun args w => by simp [go_sem]
theorem en_tname : Enters Tryz.prog 8 := fun args w => by simp [go_sem]
theorem en_meet : Enters Tryz.prog 6 := fun args w => by simp [go_sem]
theorem en_say : Enters Tryz.prog 12 := fun args w => by simp [go_sem]
theorem en_hear : Enters Tryz.prog 14 := fun args w => by simp [go_sem]
theorem en_idle : Enters Tryz.prog 16 := fun args w => by simp [go_sem]
set_option maxRecDepth 100000 in
theorem less_any (A B : List Nat) (hA : BytesK 32 A) (hB : BytesK 32 B) (w0 : World) :
    Calls Tryz.prog 44 #[.agg (cn .u8 A), .agg (cn .u8 B)] w0 fun e w' => e = .returned (.agg (cn .u8 (lesN A B))) ∧ Below w0.heap.size w0 w' := by
  refine enter_fr Tryz.func44 rfl Tryz.ntmps44 (by simp) fun ac (FF : Fr 13 ac [(0, .agg (cn .u8 A)), (1, .agg (cn .u8 B))]) => ?_
  have MM := MemS.start w0
  refine wp_seq (rg_c FF MM [(0, s_ 0 (.cells (cn .u8 A) 23)), (0, s_ 0 (.cells (cn .u8 B) 23)), (0, s_ 0 (.cells (cn .u8 (List.replicate 32 0)) 23))] 5 [] [0, 1] (⟨(by kernel_rfl), fun ba => ⟨(by kernel_rfl), fun bb => ⟨(by kernel_rfl), fun br => fun _ _ FF1 MM1 => then_n ?_⟩⟩⟩))
  refine wp_seq (rg_draw2 FF1 MM1 [.inl (.slice (some ⟨ba, 0, none⟩) 32 32), .inl (sB A), .inl (.slice (some ⟨bb, 0, none⟩) 32 32), .inl (sB B), .inl (sB (lesN A B)), .inr (fun c => .cells (cn .u8 ((lesN A B) ++ List.replicate c 0)) 5 ((lesN A B).length + c, (lesN A B).length + c + 1), fun b c => .slice (some ⟨b, 0, none⟩) ((lesN A B).length) ((lesN A B).length + c)), .inr (fun c => .cells (cn .u8 ((lesN A B) ++ List.replicate c 0)) 5 ((lesN A B).length + c, (lesN A B).length + c + 1), fun b c => pT b), .inl (.agg (cn .u8 (lesN A B)))] [] [o_, l_ 2 (sB A), o_, l_ 1 (sB B), f_ (sB (lesN A B)), y_, g_ 5, l_ 0 (.agg (cn .u8 (lesN A B)))] [b_ 0] [4] (fun nb cp => [0 ≤ 32, 32 ≤ 32, 0 < 32, ba = ba, StrAt (cn .u8 A) 0 32 (bs A), 0 ≤ 32, 32 ≤ 32, 0 < 32, bb = bb, StrAt (cn .u8 B) 0 32 (bs B), RunV Tryz.prog [(6, sB A), (8, sB B), (4, pT br), (3, pT bb), (2, pT ba)] [(br, .cells (cn .u8 (List.replicate 32 0)) 23), (bb, .cells (cn .u8 B) 23), (ba, .cells (cn .u8 A) 23)] (opAt Tryz.f44 1 4) (sB (lesN A B)), RunB Tryz.prog [(9, sB (lesN A B)), (4, pT br), (3, pT bb), (2, pT ba)] [(br, .cells (cn .u8 (List.replicate 32 0)) 23), (bb, .cells (cn .u8 B) 23), (ba, .cells (cn .u8 A) 23)] (opAt Tryz.f44 1 5) (fun c => .cells (cn .u8 ((lesN A B) ++ List.replicate c 0)) 5 ((lesN A B).length + c, (lesN A B).length + c + 1)) (fun b c => .slice (some ⟨b, 0, none⟩) ((lesN A B).length) ((lesN A B).length + c)), 32 ≤ (lesN A B).length, pT (nb 5) = pT (nb 5), Obj.cells (cn .u8 ((lesN A B) ++ List.replicate (cp 5) 0)) 5 ((lesN A B).length + (cp 5), (lesN A B).length + (cp 5) + 1) = .cells (cn .u8 ((lesN A B) ++ List.replicate (cp 5) 0)) 5 ((lesN A B).length + (cp 5), (lesN A B).length + (cp 5) + 1), (nb 6) = (nb 6), PartAt (cn .u8 ((lesN A B) ++ List.replicate (cp 6) 0)) 0 (cn .u8 (lesN A B)), (cn .u8 (lesN A B)).size = 32]) (fun nb cp Kt => br = br ∧ (cn .u8 (List.replicate 32 0)).size = 32 ∧ (cn .u8 (lesN A B)).size = 32 ∧ (cn .u8 (lesN A B)).all (·.oneCell') = true ∧ (0, 0).2 = 0 ∧ Kt [(4, pT br)] [(br, .cells (cn .u8 (lesN A B)) 23), (bb, .cells (cn .u8 B) 23), (ba, .cells (cn .u8 A) 23)]) (by kernel_rfl) (by kernel_rfl) (by kernel_rfl) (fun _ _ => by kernel_rfl) (fun _ _ _ => by kernel_rfl) trivial (by kernel_rfl) (fun nb cp => ⟨by decide, by decide, by decide, rfl, (str_all hA.1 hA.2), by decide, by decide, by decide, rfl, (str_all hB.1 hB.2), (minS_ok (t := 9) (u := 9) (x := .tmp 6) (y := .tmp 8) (by kernel_rfl) rfl rfl), (bytes_ok (e := 5) (x := (.tmp 9)) (by kernel_rfl) rfl (les_ok hA hB).2 Tryz.underlying9 Tryz.underlying59 Tryz.underlying5), (by rw [(les_ok hA hB).1]; decide), rfl, rfl, rfl, (part_rep _ _), ((cn_size _ _).trans (les_ok hA hB).1), trivial⟩) (fun nb cp => ⟨rfl, ((cn_size _ _).trans (List.length_replicate ..)), ((cn_size _ _).trans (les_ok hA hB).1), (cn_one _ _), rfl, fun _ _ FF2 MM2 => then_n ?_⟩))
  refine wp_ret ?_
  repeat first | refine then_ret ?_ | refine inb_ret ?_
  exact (retc FF2 MM2 (k := 32) (i := 0) (j := 0) Tryz.results44 rfl rfl Tryz.underlying23 rfl (by kernel_rfl) ((cn_size _ _).trans (les_ok hA hB).1) ⟨rfl, MM2.below⟩)
set_option maxRecDepth 100000 in
theorem row_any (A B : List Nat) (hA : BytesK 32 A) (hB : BytesK 32 B) (w0 : World) :
    Calls Tryz.prog 23 #[.agg (cn .u8 A), .agg (cn .u8 B)] w0 fun e w' => e = .returned (.tuple #[.agg (cn .u8 (rowN A B).1), .agg (cn .u8 (rowN A B).2)]) ∧ Below w0.heap.size w0 w' := by
  refine enter_fr Tryz.func23 rfl Tryz.ntmps23 (by simp) fun ac (FF : Fr 15 ac [(0, .agg (cn .u8 A)), (1, .agg (cn .u8 B))]) => ?_
  have MM := MemS.start w0
  refine wp_seq (rg_c FF MM [(0, s_ 0 (.cells (cn .u8 A) 23)), (0, s_ 0 (.cells (cn .u8 B) 23)), (0, s_ 0 (.cells (cn .u8 (List.replicate 32 0)) 23)), (0, s_ 0 (.cells (cn .u8 (List.replicate 32 0)) 23))] 6 [] [0, 1] (⟨(by kernel_rfl), fun ba => ⟨(by kernel_rfl), fun bb => ⟨(by kernel_rfl), fun bl => ⟨(by kernel_rfl), fun bh => fun _ _ FF1 MM1 => then_n ?_⟩⟩⟩⟩))
  refine wp_seq ?_
  by_cases hE : lesN A B = B
  · skip
    refine wp_seq (rg_dc 5 FF1 MM1 [(0, b_ 3), (0, b_ 2), (0, t_ (.agg (cn .u8 (lesN A B)))), (0, b_ 2), (0, f_ (.bool true))] [] 6 [10] [] (⟨rfl, ((cn_size _ _).trans hA.1), rfl, ((cn_size _ _).trans hB.1), (callP_of en_less (less_any A B ⟨hA.1, hA.2⟩ ⟨hB.1, hB.2⟩) _), rfl, ((cn_size _ _).trans hB.1), (eqA_ok (t := 23) (t' := 23) (e := 5) (m := 32) (k := .u8) (x := (.tmp 8)) (y := (.tmp 9)) (by kernel_rfl) Tryz.underlying23 Tryz.underlying5 (by kernel_rfl) (by kernel_rfl) (by kernel_rfl) rfl rfl (les_ok ⟨hA.1, hA.2⟩ ⟨hB.1, hB.2⟩).1 hB.1 (decide_eq_true hE)), fun _ _ FF2 MM2 => then_n ?_⟩))
    refine wp_cond_true (FF2.ev 0 rfl) ?_
    refine wp_seq (late_stand (N := 4) [(ba, .cells (cn .u8 A) 23), (bb, .cells (cn .u8 B) 23)] (by kernel_rfl) (by kernel_rfl) MM2 fun wq3 MM4 => ?_)
    refine late_take FF2 (i := 0) (oi := (opAt Tryz.f23 2 0)) (v := (.agg (cn .u8 B))) (d := 11) (atL_has (is := [3, 2]) rfl MM4.hasL) (by kernel_rfl) (by kernel_rfl) (by kernel_rfl) (by kernel_rfl) (by kernel_rfl) (fun _ _ _ _ _ h => h) (by kernel_rfl) (by decide) (by kernel_rfl) (loadRi (x := (.tmp 3)) (k := 1) (m := 32) (by kernel_rfl) rfl Tryz.underlying23 rfl (by kernel_rfl) rfl ((cn_size _ _).trans hB.1)) fun _ FF5 => ?_
    refine late_take FF5 (i := 1) (oi := (opAt Tryz.f23 2 1)) (v := (.agg (cn .u8 A))) (d := 12) (atL_has (is := [3, 2]) rfl MM4.hasL) (by kernel_rfl) (by kernel_rfl) (by kernel_rfl) (by kernel_rfl) (by kernel_rfl) (fun _ _ _ _ _ h => h) (by kernel_rfl) (by decide) (by kernel_rfl) (loadRi (x := (.tmp 2)) (k := 0) (m := 32) (by kernel_rfl) rfl Tryz.underlying23 rfl (by kernel_rfl) rfl ((cn_size _ _).trans hA.1)) fun _ FF6 => ?_
    refine late_one (i := 2) (oi := (opAt Tryz.f23 2 2)) (by kernel_rfl) (by kernel_rfl) ?_
    refine rp_c 1 FF6 MM4 [(0, b_ 1)] 6 [12] [] (⟨rfl, ((cn_size _ _).trans (List.length_replicate ..)), ((cn_size _ _).trans hB.1), (cn_one _ _), rfl, fun _ _ FF7 MM7 => ?_⟩)
    refine wpl_nil (onN_n ⟨fun _ => (atL_has (is := [3, 2]) rfl MM7.hasL), ?_⟩)
    refine late_one (i := 3) (oi := (opAt Tryz.f23 2 3)) (by kernel_rfl) (by kernel_rfl) ?_
    refine rp_c 1 FF7 MM7 [(0, b_ 0)] 6 [] [] (⟨rfl, ((cn_size _ _).trans (List.length_replicate ..)), ((cn_size _ _).trans hA.1), (cn_one _ _), rfl, fun _ _ FF8 MM8 => ?_⟩)
    refine wpl_nil (onN_n ⟨fun _ => (atL_has (is := [3, 2]) rfl MM8.hasL), ?_⟩)
    refine late_none (by kernel_rfl) (then_n ?_)
    refine wp_ret ?_
    repeat first | refine then_ret ?_ | refine inb_ret ?_
    exact (ret_cc FF8 MM8 (k := 32) (k2 := 32) (i := 1) (i2 := 0) (j := 1) (m := 0) Tryz.results23 rfl rfl rfl rfl Tryz.underlying23 Tryz.underlying23 rfl rfl (by kernel_rfl) (by kernel_rfl) ((cn_size _ _).trans hB.1) ((cn_size _ _).trans hA.1) (by rw [rowN_yes hE]; exact ⟨rfl, MM8.below⟩))
  · skip
    refine wp_seq (rg_dc 5 FF1 MM1 [(0, b_ 3), (0, b_ 2), (0, t_ (.agg (cn .u8 (lesN A B)))), (0, b_ 2), (0, f_ (.bool false))] [] 6 [10] [] (⟨rfl, ((cn_size _ _).trans hA.1), rfl, ((cn_size _ _).trans hB.1), (callP_of en_less (less_any A B ⟨hA.1, hA.2⟩ ⟨hB.1, hB.2⟩) _), rfl, ((cn_size _ _).trans hB.1), (eqA_ok (t := 23) (t' := 23) (e := 5) (m := 32) (k := .u8) (x := (.tmp 8)) (y := (.tmp 9)) (by kernel_rfl) Tryz.underlying23 Tryz.underlying5 (by kernel_rfl) (by kernel_rfl) (by kernel_rfl) rfl rfl (les_ok ⟨hA.1, hA.2⟩ ⟨hB.1, hB.2⟩).1 hB.1 (decide_eq_false hE)), fun _ _ FF9 MM9 => then_n ?_⟩))
    refine wp_cond_false (FF9.ev 0 rfl) ?_
    refine wp_skip ?_
    refine then_n ?_
    refine wp_seq (late_stand (N := 4) [(ba, .cells (cn .u8 A) 23), (bb, .cells (cn .u8 B) 23)] (by kernel_rfl) (by kernel_rfl) MM9 fun wq10 MM11 => ?_)
    refine late_take FF9 (i := 0) (oi := (opAt Tryz.f23 3 0)) (v := (.agg (cn .u8 A))) (d := 13) (atL_has (is := [3, 2]) rfl MM11.hasL) (by kernel_rfl) (by kernel_rfl) (by kernel_rfl) (by kernel_rfl) (by kernel_rfl) (fun _ _ _ _ _ h => h) (by kernel_rfl) (by decide) (by kernel_rfl) (loadRi (x := (.tmp 2)) (k := 0) (m := 32) (by kernel_rfl) rfl Tryz.underlying23 rfl (by kernel_rfl) rfl ((cn_size _ _).trans hA.1)) fun _ FF12 => ?_
    refine late_take FF12 (i := 1) (oi := (opAt Tryz.f23 3 1)) (v := (.agg (cn .u8 B))) (d := 14) (atL_has (is := [3, 2]) rfl MM11.hasL) (by kernel_rfl) (by kernel_rfl) (by kernel_rfl) (by kernel_rfl) (by kernel_rfl) (fun _ _ _ _ _ h => h) (by kernel_rfl) (by decide) (by kernel_rfl) (loadRi (x := (.tmp 3)) (k := 1) (m := 32) (by kernel_rfl) rfl Tryz.underlying23 rfl (by kernel_rfl) rfl ((cn_size _ _).trans hB.1)) fun _ FF13 => ?_
    refine late_one (i := 2) (oi := (opAt Tryz.f23 3 2)) (by kernel_rfl) (by kernel_rfl) ?_
    refine rp_c 1 FF13 MM11 [(0, b_ 1)] 6 [14] [] (⟨rfl, ((cn_size _ _).trans (List.length_replicate ..)), ((cn_size _ _).trans hA.1), (cn_one _ _), rfl, fun _ _ FF14 MM14 => ?_⟩)
    refine wpl_nil (onN_n ⟨fun _ => (atL_has (is := [3, 2]) rfl MM14.hasL), ?_⟩)
    refine late_one (i := 3) (oi := (opAt Tryz.f23 3 3)) (by kernel_rfl) (by kernel_rfl) ?_
    refine rp_c 1 FF14 MM14 [(0, b_ 0)] 6 [] [] (⟨rfl, ((cn_size _ _).trans (List.length_replicate ..)), ((cn_size _ _).trans hB.1), (cn_one _ _), rfl, fun _ _ FF15 MM15 => ?_⟩)
    refine wpl_nil (onN_n ⟨fun _ => (atL_has (is := [3, 2]) rfl MM15.hasL), ?_⟩)
    refine late_none (by kernel_rfl) (then_n ?_)
    refine wp_ret ?_
    repeat first | refine then_ret ?_ | refine inb_ret ?_
    exact (ret_cc FF15 MM15 (k := 32) (k2 := 32) (i := 1) (i2 := 0) (j := 1) (m := 0) Tryz.results23 rfl rfl rfl rfl Tryz.underlying23 Tryz.underlying23 rfl rfl (by kernel_rfl) (by kernel_rfl) ((cn_size _ _).trans hA.1) ((cn_size _ _).trans hB.1) (by rw [rowN_no hE]; exact ⟨rfl, MM15.below⟩))
set_option maxRecDepth 100000 in
theorem keyof_any (Tg : TypeId) (fg : Nat × Nat) (L X Y Z : List Nat) (hL : ∀ i, L.getD i 0 < 256) (hl : L.length ≤ 100) (hX : BytesK 32 X) (hY : BytesK 32 Y) (hZ : BytesK 32 Z) (w0 : World) (hg : w0.heap[0]? = some (.cells (cn .u32 kTab) Tg fg)) :
    Calls Tryz.prog 24 #[sB L, .agg (cn .u8 X), .agg (cn .u8 Y), .agg (cn .u8 Z)] w0 fun e w' => e = .returned (.agg (cn .u8 (kyN L X Y Z))) ∧ Below w0.heap.size w0 w' := by
  have MM := MemS.start1 hg
  refine enter_fr Tryz.func24 rfl Tryz.ntmps24 (by simp) fun ac (FF : Fr 18 ac [(0, sB L), (1, .agg (cn .u8 X)), (2, .agg (cn .u8 Y)), (3, .agg (cn .u8 Z))]) => ?_
  have hx1 := hX.1
  have hy1 := hY.1
  have hz1 := hZ.1
  refine wp_seq (rg_c FF MM [(0, s_ 0 (.cells (cn .u8 X) 23)), (0, s_ 0 (.cells (cn .u8 Y) 23)), (0, s_ 0 (.cells (cn .u8 Z) 23)), (0, s_ 0 (.cells (cn .u8 (List.replicate 32 0)) 23))] 9 [] [1, 2, 3] (⟨(by kernel_rfl), fun bx => ⟨(by kernel_rfl), fun by_ => ⟨(by kernel_rfl), fun bz => ⟨(by kernel_rfl), fun br => fun _ _ FF1 MM1 => then_n ?_⟩⟩⟩⟩))
  refine wp_seq (rg_draw FF1 MM1 [.inl (sB L), .inl (.slice (some ⟨bx, 0, none⟩) 32 32), .inl (sB X), .inl (.slice (some ⟨by_, 0, none⟩) 32 32), .inl (sB Y), .inl (.slice (some ⟨bz, 0, none⟩) 32 32), .inl (sB Z), .inr (oC #[sB X, sB Y, sB Z] 9, fun b => .slice (some ⟨b, 0, none⟩) 3 3), .inl (.agg (cn .u8 (shaN (packN [L] ++ packN ([X, Y, Z])))))] [] [o_, o_, l_ 3 (sB X), o_, l_ 2 (sB Y), o_, l_ 1 (sB Z), o_, u_ 1 (.agg (cn .u8 (shaN (packN [L] ++ packN ([X, Y, Z])))))] [b_ 0] [8] (fun nb => [0 ≤ 32, 32 ≤ 32, 0 < 32, bx = bx, StrAt (cn .u8 X) 0 32 (bs X), 0 ≤ 32, 32 ≤ 32, 0 < 32, by_ = by_, StrAt (cn .u8 Y) 0 32 (bs Y), 0 ≤ 32, 32 ≤ 32, 0 < 32, bz = bz, StrAt (cn .u8 Z) 0 32 (bs Z), CallP Tryz.prog 45 [sB L, .slice (some ⟨(nb 7), 0, none⟩) 3 3] [((nb 7), oC #[sB X, sB Y, sB Z] 9), (br, .cells (cn .u8 (List.replicate 32 0)) 23), (bz, .cells (cn .u8 Z) 23), (by_, .cells (cn .u8 Y) 23), (bx, .cells (cn .u8 X) 23), (0, .cells (cn .u32 kTab) Tg fg)] (.agg (cn .u8 (shaN (packN [L] ++ packN ([X, Y, Z])))))]) (fun nb Kt => br = br ∧ (cn .u8 (List.replicate 32 0)).size = 32 ∧ (cn .u8 (shaN (packN [L] ++ packN ([X, Y, Z])))).size = 32 ∧ (cn .u8 (shaN (packN [L] ++ packN ([X, Y, Z])))).all (·.oneCell') = true ∧ (0, 0).2 = 0 ∧ Kt [(8, pT br)] [(br, .cells (cn .u8 (shaN (packN [L] ++ packN ([X, Y, Z])))) 23), (bz, .cells (cn .u8 Z) 23), (by_, .cells (cn .u8 Y) 23), (bx, .cells (cn .u8 X) 23), (0, .cells (cn .u32 kTab) Tg fg)]) (by kernel_rfl) (by kernel_rfl) (by kernel_rfl) (fun _ => by kernel_rfl) (fun _ _ => by kernel_rfl) trivial (fun nb => ⟨by decide, by decide, by decide, rfl, (str_all hX.1 hX.2), by decide, by decide, by decide, rfl, (str_all hY.1 hY.2), by decide, by decide, by decide, rfl, (str_all hZ.1 hZ.2), ⟨en_key, fun w Hw => key_any Tg fg L hL ([X, Y, Z]) (lt3t hX.2 hY.2 hZ.2) (by simp only [packN_len, List.length_cons, List.length_nil, List.flatten_cons, List.flatten_nil, List.append_nil, List.length_append]; omega) (some ⟨(nb 7), 0, none⟩) 3 w (.inr ⟨(nb 7), 0, _, _, _, rfl, Hw 0 _ rfl, (at3s X Y Z)⟩) (Hw 5 _ rfl)⟩, trivial⟩) (fun nb => ⟨rfl, ((cn_size _ _).trans (List.length_replicate ..)), ((cn_size _ _).trans (shaN_bytes _).len), (cn_one _ _), rfl, fun _ _ FF2 MM2 => then_n ?_⟩))
  refine wp_ret ?_
  repeat first | refine then_ret ?_ | refine inb_ret ?_
  exact (retc FF2 MM2 (k := 32) (i := 0) (j := 0) Tryz.results24 rfl rfl Tryz.underlying23 rfl (by kernel_rfl) ((cn_size _ _).trans (shaN_bytes _).len) ⟨rfl, MM2.below1 4 rfl hg⟩)
set_option maxRecDepth 100000 in
theorem tnon_any (r : Nat) (hr : r < 18446744073709551616) (w0 : World) :
    Calls Tryz.prog 34 #[iW r] w0 fun e w' => e = .returned (.agg (cn .u8 (nonN 3 r))) ∧ Below w0.heap.size w0 w' := by
  refine enter_fr Tryz.func34 rfl Tryz.ntmps34 (by simp) fun ac (FF : Fr 5 ac [(0, iW r)]) => ?_
  have MM := MemS.start w0
  refine wp_seq (rg_c FF MM [(0, s_ 0 (.cells (cn .u8 (List.replicate 12 0)) 56))] 3 [] [] (⟨(by kernel_rfl), fun bo => fun _ _ FF1 MM1 => then_n ?_⟩))
  refine wp_seq (rg_c FF1 MM1 [(1, t_ (.agg (cn .u8 (nonN 3 r)))), (0, b_ 0)] 0 [2] [] (⟨(callP_of en_nonce (nonce_any 3 r (by decide) (by have := hr; omega)) _), rfl, ((cn_size _ _).trans (List.length_replicate ..)), ((cn_size _ _).trans (nonN_len _ _)), (cn_one _ _), rfl, fun _ _ FF2 MM2 => then_n ?_⟩))
  refine wp_ret ?_
  repeat first | refine then_ret ?_ | refine inb_ret ?_
  exact (retc FF2 MM2 (k := 12) (i := 0) (j := 0) Tryz.results34 rfl rfl Tryz.underlying56 rfl (by kernel_rfl) ((cn_size _ _).trans (nonN_len _ _)) ⟨rfl, MM2.below⟩)
set_option maxRecDepth 100000 in
theorem tname_any (Tg : TypeId) (fg : Nat × Nat) (R : List Nat) (r : Nat) (hR : BytesK 32 R) (hr : r < 18446744073709551616) (w0 : World) (hg : w0.heap[0]? = some (.cells (cn .u32 kTab) Tg fg)) :
    Calls Tryz.prog 8 #[.agg (cn .u8 R), iW r] w0 fun e w' => e = .returned (.agg (cn .u8 (nmN R r))) ∧ Below w0.heap.size w0 w' := by
  have MM := MemS.start1 hg
  refine enter_fr Tryz.func8 rfl Tryz.ntmps8 (by simp) fun ac (FF : Fr 11 ac [(0, .agg (cn .u8 R)), (1, iW r)]) => ?_
  have hr1 := hR.1
  refine wp_seq (rg_c FF MM [(0, s_ 0 (.cells (cn .u8 R) 23)), (0, s_ 0 (.cells (cn .u8 (List.replicate 16 0)) 32))] 5 [] [0] (⟨(by kernel_rfl), fun bq => ⟨(by kernel_rfl), fun br => fun _ _ FF1 MM1 => then_n ?_⟩⟩))
  refine wp_seq (rg_draw FF1 MM1 [.inl (.slice (some ⟨bq, 0, none⟩) 32 32), .inl (sB R), .inl (iW r), .inl (sB (leN 8 r)), .inr (oC #[sB R, sB (leN 8 r)] 9, fun b => .slice (some ⟨b, 0, none⟩) 2 2), .inl (.agg (cn .u8 (idN ([98, 105, 108, 108, 101, 116, 32, 110, 97, 109, 101]) ([R, leN 8 r]))))] [] [o_, l_ 1 (sB R), o_, t_ (sB (leN 8 r)), o_, u_ 1 (.agg (cn .u8 (idN ([98, 105, 108, 108, 101, 116, 32, 110, 97, 109, 101]) ([R, leN 8 r]))))] [b_ 0] [4] (fun nb => [0 ≤ 32, 32 ≤ 32, 0 < 32, bq = bq, StrAt (cn .u8 R) 0 32 (bs R), CallP Tryz.prog 27 [iW r] [] (sB (leN 8 r)), CallP Tryz.prog 26 [sB ([98, 105, 108, 108, 101, 116, 32, 110, 97, 109, 101]), .slice (some ⟨(nb 4), 0, none⟩) 2 2] [((nb 4), oC #[sB R, sB (leN 8 r)] 9), (br, .cells (cn .u8 (List.replicate 16 0)) 32), (bq, .cells (cn .u8 R) 23), (0, .cells (cn .u32 kTab) Tg fg)] (.agg (cn .u8 (idN ([98, 105, 108, 108, 101, 116, 32, 110, 97, 109, 101]) ([R, leN 8 r]))))]) (fun nb Kt => br = br ∧ (cn .u8 (List.replicate 16 0)).size = 16 ∧ (cn .u8 (idN ([98, 105, 108, 108, 101, 116, 32, 110, 97, 109, 101]) ([R, leN 8 r]))).size = 16 ∧ (cn .u8 (idN ([98, 105, 108, 108, 101, 116, 32, 110, 97, 109, 101]) ([R, leN 8 r]))).all (·.oneCell') = true ∧ (0, 0).2 = 0 ∧ Kt [(4, pT br)] [(br, .cells (cn .u8 (idN ([98, 105, 108, 108, 101, 116, 32, 110, 97, 109, 101]) ([R, leN 8 r]))) 32), (bq, .cells (cn .u8 R) 23), (0, .cells (cn .u32 kTab) Tg fg)]) (by kernel_rfl) (by kernel_rfl) (by kernel_rfl) (fun _ => by kernel_rfl) (fun _ _ => by kernel_rfl) trivial (fun nb => ⟨by decide, by decide, by decide, rfl, (str_all hR.1 hR.2), (callP_of en_round (round_any r (by have := hr; omega)) _), ⟨en_did, fun w Hw => did_any Tg fg ([98, 105, 108, 108, 101, 116, 32, 110, 97, 109, 101]) (lit_lt rfl) ([R, leN 8 r]) (lt2 hR.2 (leN_lt _ _)) (by simp only [packN_len, List.length_cons, List.length_nil, List.flatten_cons, List.flatten_nil, List.append_nil, List.length_append, leN_len]; omega) (some ⟨(nb 4), 0, none⟩) 2 w (.inr ⟨(nb 4), 0, _, _, _, rfl, Hw 0 _ rfl, (at2s R (leN 8 r))⟩) (Hw 3 _ rfl)⟩, trivial⟩) (fun nb => ⟨rfl, ((cn_size _ _).trans (List.length_replicate ..)), ((cn_size _ _).trans (idN_len _ _)), (cn_one _ _), rfl, fun _ _ FF2 MM2 => then_n ?_⟩))
  refine wp_ret ?_
  repeat first | refine then_ret ?_ | refine inb_ret ?_
  exact (retc FF2 MM2 (k := 16) (i := 0) (j := 0) Tryz.results8 rfl rfl Tryz.underlying32 rfl (by kernel_rfl) ((cn_size _ _).trans (idN_len _ _)) ⟨rfl, MM2.below1 2 rfl hg⟩)
set_option maxRecDepth 100000 in
theorem meet_ok (Tg : TypeId) (fg : Nat × Nat) (A B : List Nat) (hA : BytesK 32 A) (hB : BytesK 32 B) (hz : ¬ curveN A B = 0) (w0 : World) (hg : w0.heap[0]? = some (.cells (cn .u32 kTab) Tg fg)) :
    Calls Tryz.prog 6 #[.agg (cn .u8 A), .agg (cn .u8 B)] w0 fun e w' => e = .returned (.tuple #[.agg ((cn .u8 (outN A B)) ++ ((cn .u8 (inN A B)) ++ (cn .u8 (rootN A B)))), iN 0]) ∧ Below w0.heap.size w0 w' := by
  have MM := MemS.start1 hg
  refine enter_fr Tryz.func6 rfl Tryz.ntmps6 (by simp) fun ac (FF : Fr 42 ac [(0, .agg (cn .u8 A)), (1, .agg (cn .u8 B))]) => ?_
  refine wp_seq (rg_c FF MM [(0, s_ 0 (.cells (cn .u8 A) 23)), (0, s_ 0 (.cells (cn .u8 B) 23)), (0, s_ 0 (.cells ((cn .u8 (List.replicate 32 0)) ++ (cn .u8 (List.replicate 32 0)) ++ (cn .u8 (List.replicate 32 0))) 26))] 6 [] [0, 1] (⟨(by kernel_rfl), fun ba => ⟨(by kernel_rfl), fun bb => ⟨(by kernel_rfl), fun bp => fun _ _ FF1 MM1 => then_n ?_⟩⟩⟩))
  refine wp_seq (rg_c FF1 MM1 [(0, b_ 2), (0, b_ 1), (0, t_ (.tuple #[.agg (cn .u8 (ssN A B)), iN 0])), (3, s_ 0 (.cells (cn .u8 (List.replicate 32 0)) 23)), (0, b_ 0)] 8 [] [] (⟨rfl, ((cn_size _ _).trans hA.1), rfl, ((cn_size _ _).trans hB.1), (callP_of en_cshared (by have h0 := cshared_any A B ⟨hA.1, hA.2⟩ ⟨hB.1, hB.2⟩; rw [if_neg hz] at h0; exact h0) _), (by kernel_rfl), fun bs_ => ⟨rfl, ((cn_size _ _).trans (List.length_replicate ..)), ((cn_size _ _).trans (ssN_ok A B).1), (cn_one _ _), rfl, fun _ _ FF2 MM2 => then_n ?_⟩⟩))
  refine wp_seq ?_
  refine wp_seq (rg_c FF2 MM2 [(1, w_ 3)] 8 [18] [] (⟨by decide, fun _ _ FF3 MM3 => then_n ?_⟩))
  refine wp_cond_false (FF3.ev 0 rfl) ?_
  refine wp_skip ?_
  refine then_n ?_
  refine wp_seq (rg_c FF3 MM3 [(0, b_ 3), (0, t_ (.agg (cn .u8 (pbN A)))), (0, s_ 0 (.cells (cn .u8 (List.replicate 32 0)) 23)), (0, b_ 0)] 9 [] [] (⟨rfl, ((cn_size _ _).trans hA.1), (callP_of en_cpub (cpub_any A ⟨hA.1, hA.2⟩) _), (by kernel_rfl), fun bo => ⟨rfl, ((cn_size _ _).trans (List.length_replicate ..)), ((cn_size _ _).trans (pbN_ok A).1), (cn_one _ _), rfl, fun _ _ FF4 MM4 => then_n ?_⟩⟩))
  refine wp_seq (rg_c FF4 MM4 [(0, b_ 0), (0, b_ 3), (0, t_ (.tuple #[.agg (cn .u8 ((rowN (pbN A) B).1)), .agg (cn .u8 ((rowN (pbN A) B).2))])), (3, s_ 0 (.cells (cn .u8 (List.replicate 32 0)) 23)), (0, s_ 0 (.cells (cn .u8 (List.replicate 32 0)) 23)), (0, b_ 1), (0, b_ 0)] 11 [] [] (⟨rfl, ((cn_size _ _).trans (pbN_ok A).1), rfl, ((cn_size _ _).trans hB.1), (callP_of en_row (row_any (pbN A) B ⟨(pbN_ok A).1, (pbN_ok A).2⟩ ⟨hB.1, hB.2⟩) _), (by kernel_rfl), fun bl => ⟨(by kernel_rfl), fun bh => ⟨rfl, ((cn_size _ _).trans (List.length_replicate ..)), ((cn_size _ _).trans (rowN_ok ⟨(pbN_ok A).1, (pbN_ok A).2⟩ ⟨hB.1, hB.2⟩).1.1), (cn_one _ _), rfl, rfl, ((cn_size _ _).trans (List.length_replicate ..)), ((cn_size _ _).trans (rowN_ok ⟨(pbN_ok A).1, (pbN_ok A).2⟩ ⟨hB.1, hB.2⟩).2.1), (cn_one _ _), rfl, fun _ _ FF5 MM5 => then_n ?_⟩⟩⟩))
  refine wp_seq (rg_dc 13 FF5 MM5 [(0, b_ 3), (0, b_ 2), (0, b_ 5), (0, u_ 1 (.agg (cn .u8 (outN A B)))), (0, b_ 3), (0, b_ 5), (0, b_ 2), (0, u_ 1 (.agg (cn .u8 (inN A B)))), (0, b_ 3), (0, b_ 1), (0, b_ 0), (0, u_ 1 (.agg (cn .u8 (rootN A B)))), (0, f_ (.agg ((cn .u8 (outN A B)) ++ ((cn .u8 (inN A B)) ++ (cn .u8 (rootN A B))))))] [(0, b_ 4)] 11 [] [] (⟨rfl, ((cn_size _ _).trans (ssN_ok A B).1), rfl, ((cn_size _ _).trans (pbN_ok A).1), rfl, ((cn_size _ _).trans hB.1), ⟨en_keyof, fun w Hw => keyof_any Tg fg tLab (ssN A B) (pbN A) B (lit_lt (by kernel_rfl)) (by decide) ⟨(ssN_ok A B).1, (ssN_ok A B).2⟩ ⟨(pbN_ok A).1, (pbN_ok A).2⟩ ⟨hB.1, hB.2⟩ w (Hw 7 _ rfl)⟩, rfl, ((cn_size _ _).trans (ssN_ok A B).1), rfl, ((cn_size _ _).trans hB.1), rfl, ((cn_size _ _).trans (pbN_ok A).1), ⟨en_keyof, fun w Hw => keyof_any Tg fg tLab (ssN A B) B (pbN A) (lit_lt (by kernel_rfl)) (by decide) ⟨(ssN_ok A B).1, (ssN_ok A B).2⟩ ⟨hB.1, hB.2⟩ ⟨(pbN_ok A).1, (pbN_ok A).2⟩ w (Hw 7 _ rfl)⟩, rfl, ((cn_size _ _).trans (ssN_ok A B).1), rfl, ((cn_size _ _).trans (rowN_ok ⟨(pbN_ok A).1, (pbN_ok A).2⟩ ⟨hB.1, hB.2⟩).1.1), rfl, ((cn_size _ _).trans (rowN_ok ⟨(pbN_ok A).1, (pbN_ok A).2⟩ ⟨hB.1, hB.2⟩).2.1), ⟨en_keyof, fun w Hw => keyof_any Tg fg dLab (ssN A B) ((rowN (pbN A) B).1) ((rowN (pbN A) B).2) (lit_lt (by kernel_rfl)) (by decide) ⟨(ssN_ok A B).1, (ssN_ok A B).2⟩ ⟨(rowN_ok ⟨(pbN_ok A).1, (pbN_ok A).2⟩ ⟨hB.1, hB.2⟩).1.1, (rowN_ok ⟨(pbN_ok A).1, (pbN_ok A).2⟩ ⟨hB.1, hB.2⟩).1.2⟩ ⟨(rowN_ok ⟨(pbN_ok A).1, (pbN_ok A).2⟩ ⟨hB.1, hB.2⟩).2.1, (rowN_ok ⟨(pbN_ok A).1, (pbN_ok A).2⟩ ⟨hB.1, hB.2⟩).2.2⟩ w (Hw 7 _ rfl)⟩, (build_ok (t := 26) (ps := #[(0, (.tmp 32)), (1, (.tmp 36)), (2, (.tmp 40))]) (by kernel_rfl) rfl (built_fits (pl := [(0, 32), (32, 32), (64, 32)]) (tot := 96) (n := 32) (by kernel_rfl) (by kernel_rfl) (ns := [32, 32]) ⟨rfl, (show (cn .u8 (outN A B)).size = 32 from ((cn_size _ _).trans (outN_ok A B).1)), rfl, (show (cn .u8 (inN A B)).size = 32 from ((cn_size _ _).trans (inN_ok A B).1)), rfl, (show (cn .u8 (rootN A B)).size = 32 from ((cn_size _ _).trans (rootN_ok A B).1)), rfl⟩ (Array.append_assoc (xs := cn .u8 (outN A B))))), rfl, (by simp [cn_size]), (by simp [cn_size, (outN_ok A B).1, (inN_ok A B).1, (rootN_ok A B).1]), (one_app (cn_one _ _) (one_app (cn_one _ _) (cn_one _ _))), rfl, fun _ _ FF6 MM6 => then_n ?_⟩))
  refine wp_ret ?_
  repeat first | refine then_ret ?_ | refine inb_ret ?_
  exact (ret_ct FF6 MM6 (k := 96) (i := 4) (j := 6) (m := 0) Tryz.results6 rfl rfl rfl Tryz.underlying26 rfl (by kernel_rfl) (by simp [cn_size, (outN_ok A B).1, (inN_ok A B).1, (rootN_ok A B).1]) ⟨rfl, MM6.below1 7 rfl hg⟩)
set_option maxRecDepth 100000 in
theorem meet_weak (Tg : TypeId) (fg : Nat × Nat) (A B : List Nat) (hA : BytesK 32 A) (hB : BytesK 32 B) (hz : curveN A B = 0) (w0 : World) (hg : w0.heap[0]? = some (.cells (cn .u32 kTab) Tg fg)) :
    Calls Tryz.prog 6 #[.agg (cn .u8 A), .agg (cn .u8 B)] w0 fun e w' => e = .returned (.tuple #[.agg ((cn .u8 (List.replicate 32 0)) ++ (cn .u8 (List.replicate 32 0)) ++ (cn .u8 (List.replicate 32 0))), iN 2]) ∧ Below w0.heap.size w0 w' := by
  have MM := MemS.start1 hg
  refine enter_fr Tryz.func6 rfl Tryz.ntmps6 (by simp) fun ac (FF : Fr 42 ac [(0, .agg (cn .u8 A)), (1, .agg (cn .u8 B))]) => ?_
  refine wp_seq (rg_c FF MM [(0, s_ 0 (.cells (cn .u8 A) 23)), (0, s_ 0 (.cells (cn .u8 B) 23)), (0, s_ 0 (.cells ((cn .u8 (List.replicate 32 0)) ++ (cn .u8 (List.replicate 32 0)) ++ (cn .u8 (List.replicate 32 0))) 26))] 6 [] [0, 1] (⟨(by kernel_rfl), fun ba => ⟨(by kernel_rfl), fun bb => ⟨(by kernel_rfl), fun bp => fun _ _ FF1 MM1 => then_n ?_⟩⟩⟩))
  refine wp_seq (rg_c FF1 MM1 [(0, b_ 2), (0, b_ 1), (0, t_ (.tuple #[.agg (cn .u8 (ssN A B)), iN 2])), (3, s_ 0 (.cells (cn .u8 (List.replicate 32 0)) 23)), (0, b_ 0)] 8 [] [] (⟨rfl, ((cn_size _ _).trans hA.1), rfl, ((cn_size _ _).trans hB.1), (callP_of en_cshared (by have h0 := cshared_any A B ⟨hA.1, hA.2⟩ ⟨hB.1, hB.2⟩; rw [if_pos hz] at h0; exact h0) _), (by kernel_rfl), fun bs_ => ⟨rfl, ((cn_size _ _).trans (List.length_replicate ..)), ((cn_size _ _).trans (ssN_ok A B).1), (cn_one _ _), rfl, fun _ _ FF2 MM2 => then_n ?_⟩⟩))
  refine wp_seq ?_
  refine wp_seq (rg_c FF2 MM2 [(1, w_ 2)] 8 [18] [] (⟨by decide, fun _ _ FF3 MM3 => then_n ?_⟩))
  refine wp_cond_true (FF3.ev 0 rfl) ?_
  refine wp_seq (rg_c FF3 MM3 [(0, t_ (.agg ((cn .u8 (List.replicate 32 0)) ++ (cn .u8 (List.replicate 32 0)) ++ (cn .u8 (List.replicate 32 0))))), (1, b_ 1)] 8 [] [] (⟨(by kernel_rfl), rfl, (by simp [cn_size]), (by simp [cn_size]), (one_app (one_app (cn_one _ _) (cn_one _ _)) (cn_one _ _)), rfl, fun _ _ FF4 MM4 => then_n ?_⟩))
  refine wp_ret ?_
  repeat first | refine then_ret ?_ | refine inb_ret ?_
  exact (ret_ct FF4 MM4 (k := 96) (i := 1) (j := 3) (m := 0) Tryz.results6 rfl rfl rfl Tryz.underlying26 rfl (by kernel_rfl) (by simp [cn_size]) ⟨rfl, MM4.below1 4 rfl hg⟩)
end Go.Proofs.YtdjpacgjhcidpabGreatDoor
namespace Go.Proofs.YtdjpacgjhcidpabGreatDoor
open Go.RowKit
set_option maxRecDepth 100000 in
theorem idle_nil (r : Nat) (hr : r < 18446744073709551616) (w0 : World) :
    Calls Tryz.prog 16 #[.pointer none, iW r] w0 fun e w' => e = .returned (sB ((List.replicate 16 0) ++ (sealN (List.replicate 32 0) (nonN 3 r) [] (List.replicate 20 0)))) ∧ Below w0.heap.size w0 w' := by
  refine enter_fr Tryz.func16 rfl Tryz.ntmps16 (by simp) fun ac (FF : Fr 24 ac [(0, .pointer none), (1, iW r)]) => ?_
  have MM := MemS.start w0
  refine wp_seq (rg_c FF MM [(0, t_ (sB []))] 5 [] [] (⟨(by kernel_rfl), fun _ _ FF1 MM1 => then_n ?_⟩))
  refine wp_seq (rg_c FF1 MM1 [(1, t_ (.agg (cn .u8 (List.replicate 16 0)))), (0, s_ 0 (.cells (cn .u8 (List.replicate 16 0)) 32)), (0, b_ 0)] 6 [] [] (⟨(callP_of en_tid tid_nil _), (by kernel_rfl), fun bi => ⟨rfl, ((cn_size _ _).trans (List.length_replicate ..)), ((cn_size _ _).trans (List.length_replicate ..)), (cn_one _ _), rfl, fun _ _ FF2 MM2 => then_n ?_⟩⟩))
  refine wp_seq (rg_c FF2 MM2 [(1, t_ (.agg (cn .u8 (List.replicate 32 0)))), (1, t_ (.agg (cn .u8 (nonN 3 r)))), (0, t_ (sB (List.replicate 20 0))), (0, t_ (sB (sealN (List.replicate 32 0) (nonN 3 r) [] (List.replicate 20 0))))] 7 [] [1] (⟨(callP_of en_tkey tkey_nil _), (callP_of en_tnon (tnon_any r (by have := hr; omega)) _), (callP_of en_repeat (repeat0_any 20 (by decide)) _), (callP_of en_Seal (seal_any (List.replicate 32 0) (nonN 3 r) ⟨(List.length_replicate ..), (rep0_lt)⟩ ⟨(nonN_len _ _), (nonN_lt _ _)⟩ [] (List.replicate 20 0) (lit_lt (by kernel_rfl)) (rep0_lt (by decide)) (by decide) (by rw [List.length_replicate]; decide)) _), fun _ _ FF3 MM3 => then_n ?_⟩))
  refine wp_seq (rg_c FF3 MM3 [(0, b_ 0), (1, t_ (.tuple #[sB ((List.replicate 16 0) ++ (sealN (List.replicate 32 0) (nonN 3 r) [] (List.replicate 20 0))), iN 0]))] 6 [7] [] (⟨rfl, ((cn_size _ _).trans (List.length_replicate ..)), (callP_of en_request (fun w => by have h0 := request_any (List.replicate 16 0) (List.length_replicate ..) (rep0_lt) (sealN (List.replicate 32 0) (nonN 3 r) [] (List.replicate 20 0)) w; rw [requestR_ok (by rw [sealN_len, List.length_replicate])] at h0; exact h0) _), fun _ _ FF4 MM4 => then_n ?_⟩))
  refine wp_seq (rg_c FF4 MM4 [] 6 [] [] (fun _ _ FF5 MM5 => then_n ?_))
  refine wp_ret ?_
  repeat first | refine then_ret ?_ | refine inb_ret ?_
  exact (ret_fr FF5 0 Tryz.results16 rfl ⟨rfl, MM5.below⟩)
set_option maxRecDepth 100000 in
theorem say_real {b m1 m2 m3 : Nat} (Tg : TypeId) (fg : Nat × Nat) (O I_ R X : List Nat) (r : Nat) (hO : BytesK 32 O) (hI : BytesK 32 I_) (hR : BytesK 32 R) (hr : r < 18446744073709551616) (hX : ∀ i, X.getD i 0 < 256) (hl : X.length ≤ 19) (w0 : World) (H : Has w0 [(b, oC #[.bool false, .pointer none, .map (some m1), .map (some m2), .map (some m3), iN 0] 73), (m1, KM []), (m2, KM []), (m3, NM []), (0, Obj.cells (cn .u32 kTab) Tg fg)]) (hD : Distinct [(b, oC #[.bool false, .pointer none, .map (some m1), .map (some m2), .map (some m3), iN 0] 73), (m1, KM []), (m2, KM []), (m3, NM []), (0, Obj.cells (cn .u32 kTab) Tg fg)]) :
    Calls Tryz.prog 12 #[pT b, .agg ((cn .u8 O) ++ ((cn .u8 I_) ++ (cn .u8 R))), .bool true, iW r, sB X] w0 fun e w' => e = .returned (.tuple #[sB ((nmN R r) ++ (sealN O (nonN 3 r) [] (bodyN X))), iN 0]) ∧ TurnB [(m1, KM (shareK false 32 I_ (shareK false 32 O [] []) [])), (m3, NM (noteP false O (nonN 3 r) (shareK false 32 I_ (shareK false 32 O [] []) []) (bodyN X) []))] w0 w' := by
  refine enter_fr Tryz.func12 rfl Tryz.ntmps12 (by simp) fun ac (FF : Fr 52 ac [(0, pT b), (1, .agg ((cn .u8 O) ++ ((cn .u8 I_) ++ (cn .u8 R)))), (2, .bool true), (3, iW r), (4, sB X)]) => ?_
  have MM : MemS (fun k => k < w0.heap.size ∧ ∀ x ∈ [(b, oC #[.bool false, .pointer none, .map (some m1), .map (some m2), .map (some m3), iN 0] 73), (m1, KM []), (m2, KM []), (m3, NM []), (0, .cells (cn .u32 kTab) Tg fg)], x.1 ≠ k) w0 w0 [(b, oC #[.bool false, .pointer none, .map (some m1), .map (some m2), .map (some m3), iN 0] 73), (m1, KM []), (m2, KM []), (m3, NM []), (0, .cells (cn .u32 kTab) Tg fg)] [] := MemS.startN H hD
  have hbl := bodyN_len hl
  have hbt := bodyN_lt hX hl
  refine wp_seq (rg_c FF MM [(0, s_ 0 (.cells ((cn .u8 O) ++ ((cn .u8 I_) ++ (cn .u8 R))) 26)), (0, t_ (sB []))] 12 [] [1] (⟨(by kernel_rfl), fun bp => ⟨(by kernel_rfl), fun _ _ FF1 MM1 => then_n ?_⟩⟩))
  refine wp_seq (rg_c FF1 MM1 [(1, t_ (.tuple #[sB (bodyN X), iN 0]))] 14 [] [4] (⟨(callP_of en_body (fun w => by have h0 := body_any X hX w; rw [bodyR_ok hl] at h0; exact h0) _), fun _ _ FF2 MM2 => then_n ?_⟩))
  refine wp_seq ?_
  refine wp_seq (rg_c FF2 MM2 [(1, w_ 3)] 14 [21] [] (⟨by decide, fun _ _ FF3 MM3 => then_n ?_⟩))
  refine wp_cond_false (FF3.ev 0 rfl) ?_
  refine wp_skip ?_
  refine then_n ?_
  refine wp_seq (rg_c FF3 MM3 [(1, l_ 0 (.agg (cn .u8 R))), (1, u_ 1 (.agg (cn .u8 (nmN R r)))), (0, s_ 0 (.cells (cn .u8 (List.replicate 16 0)) 32)), (0, b_ 0)] 15 [] [] (⟨rfl, (part_r 32 ((cn_size _ _).trans hO.1) rfl (part_r 0 ((cn_size _ _).trans hI.1) rfl (part_whole _))), ((cn_size _ _).trans hR.1), ⟨en_tname, fun w Hw => tname_any Tg fg R r ⟨hR.1, hR.2⟩ (by have := hr; omega) w (Hw 5 _ rfl)⟩, (by kernel_rfl), fun bn => ⟨rfl, ((cn_size _ _).trans (List.length_replicate ..)), ((cn_size _ _).trans (nmN_ok R r).1), (cn_one _ _), rfl, fun _ _ FF4 MM4 => then_n ?_⟩⟩))
  refine wp_seq ?_
  refine wp_seq (rg_c FF4 MM4 [] 28 [] [2] (fun _ _ FF5 MM5 => then_n ?_))
  refine wp_cond_true (FF5.ev 0 rfl) ?_
  refine wp_seq (rg_c FF5 MM5 [(2, l_ 1 (.agg (cn .u8 O))), (0, c_ (.tuple #[]) [(3, KM (shareK false 32 O [] []))])] 15 [] [] (⟨rfl, (part_l (part_whole _)), ((cn_size _ _).trans hO.1), (callU_B [2, 3] en_pshare rfl rfl (fun w Hw => pshare_real (K := O) (okP_nil _) ⟨hO.1, hO.2⟩ w Hw (distinct_names rfl (distinct_at MM5.distinct (is := [2, 3]) rfl rfl)))), fun _ _ FF6 MM6 => then_n ?_⟩))
  refine wp_seq (rg_c FF6 MM6 [(2, l_ 1 (.agg (cn .u8 I_))), (0, c_ (.tuple #[]) [(3, KM (shareK false 32 I_ (shareK false 32 O [] []) []))])] 15 [] [] (⟨rfl, (part_r 0 ((cn_size _ _).trans hO.1) rfl (part_l (part_whole _))), ((cn_size _ _).trans hI.1), (callU_B [2, 3] en_pshare rfl rfl (fun w Hw => pshare_real (K := I_) (share_ok false (okP_nil 32) hO (lit_lt (by kernel_rfl))) ⟨hI.1, hI.2⟩ w Hw (distinct_names rfl (distinct_at MM6.distinct (is := [2, 3]) rfl rfl)))), fun _ _ FF7 MM7 => then_n ?_⟩))
  refine rg_c FF7 MM7 [(1, b_ 0), (0, u_ 1 (.tuple #[]))] 15 [] [] (⟨rfl, ((cn_size _ _).trans (nmN_ok R r).1), (callP_B [2] en_pshareid rfl (fun w Hw => pshareid_real (K := (nmN R r)) ⟨(nmN_ok R r).1, (nmN_ok R r).2⟩ w Hw (distinct_names rfl (distinct_at MM7.distinct (is := [2]) rfl rfl)))), fun _ _ FF8 MM8 => ?_⟩)
  refine then_n ?_
  refine wp_seq (late_stand (N := 15) [(bp, .cells ((cn .u8 O) ++ ((cn .u8 I_) ++ (cn .u8 R))) 26), (bn, .cells (cn .u8 (nmN R r)) 32), (0, .cells (cn .u32 kTab) Tg fg)] (by kernel_rfl) (by kernel_rfl) MM8 fun wq9 MM10 => ?_)
  refine late_take FF8 (i := 0) (oi := (opAt Tryz.f12 9 0)) (v := (pT b)) (d := 39) (atL_has (is := [1, 0, 6]) rfl MM10.hasL) (by kernel_rfl) (by kernel_rfl) (by kernel_rfl) (by kernel_rfl) (by kernel_rfl) (fun _ _ _ _ _ h => h) (by kernel_rfl) (by decide) (by kernel_rfl) (mvV (x := (.tmp 0)) (by kernel_rfl) rfl) fun _ FF11 => ?_
  refine late_take FF11 (i := 1) (oi := (opAt Tryz.f12 9 1)) (v := (.agg (cn .u8 (nmN R r)))) (d := 40) (atL_has (is := [1, 0, 6]) rfl MM10.hasL) (by kernel_rfl) (by kernel_rfl) (by kernel_rfl) (by kernel_rfl) (by kernel_rfl) (fun _ _ _ _ _ h => h) (by kernel_rfl) (by decide) (by kernel_rfl) (loadRi (x := (.tmp 14)) (k := 1) (m := 16) (by kernel_rfl) rfl Tryz.underlying32 rfl (by kernel_rfl) rfl ((cn_size _ _).trans (nmN_ok R r).1)) fun _ FF12 => ?_
  refine late_take FF12 (i := 3) (oi := (opAt Tryz.f12 9 3)) (v := (pT b)) (d := 42) (atL_has (is := [1, 0, 6]) rfl MM10.hasL) (by kernel_rfl) (by kernel_rfl) (by kernel_rfl) (by kernel_rfl) (by kernel_rfl) (fun _ _ _ _ _ h => h) (by kernel_rfl) (by decide) (by kernel_rfl) (mvV (x := (.tmp 0)) (by kernel_rfl) rfl) fun _ FF13 => ?_
  refine late_take FF13 (i := 4) (oi := (opAt Tryz.f12 9 4)) (v := (pT bp)) (d := 43) (atL_has (is := [1, 0, 6]) rfl MM10.hasL) (by kernel_rfl) (by kernel_rfl) (by kernel_rfl) (by kernel_rfl) (by kernel_rfl) (fun _ _ _ _ _ h => h) (by kernel_rfl) (by decide) (by kernel_rfl) (fldV (x := (.tmp 6)) (t := 26) (k := 0) (cs := []) (by kernel_rfl) rfl (by kernel_rfl)) fun _ FF14 => ?_
  refine late_take FF14 (i := 5) (oi := (opAt Tryz.f12 9 5)) (v := (.agg (cn .u8 O))) (d := 44) (atL_has (is := [1, 0, 6]) rfl MM10.hasL) (by kernel_rfl) (by kernel_rfl) (by kernel_rfl) (by kernel_rfl) (by kernel_rfl) (fun _ _ _ _ _ h => h) (by kernel_rfl) (by decide) (by kernel_rfl) (loadPi (x := (.tmp 43)) (k := 0) (m := 32) (by kernel_rfl) rfl Tryz.underlying23 rfl (by kernel_rfl) rfl (part_l (part_whole _)) ((cn_size _ _).trans hO.1)) fun _ FF15 => ?_
  refine late_take FF15 (i := 6) (oi := (opAt Tryz.f12 9 6)) (v := (iW r)) (d := 45) (atL_has (is := [1, 0, 6]) rfl MM10.hasL) (by kernel_rfl) (by kernel_rfl) (by kernel_rfl) (by kernel_rfl) (by kernel_rfl) (fun _ _ _ _ _ h => h) (by kernel_rfl) (by decide) (by kernel_rfl) (mvV (x := (.tmp 3)) (by kernel_rfl) rfl) fun _ FF16 => ?_
  refine late_take FF16 (i := 8) (oi := (opAt Tryz.f12 9 8)) (v := (sB (bodyN X))) (d := 47) (atL_has (is := [1, 0, 6]) rfl MM10.hasL) (by kernel_rfl) (by kernel_rfl) (by kernel_rfl) (by kernel_rfl) (by kernel_rfl) (fun _ _ _ _ _ h => h) (by kernel_rfl) (by decide) (by kernel_rfl) (mvV (x := (.tmp 12)) (by kernel_rfl) rfl) fun _ FF17 => ?_
  refine late_one (i := 2) (oi := (opAt Tryz.f12 9 2)) (by kernel_rfl) (by kernel_rfl) ?_
  refine rp_c 1 FF17 MM10 [(0, u_ 1 (.agg (cn .u8 (nmN R r))))] 48 [] [43, 40, 39, 12] (⟨(callP_B [2, 4] en_pID rfl (fun w Hw => by have h0 := pID_any (K := (nmN R r)) (okP_nil _) ⟨(nmN_ok R r).1, (nmN_ok R r).2⟩ w Hw (distinct_names rfl (distinct_at MM10.distinct (is := [2, 4]) rfl rfl)); rw [own_real (ownI_nil false)] at h0; exact h0)), fun _ _ FF18 MM18 => ?_⟩)
  refine wpl_nil (onN_n ⟨fun _ => (atL_has (is := [1, 0, 6]) rfl MM18.hasL), ?_⟩)
  refine late_one (i := 7) (oi := (opAt Tryz.f12 9 7)) (by kernel_rfl) (by kernel_rfl) ?_
  refine rp_c 1 FF18 MM18 [(0, t_ (.agg (cn .u8 (nonN 3 r))))] 48 [] [45] (⟨(callP_of en_tnon (tnon_any r (by have := hr; omega)) _), fun _ _ FF19 MM19 => ?_⟩)
  refine wpl_nil (onN_n ⟨fun _ => (atL_has (is := [1, 0, 6]) rfl MM19.hasL), ?_⟩)
  refine late_one (i := 9) (oi := (opAt Tryz.f12 9 9)) (by kernel_rfl) (by kernel_rfl) ?_
  refine rp_c 1 FF19 MM19 [(0, c_ (sB (sealN O (nonN 3 r) [] (bodyN X))) [(5, NM (noteP false O (nonN 3 r) (shareK false 32 I_ (shareK false 32 O [] []) []) (bodyN X) []))])] 42 [48] [] (⟨(callU_B [2, 3, 5] en_pseal rfl rfl (fun w Hw => by have h0 := pseal_any (K := O) (share_ok false (share_ok false (okP_nil 32) hO (lit_lt (by kernel_rfl))) hI (lit_lt (by kernel_rfl))) ⟨hO.1, hO.2⟩ okQ_nil (N := (nonN 3 r)) (Y := (bodyN X)) ⟨(nonN_len _ _), (nonN_lt _ _)⟩ hbt (by rw [hbl]; decide) (OwnI.share ((ownI_nil false).share []) []).get w Hw (distinct_names rfl (distinct_at MM19.distinct (is := [2, 3, 5]) rfl rfl)); rw [real_box] at h0; exact h0)), fun _ _ FF20 MM20 => ?_⟩)
  refine wpl_nil (onN_n ⟨fun _ => (atL_has (is := [1, 0, 6]) rfl MM20.hasL), ?_⟩)
  refine late_one (i := 10) (oi := (opAt Tryz.f12 9 10)) (by kernel_rfl) (by kernel_rfl) ?_
  refine rp_c 1 FF20 MM20 [(0, t_ (.tuple #[sB ((nmN R r) ++ (sealN O (nonN 3 r) [] (bodyN X))), iN 0]))] 15 [49] [] (⟨(callP_of en_request (fun w => by have h0 := request_any (nmN R r) (nmN_ok R r).1 (nmN_ok R r).2 (sealN O (nonN 3 r) [] (bodyN X)) w; rw [requestR_ok (by rw [sealN_len, hbl])] at h0; exact h0) _), fun _ _ FF21 MM21 => ?_⟩)
  refine wpl_nil (onN_n ⟨fun _ => (atL_has (is := [1, 0, 6]) rfl MM21.hasL), ?_⟩)
  refine late_take FF21 (i := 11) (oi := (opAt Tryz.f12 9 11)) (v := (sB ((nmN R r) ++ (sealN O (nonN 3 r) [] (bodyN X))))) (d := 50) (atL_has (is := [1, 0, 6]) rfl MM21.hasL) (by kernel_rfl) (by kernel_rfl) (by kernel_rfl) (by kernel_rfl) (by kernel_rfl) (fun _ _ _ _ _ h => h) (by kernel_rfl) (by decide) (by kernel_rfl) (extV (x := (.tmp 49)) (i := 0) (by kernel_rfl) rfl rfl) fun _ FF22 => ?_
  refine late_take FF22 (i := 12) (oi := (opAt Tryz.f12 9 12)) (v := (iN 0)) (d := 51) (atL_has (is := [1, 0, 6]) rfl MM21.hasL) (by kernel_rfl) (by kernel_rfl) (by kernel_rfl) (by kernel_rfl) (by kernel_rfl) (fun _ _ _ _ _ h => h) (by kernel_rfl) (by decide) (by kernel_rfl) (extV (x := (.tmp 49)) (i := 1) (by kernel_rfl) rfl rfl) fun _ FF23 => ?_
  refine late_one (i := 13) (oi := (opAt Tryz.f12 9 13)) (by kernel_rfl) (by kernel_rfl) ?_
  refine rp_c 1 FF23 MM21 [] 15 [51] [] (fun _ _ FF24 MM24 => ?_)
  refine wpl_nil (onN_n ⟨fun _ => (atL_has (is := [1, 0, 6]) rfl MM24.hasL), ?_⟩)
  refine late_one (i := 14) (oi := (opAt Tryz.f12 9 14)) (by kernel_rfl) (by kernel_rfl) ?_
  refine rp_c 1 FF24 MM24 [] 15 [] [] (fun _ _ FF25 MM25 => ?_)
  refine wpl_nil (onN_n ⟨fun _ => (atL_has (is := [1, 0, 6]) rfl MM25.hasL), ?_⟩)
  refine late_none (by kernel_rfl) (then_n ?_)
  refine wp_ret ?_
  repeat first | refine then_ret ?_ | refine inb_ret ?_
  exact (ret_tup2 FF25 1 0 Tryz.results12 rfl rfl ⟨rfl, MM25.turnB [(m1, KM (shareK false 32 I_ (shareK false 32 O [] []) [])), (m3, NM (noteP false O (nonN 3 r) (shareK false 32 I_ (shareK false 32 O [] []) []) (bodyN X) []))] H (List.forall_mem_cons.2 ⟨(List.mem_of_getElem? (i := 3) rfl), (List.forall_mem_cons.2 ⟨(List.mem_of_getElem? (i := 5) rfl), (fun _ h => (nomatch h))⟩)⟩) (List.forall_mem_cons.2 ⟨.inl (List.mem_of_getElem? (i := 2) rfl), (List.forall_mem_cons.2 ⟨.inr ⟨_, (List.mem_of_getElem? (i := 0) rfl), rfl⟩, (List.forall_mem_cons.2 ⟨.inl (List.mem_of_getElem? (i := 4) rfl), (List.forall_mem_cons.2 ⟨.inr ⟨_, (List.mem_of_getElem? (i := 1) rfl), rfl⟩, (List.forall_mem_cons.2 ⟨.inl (List.mem_of_getElem? (i := 6) rfl), (fun _ h => (nomatch h))⟩)⟩)⟩)⟩)⟩)⟩)
set_option maxRecDepth 100000 in
theorem hear_nil (O I_ R X Z : List Nat) (r : Nat) (hO : BytesK 32 O) (hI : BytesK 32 I_) (_hR : BytesK 32 R) (hr : r < 18446744073709551616) (hX : ∀ i, X.getD i 0 < 256) (hl : X.length ≤ 19) (hZ : ∀ i, Z.getD i 0 < 256) (hZl : Z.length ≤ 1000000) (ho : opensN I_ (nonN 3 r) [] Z ∧ plainN I_ (nonN 3 r) Z = bodyN X) (w0 : World) :
    Calls Tryz.prog 14 #[.pointer none, .agg ((cn .u8 O) ++ ((cn .u8 I_) ++ (cn .u8 R))), iW r, sB Z] w0 fun e w' => e = .returned (.tuple #[sB X, .bool true]) ∧ Below w0.heap.size w0 w' := by
  refine enter_fr Tryz.func14 rfl Tryz.ntmps14 (by simp) fun ac (FF : Fr 28 ac [(0, .pointer none), (1, .agg ((cn .u8 O) ++ ((cn .u8 I_) ++ (cn .u8 R)))), (2, iW r), (3, sB Z)]) => ?_
  have MM := MemS.start w0
  have hbt := bodyN_lt hX hl
  refine wp_seq (rg_c FF MM [(0, s_ 0 (.cells ((cn .u8 O) ++ ((cn .u8 I_) ++ (cn .u8 R))) 26)), (0, t_ (sB []))] 9 [9] [1] (⟨(by kernel_rfl), fun bp => ⟨(by kernel_rfl), fun _ _ FF1 MM1 => then_n ?_⟩⟩))
  refine wp_seq (rg_dc 12 FF1 MM1 [(2, l_ 0 (.agg (cn .u8 I_))), (1, t_ (.agg (cn .u8 (nonN 3 r)))), (1, t_ (.tuple #[sB (bodyN X), .bool true]))] [] 12 [] [5, 0, 2, 3] (⟨rfl, (part_r 0 ((cn_size _ _).trans hO.1) rfl (part_l (part_whole _))), ((cn_size _ _).trans hI.1), (callP_of en_tnon (tnon_any r (by have := hr; omega)) _), (callP_of en_popen (fun w => by have h0 := popen_nil_yes I_ (nonN 3 r) Z ⟨hI.1, hI.2⟩ ⟨(nonN_len _ _), (nonN_lt _ _)⟩ hZ hZl ho.1 w; rw [ho.2] at h0; exact h0) _), fun _ _ FF2 MM2 => then_n ?_⟩))
  refine wp_seq ?_
  refine wp_seq (rg_c FF2 MM2 [] 11 [23] [] (fun _ _ FF3 MM3 => then_n ?_))
  refine wp_cond_false (FF3.ev 0 rfl) ?_
  refine wp_skip ?_
  refine then_n ?_
  refine wp_seq (rg_c FF3 MM3 [(1, t_ (.tuple #[sB X, .bool true]))] 9 [9] [] (⟨(callP_of en_text (fun w => by have h0 := text_any (bodyN X) hbt w; rw [text_body hl] at h0; exact h0) _), fun _ _ FF4 MM4 => then_n ?_⟩))
  refine wp_ret ?_
  repeat first | refine then_ret ?_ | refine inb_ret ?_
  exact (ret_tup2 FF4 1 0 Tryz.results14 rfl rfl ⟨rfl, MM4.below⟩)
end Go.Proofs.YtdjpacgjhcidpabGreatDoor
namespace Go.Proofs.YtdjpacgjhcidpabGreatDoor
open Go.RowKit
theorem share_keep {i : Bool} {n : Nat} {K J v : List Nat} {ks : Pairs} (h : mget K ks = some v) (Y : List Nat) : mget K (shareK i n J ks Y) = some v := by
  cases hj : mget J ks with
  | some _ => rw [(share_yes hj Y).1]; exact h
  | none =>
    rw [(share_no hj Y).1, ← mput_new _ hj]
    exact (mget_put_ne (fun e => by rw [e, h] at hj; cases hj) _ _).trans h
/-- What is shared, what is left of the tape, behind a Say. -/
def sayK (i h : Bool) (O J : List Nat) (ks : Pairs) (T : List Nat) : Pairs := match h with | true => shareK i 32 J (shareK i 32 O ks T) (T.drop (shareU i 32 O ks)) | false => ks
def sayI (i h : Bool) (O J D : List Nat) (ks is : Pairs) (T : List Nat) : Pairs := match h with | true => shareK i 16 D is ((T.drop (shareU i 32 O ks)).drop (shareU i 32 J (shareK i 32 O ks T))) | false => is
def sayT (i h : Bool) (O J D : List Nat) (ks is : Pairs) (T : List Nat) : List Nat := match h with | true => ((T.drop (shareU i 32 O ks)).drop (shareU i 32 J (shareK i 32 O ks T))).drop (shareU i 16 D is) | false => T
def sayU (i h : Bool) (O J D : List Nat) (ks is : Pairs) (T : List Nat) (u : Nat) : Nat := match h with | true => u + shareU i 32 O ks + shareU i 32 J (shareK i 32 O ks T) + shareU i 16 D is | false => u
/-- A book in which a Say has been. -/
def Said (i h : Bool) (O J D : List Nat) (ks is : Pairs) : Prop := OkP 32 ks ∧ OwnI i ks ∧ OkP 16 is ∧ OwnI i is ∧ (h = true → (∃ v, mget O ks = some v) ∧ (∃ v, mget J ks = some v) ∧ ∃ v, mget D is = some v)
theorem said_first (i h : Bool) {O J D T : List Nat} (hO : BytesK 32 O) (hJ : BytesK 32 J) (hD : BytesK 16 D) (hT : ∀ i, T.getD i 0 < 256) : Said i h O J D (sayK i h O J [] T) (sayI i h O J D [] [] T) := by
  cases h with
  | false => exact ⟨okP_nil 32, ownI_nil i, okP_nil 16, ownI_nil i, fun h => nomatch h⟩
  | true =>
    have h1 := share_ok i (okP_nil 32) hO hT
    have w1 := OwnI.share (n := 32) (K := O) (ownI_nil i) T
    refine ⟨share_ok i h1 hJ (drop_lt hT), w1.share _, share_ok i (okP_nil 16) hD (drop_lt (drop_lt hT)), (ownI_nil i).share _, fun _ => ⟨?_, share_get (i := i) (n := 32) (K := J) (ks := shareK i 32 O [] T) (T.drop (shareU i 32 O [])), share_get (i := i) (n := 16) (K := D) (ks := []) ((T.drop (shareU i 32 O [])).drop (shareU i 32 J (shareK i 32 O [] T)))⟩⟩
    obtain ⟨v, hv⟩ := share_get (i := i) (n := 32) (K := O) (ks := []) T
    exact ⟨v, share_keep hv _⟩
theorem said_again {i h : Bool} {O J D : List Nat} {ks is : Pairs} (S : Said i h O J D ks is) (T : List Nat) (u : Nat) : sayK i h J O ks T = ks ∧ sayI i h J O D ks is T = is ∧ sayT i h J O D ks is T = T ∧ sayU i h J O D ks is T u = u := by
  cases h with
  | false => exact ⟨rfl, rfl, rfl, rfl⟩
  | true =>
    obtain ⟨⟨a, ha⟩, ⟨b, hb⟩, ⟨d, hd⟩⟩ := S.2.2.2.2 rfl
    simp only [sayK, sayI, sayT, sayU, (share_yes hb _).1, (share_yes hb []).2, (share_yes ha _).1, (share_yes ha []).2, (share_yes hd _).1, (share_yes hd []).2, List.drop_zero, Nat.add_zero, and_self]
theorem sayT_lt (i h : Bool) (O J D : List Nat) (ks is : Pairs) {T : List Nat} (hT : ∀ i, T.getD i 0 < 256) : ∀ j, (sayT i h O J D ks is T).getD j 0 < 256 := by
  cases h with
  | false => exact hT
  | true => exact drop_lt (drop_lt (drop_lt hT))
theorem sayU_le (i h : Bool) (O J D : List Nat) (ks is : Pairs) (T : List Nat) (u : Nat) : sayU i h O J D ks is T u ≤ u + 80 := by
  cases h with
  | false => exact Nat.le_add_right _ _
  | true =>
    have h1 := shareU_le i 32 O ks
    have h2 := shareU_le i 32 J (shareK i 32 O ks T)
    have h3 := shareU_le i 16 D is
    show u + shareU i 32 O ks + shareU i 32 J (shareK i 32 O ks T) + shareU i 16 D is ≤ u + 80
    omega
/-- A box that was sealed in a book opens there, and is no forgery. -/
theorem box_opens {i : Bool} {K N X : List Nat} {ks : Pairs} {lk : Option (List Nat)} (hl : ∀ v, mget K ks = some v → lk = some X) : openN i K N ks lk (boxN i K N ks X) = some X ∧ openF i K N ks lk (boxN i K N ks X) = 0 := by
  cases h : mget K ks with
  | none => exact ⟨by rw [(opn_no h).1, box_no h, if_pos (seal_opens K N [] X).1, (seal_opens K N [] X).2], (opn_no h).2⟩
  | some v =>
    cases i with
    | true => exact ⟨by rw [(opn_ideal h).1]; exact hl v h, (opn_ideal h).2⟩
    | false => exact ⟨by rw [(opn_real h).1, box_real h, if_pos (seal_opens K N [] X).1, (seal_opens K N [] X).2], by rw [(opn_real h).2, hl v h]; rfl⟩
theorem note_get {i : Bool} {K N X v : List Nat} {ks : Pairs} (h : mget K ks = some v) (pn : Notes) : mget (K, N, boxN i K N ks X) (noteP i K N ks X pn) = some X := by rw [noteP_yes h, mget_put]
theorem note_ne {i : Bool} {K J N X Z : List Nat} {ks : Pairs} (h : K ≠ J) (pn : Notes) : mget (J, N, Z) (noteP i K N ks X pn) = mget (J, N, Z) pn := by
  unfold noteP
  split
  · exact mget_put_ne (fun e => h (Prod.mk.inj e).1) _ _
  · rfl
end Go.Proofs.YtdjpacgjhcidpabGreatDoor
namespace Go.Proofs.YtdjpacgjhcidpabGreatDoor
open Go.RowKit
set_option maxRecDepth 100000 in
theorem say_t {b m1 m2 m3 t f u : Nat} {i : Bool} {ks is : Pairs} {pn : Notes} {T : List Nat} (Tg : TypeId) (fg : Nat × Nat) (O J R X : List Nat) (r : Nat) (hO : BytesK 32 O) (hJ : BytesK 32 J) (hR : BytesK 32 R) (hr : r < 18446744073709551616) (hX : ∀ i, X.getD i 0 < 256) (hl : X.length ≤ 19) (hk : OkP 32 ks) (hw : OwnI i ks) (hi : OkP 16 is) (hv : OwnI i is) (hq : OkQ pn) (hT : ∀ i, T.getD i 0 < 256) (hu : u ≤ 1000) (w0 : World) (H : Has w0 [(b, oC #[.bool i, pT t, .map (some m1), .map (some m2), .map (some m3), iN f] 73), (m1, KM ks), (m2, KM (idsP i is)), (m3, NM pn), (t, oC #[sB T, iN u] 75), (0, Obj.cells (cn .u32 kTab) Tg fg)]) (hD : Distinct [(b, oC #[.bool i, pT t, .map (some m1), .map (some m2), .map (some m3), iN f] 73), (m1, KM ks), (m2, KM (idsP i is)), (m3, NM pn), (t, oC #[sB T, iN u] 75), (0, Obj.cells (cn .u32 kTab) Tg fg)]) :
    Calls Tryz.prog 12 #[pT b, .agg ((cn .u8 O) ++ ((cn .u8 J) ++ (cn .u8 R))), .bool true, iW r, sB X] w0 fun e w' => e = .returned (.tuple #[sB ((ownN (nmN R r) (sayI i true O J (nmN R r) ks is T)) ++ (boxN i O (nonN 3 r) (sayK i true O J ks T) (bodyN X))), iN 0]) ∧ TurnB [(m1, KM (sayK i true O J ks T)), (m2, KM (idsP i (sayI i true O J (nmN R r) ks is T))), (m3, NM (noteP i O (nonN 3 r) (sayK i true O J ks T) (bodyN X) pn)), (t, TB (sayT i true O J (nmN R r) ks is T) (sayU i true O J (nmN R r) ks is T u))] w0 w' := by
  refine enter_fr Tryz.func12 rfl Tryz.ntmps12 (by simp) fun ac (FF : Fr 52 ac [(0, pT b), (1, .agg ((cn .u8 O) ++ ((cn .u8 J) ++ (cn .u8 R)))), (2, .bool true), (3, iW r), (4, sB X)]) => ?_
  have MM : MemS (fun k => k < w0.heap.size ∧ ∀ x ∈ [(b, oC #[.bool i, pT t, .map (some m1), .map (some m2), .map (some m3), iN f] 73), (m1, KM ks), (m2, KM (idsP i is)), (m3, NM pn), (t, oC #[sB T, iN u] 75), (0, .cells (cn .u32 kTab) Tg fg)], x.1 ≠ k) w0 w0 [(b, oC #[.bool i, pT t, .map (some m1), .map (some m2), .map (some m3), iN f] 73), (m1, KM ks), (m2, KM (idsP i is)), (m3, NM pn), (t, oC #[sB T, iN u] 75), (0, .cells (cn .u32 kTab) Tg fg)] [] := MemS.startN H hD
  have hbl := bodyN_len hl
  have hbt := bodyN_lt hX hl
  refine wp_seq (rg_c FF MM [(0, s_ 0 (.cells ((cn .u8 O) ++ ((cn .u8 J) ++ (cn .u8 R))) 26)), (0, t_ (sB []))] 12 [] [1] (⟨(by kernel_rfl), fun bp => ⟨(by kernel_rfl), fun _ _ FF1 MM1 => then_n ?_⟩⟩))
  refine wp_seq (rg_c FF1 MM1 [(1, t_ (.tuple #[sB (bodyN X), iN 0]))] 14 [] [4] (⟨(callP_of en_body (fun w => by have h0 := body_any X hX w; rw [bodyR_ok hl] at h0; exact h0) _), fun _ _ FF2 MM2 => then_n ?_⟩))
  refine wp_seq ?_
  refine wp_seq (rg_c FF2 MM2 [(1, w_ 3)] 14 [21] [] (⟨by decide, fun _ _ FF3 MM3 => then_n ?_⟩))
  refine wp_cond_false (FF3.ev 0 rfl) ?_
  refine wp_skip ?_
  refine then_n ?_
  refine wp_seq (rg_c FF3 MM3 [(1, l_ 0 (.agg (cn .u8 R))), (1, u_ 1 (.agg (cn .u8 (nmN R r)))), (0, s_ 0 (.cells (cn .u8 (List.replicate 16 0)) 32)), (0, b_ 0)] 15 [] [] (⟨rfl, (part_r 32 ((cn_size _ _).trans hO.1) rfl (part_r 0 ((cn_size _ _).trans hJ.1) rfl (part_whole _))), ((cn_size _ _).trans hR.1), ⟨en_tname, fun w Hw => tname_any Tg fg R r ⟨hR.1, hR.2⟩ (by have := hr; omega) w (Hw 6 _ rfl)⟩, (by kernel_rfl), fun bn => ⟨rfl, ((cn_size _ _).trans (List.length_replicate ..)), ((cn_size _ _).trans (nmN_ok R r).1), (cn_one _ _), rfl, fun _ _ FF4 MM4 => then_n ?_⟩⟩))
  refine wp_seq ?_
  refine wp_seq (rg_c FF4 MM4 [] 28 [] [2] (fun _ _ FF5 MM5 => then_n ?_))
  refine wp_cond_true (FF5.ev 0 rfl) ?_
  refine wp_seq (rg_c FF5 MM5 [(2, l_ 1 (.agg (cn .u8 O))), (0, c_ (.tuple #[]) [(3, KM (shareK i 32 O ks T)), (6, oC #[sB (T.drop (shareU i 32 O ks)), iN (u + shareU i 32 O ks)] 75)])] 15 [] [] (⟨rfl, (part_l (part_whole _)), ((cn_size _ _).trans hO.1), (callU_B [2, 3, 6] en_pshare rfl rfl (fun w Hw => pshare_any (K := O) hk ⟨hO.1, hO.2⟩ hT (by omega) w Hw (distinct_names rfl (distinct_at MM5.distinct (is := [2, 3, 6]) rfl rfl)))), fun _ _ FF6 MM6 => then_n ?_⟩))
  refine wp_seq (rg_c FF6 MM6 [(2, l_ 1 (.agg (cn .u8 J))), (0, c_ (.tuple #[]) [(3, KM (shareK i 32 J (shareK i 32 O ks T) (T.drop (shareU i 32 O ks)))), (6, oC #[sB ((T.drop (shareU i 32 O ks)).drop (shareU i 32 J (shareK i 32 O ks T))), iN ((u + shareU i 32 O ks) + shareU i 32 J (shareK i 32 O ks T))] 75)])] 15 [] [] (⟨rfl, (part_r 0 ((cn_size _ _).trans hO.1) rfl (part_l (part_whole _))), ((cn_size _ _).trans hJ.1), (callU_B [2, 3, 6] en_pshare rfl rfl (fun w Hw => pshare_any (K := J) (share_ok i hk hO hT) ⟨hJ.1, hJ.2⟩ (drop_lt hT) (by have := shareU_le i 32 O ks; omega) w Hw (distinct_names rfl (distinct_at MM6.distinct (is := [2, 3, 6]) rfl rfl)))), fun _ _ FF7 MM7 => then_n ?_⟩))
  refine rg_c FF7 MM7 [(1, b_ 0), (0, c_ (.tuple #[]) [(4, KM (idsP i (shareK i 16 (nmN R r) is ((T.drop (shareU i 32 O ks)).drop (shareU i 32 J (shareK i 32 O ks T)))))), (6, oC #[sB (((T.drop (shareU i 32 O ks)).drop (shareU i 32 J (shareK i 32 O ks T))).drop (shareU i 16 (nmN R r) is)), iN (((u + shareU i 32 O ks) + shareU i 32 J (shareK i 32 O ks T)) + shareU i 16 (nmN R r) is)] 75)])] 15 [] [] (⟨rfl, ((cn_size _ _).trans (nmN_ok R r).1), (callU_B [2, 4, 6] en_pshareid rfl rfl (fun w Hw => pshareid_any (K := (nmN R r)) hi ⟨(nmN_ok R r).1, (nmN_ok R r).2⟩ (drop_lt (drop_lt hT)) (by have := shareU_le i 32 O ks; have := shareU_le i 32 J (shareK i 32 O ks T); omega) w Hw (distinct_names rfl (distinct_at MM7.distinct (is := [2, 4, 6]) rfl rfl)))), fun _ _ FF8 MM8 => ?_⟩)
  refine then_n ?_
  refine wp_seq (late_stand (N := 15) [(bp, .cells ((cn .u8 O) ++ ((cn .u8 J) ++ (cn .u8 R))) 26), (bn, .cells (cn .u8 (nmN R r)) 32), (0, .cells (cn .u32 kTab) Tg fg)] (by kernel_rfl) (by kernel_rfl) MM8 fun wq9 MM10 => ?_)
  refine late_take FF8 (i := 0) (oi := (opAt Tryz.f12 9 0)) (v := (pT b)) (d := 39) (atL_has (is := [1, 0, 7]) rfl MM10.hasL) (by kernel_rfl) (by kernel_rfl) (by kernel_rfl) (by kernel_rfl) (by kernel_rfl) (fun _ _ _ _ _ h => h) (by kernel_rfl) (by decide) (by kernel_rfl) (mvV (x := (.tmp 0)) (by kernel_rfl) rfl) fun _ FF11 => ?_
  refine late_take FF11 (i := 1) (oi := (opAt Tryz.f12 9 1)) (v := (.agg (cn .u8 (nmN R r)))) (d := 40) (atL_has (is := [1, 0, 7]) rfl MM10.hasL) (by kernel_rfl) (by kernel_rfl) (by kernel_rfl) (by kernel_rfl) (by kernel_rfl) (fun _ _ _ _ _ h => h) (by kernel_rfl) (by decide) (by kernel_rfl) (loadRi (x := (.tmp 14)) (k := 1) (m := 16) (by kernel_rfl) rfl Tryz.underlying32 rfl (by kernel_rfl) rfl ((cn_size _ _).trans (nmN_ok R r).1)) fun _ FF12 => ?_
  refine late_take FF12 (i := 3) (oi := (opAt Tryz.f12 9 3)) (v := (pT b)) (d := 42) (atL_has (is := [1, 0, 7]) rfl MM10.hasL) (by kernel_rfl) (by kernel_rfl) (by kernel_rfl) (by kernel_rfl) (by kernel_rfl) (fun _ _ _ _ _ h => h) (by kernel_rfl) (by decide) (by kernel_rfl) (mvV (x := (.tmp 0)) (by kernel_rfl) rfl) fun _ FF13 => ?_
  refine late_take FF13 (i := 4) (oi := (opAt Tryz.f12 9 4)) (v := (pT bp)) (d := 43) (atL_has (is := [1, 0, 7]) rfl MM10.hasL) (by kernel_rfl) (by kernel_rfl) (by kernel_rfl) (by kernel_rfl) (by kernel_rfl) (fun _ _ _ _ _ h => h) (by kernel_rfl) (by decide) (by kernel_rfl) (fldV (x := (.tmp 6)) (t := 26) (k := 0) (cs := []) (by kernel_rfl) rfl (by kernel_rfl)) fun _ FF14 => ?_
  refine late_take FF14 (i := 5) (oi := (opAt Tryz.f12 9 5)) (v := (.agg (cn .u8 O))) (d := 44) (atL_has (is := [1, 0, 7]) rfl MM10.hasL) (by kernel_rfl) (by kernel_rfl) (by kernel_rfl) (by kernel_rfl) (by kernel_rfl) (fun _ _ _ _ _ h => h) (by kernel_rfl) (by decide) (by kernel_rfl) (loadPi (x := (.tmp 43)) (k := 0) (m := 32) (by kernel_rfl) rfl Tryz.underlying23 rfl (by kernel_rfl) rfl (part_l (part_whole _)) ((cn_size _ _).trans hO.1)) fun _ FF15 => ?_
  refine late_take FF15 (i := 6) (oi := (opAt Tryz.f12 9 6)) (v := (iW r)) (d := 45) (atL_has (is := [1, 0, 7]) rfl MM10.hasL) (by kernel_rfl) (by kernel_rfl) (by kernel_rfl) (by kernel_rfl) (by kernel_rfl) (fun _ _ _ _ _ h => h) (by kernel_rfl) (by decide) (by kernel_rfl) (mvV (x := (.tmp 3)) (by kernel_rfl) rfl) fun _ FF16 => ?_
  refine late_take FF16 (i := 8) (oi := (opAt Tryz.f12 9 8)) (v := (sB (bodyN X))) (d := 47) (atL_has (is := [1, 0, 7]) rfl MM10.hasL) (by kernel_rfl) (by kernel_rfl) (by kernel_rfl) (by kernel_rfl) (by kernel_rfl) (fun _ _ _ _ _ h => h) (by kernel_rfl) (by decide) (by kernel_rfl) (mvV (x := (.tmp 12)) (by kernel_rfl) rfl) fun _ FF17 => ?_
  refine late_one (i := 2) (oi := (opAt Tryz.f12 9 2)) (by kernel_rfl) (by kernel_rfl) ?_
  refine rp_c 1 FF17 MM10 [(0, u_ 1 (.agg (cn .u8 (ownN (nmN R r) (shareK i 16 (nmN R r) is ((T.drop (shareU i 32 O ks)).drop (shareU i 32 J (shareK i 32 O ks T))))))))] 48 [] [43, 40, 39, 12] (⟨(callP_B [2, 4] en_pID rfl (fun w Hw => by have h0 := pID_any (K := (nmN R r)) (okP_ids (share_ok i hi (nmN_ok R r) (drop_lt (drop_lt hT)))) ⟨(nmN_ok R r).1, (nmN_ok R r).2⟩ w Hw (distinct_names rfl (distinct_at MM10.distinct (is := [2, 4]) rfl rfl)); rw [ids_own (hv.share _)] at h0; exact h0)), fun _ _ FF18 MM18 => ?_⟩)
  refine wpl_nil (onN_n ⟨fun _ => (atL_has (is := [1, 0, 7]) rfl MM18.hasL), ?_⟩)
  refine late_one (i := 7) (oi := (opAt Tryz.f12 9 7)) (by kernel_rfl) (by kernel_rfl) ?_
  refine rp_c 1 FF18 MM18 [(0, t_ (.agg (cn .u8 (nonN 3 r))))] 48 [] [45] (⟨(callP_of en_tnon (tnon_any r (by have := hr; omega)) _), fun _ _ FF19 MM19 => ?_⟩)
  refine wpl_nil (onN_n ⟨fun _ => (atL_has (is := [1, 0, 7]) rfl MM19.hasL), ?_⟩)
  refine late_one (i := 9) (oi := (opAt Tryz.f12 9 9)) (by kernel_rfl) (by kernel_rfl) ?_
  refine rp_c 1 FF19 MM19 [(0, c_ (sB (boxN i O (nonN 3 r) (shareK i 32 J (shareK i 32 O ks T) (T.drop (shareU i 32 O ks))) (bodyN X))) [(5, NM (noteP i O (nonN 3 r) (shareK i 32 J (shareK i 32 O ks T) (T.drop (shareU i 32 O ks))) (bodyN X) pn))])] 42 [48] [] (⟨(callU_B [2, 3, 5] en_pseal rfl rfl (fun w Hw => pseal_any (K := O) (share_ok i (share_ok i hk hO hT) hJ (drop_lt hT)) ⟨hO.1, hO.2⟩ hq (N := (nonN 3 r)) (Y := (bodyN X)) ⟨(nonN_len _ _), (nonN_lt _ _)⟩ hbt (by rw [hbl]; decide) (OwnI.share (hw.share T) (T.drop (shareU i 32 O ks))).get w Hw (distinct_names rfl (distinct_at MM19.distinct (is := [2, 3, 5]) rfl rfl)))), fun _ _ FF20 MM20 => ?_⟩)
  refine wpl_nil (onN_n ⟨fun _ => (atL_has (is := [1, 0, 7]) rfl MM20.hasL), ?_⟩)
  refine late_one (i := 10) (oi := (opAt Tryz.f12 9 10)) (by kernel_rfl) (by kernel_rfl) ?_
  refine rp_c 1 FF20 MM20 [(0, t_ (.tuple #[sB ((ownN (nmN R r) (shareK i 16 (nmN R r) is ((T.drop (shareU i 32 O ks)).drop (shareU i 32 J (shareK i 32 O ks T))))) ++ (boxN i O (nonN 3 r) (shareK i 32 J (shareK i 32 O ks T) (T.drop (shareU i 32 O ks))) (bodyN X))), iN 0]))] 15 [49] [] (⟨(callP_of en_request (fun w => by have h0 := request_any (ownN (nmN R r) (shareK i 16 (nmN R r) is ((T.drop (shareU i 32 O ks)).drop (shareU i 32 J (shareK i 32 O ks T))))) (own_ok (share_ok i hi (nmN_ok R r) (drop_lt (drop_lt hT))) ⟨(nmN_ok R r).1, (nmN_ok R r).2⟩).1 (own_ok (share_ok i hi (nmN_ok R r) (drop_lt (drop_lt hT))) ⟨(nmN_ok R r).1, (nmN_ok R r).2⟩).2 (boxN i O (nonN 3 r) (shareK i 32 J (shareK i 32 O ks T) (T.drop (shareU i 32 O ks))) (bodyN X)) w; rw [requestR_ok (by rw [boxN_len, hbl])] at h0; exact h0) _), fun _ _ FF21 MM21 => ?_⟩)
  refine wpl_nil (onN_n ⟨fun _ => (atL_has (is := [1, 0, 7]) rfl MM21.hasL), ?_⟩)
  refine late_take FF21 (i := 11) (oi := (opAt Tryz.f12 9 11)) (v := (sB ((ownN (nmN R r) (shareK i 16 (nmN R r) is ((T.drop (shareU i 32 O ks)).drop (shareU i 32 J (shareK i 32 O ks T))))) ++ (boxN i O (nonN 3 r) (shareK i 32 J (shareK i 32 O ks T) (T.drop (shareU i 32 O ks))) (bodyN X))))) (d := 50) (atL_has (is := [1, 0, 7]) rfl MM21.hasL) (by kernel_rfl) (by kernel_rfl) (by kernel_rfl) (by kernel_rfl) (by kernel_rfl) (fun _ _ _ _ _ h => h) (by kernel_rfl) (by decide) (by kernel_rfl) (extV (x := (.tmp 49)) (i := 0) (by kernel_rfl) rfl rfl) fun _ FF22 => ?_
  refine late_take FF22 (i := 12) (oi := (opAt Tryz.f12 9 12)) (v := (iN 0)) (d := 51) (atL_has (is := [1, 0, 7]) rfl MM21.hasL) (by kernel_rfl) (by kernel_rfl) (by kernel_rfl) (by kernel_rfl) (by kernel_rfl) (fun _ _ _ _ _ h => h) (by kernel_rfl) (by decide) (by kernel_rfl) (extV (x := (.tmp 49)) (i := 1) (by kernel_rfl) rfl rfl) fun _ FF23 => ?_
  refine late_one (i := 13) (oi := (opAt Tryz.f12 9 13)) (by kernel_rfl) (by kernel_rfl) ?_
  refine rp_c 1 FF23 MM21 [] 15 [51] [] (fun _ _ FF24 MM24 => ?_)
  refine wpl_nil (onN_n ⟨fun _ => (atL_has (is := [1, 0, 7]) rfl MM24.hasL), ?_⟩)
  refine late_one (i := 14) (oi := (opAt Tryz.f12 9 14)) (by kernel_rfl) (by kernel_rfl) ?_
  refine rp_c 1 FF24 MM24 [] 15 [] [] (fun _ _ FF25 MM25 => ?_)
  refine wpl_nil (onN_n ⟨fun _ => (atL_has (is := [1, 0, 7]) rfl MM25.hasL), ?_⟩)
  refine late_none (by kernel_rfl) (then_n ?_)
  refine wp_ret ?_
  repeat first | refine then_ret ?_ | refine inb_ret ?_
  exact (ret_tup2 FF25 1 0 Tryz.results12 rfl rfl ⟨rfl, MM25.turnB [(m1, KM (shareK i 32 J (shareK i 32 O ks T) (T.drop (shareU i 32 O ks)))), (m2, KM (idsP i (shareK i 16 (nmN R r) is ((T.drop (shareU i 32 O ks)).drop (shareU i 32 J (shareK i 32 O ks T)))))), (m3, NM (noteP i O (nonN 3 r) (shareK i 32 J (shareK i 32 O ks T) (T.drop (shareU i 32 O ks))) (bodyN X) pn)), (t, oC #[sB (((T.drop (shareU i 32 O ks)).drop (shareU i 32 J (shareK i 32 O ks T))).drop (shareU i 16 (nmN R r) is)), iN (((u + shareU i 32 O ks) + shareU i 32 J (shareK i 32 O ks T)) + shareU i 16 (nmN R r) is)] 75)] H (List.forall_mem_cons.2 ⟨(List.mem_of_getElem? (i := 3) rfl), (List.forall_mem_cons.2 ⟨(List.mem_of_getElem? (i := 4) rfl), (List.forall_mem_cons.2 ⟨(List.mem_of_getElem? (i := 5) rfl), (List.forall_mem_cons.2 ⟨(List.mem_of_getElem? (i := 6) rfl), (fun _ h => (nomatch h))⟩)⟩)⟩)⟩) (List.forall_mem_cons.2 ⟨.inl (List.mem_of_getElem? (i := 2) rfl), (List.forall_mem_cons.2 ⟨.inr ⟨_, (List.mem_of_getElem? (i := 0) rfl), rfl⟩, (List.forall_mem_cons.2 ⟨.inr ⟨_, (List.mem_of_getElem? (i := 1) rfl), rfl⟩, (List.forall_mem_cons.2 ⟨.inr ⟨_, (List.mem_of_getElem? (i := 2) rfl), rfl⟩, (List.forall_mem_cons.2 ⟨.inr ⟨_, (List.mem_of_getElem? (i := 3) rfl), rfl⟩, (List.forall_mem_cons.2 ⟨.inl (List.mem_of_getElem? (i := 7) rfl), (fun _ h => (nomatch h))⟩)⟩)⟩)⟩)⟩)⟩)⟩)
set_option maxRecDepth 100000 in
theorem say_f {b m1 m2 m3 t f u : Nat} {i : Bool} {ks is : Pairs} {pn : Notes} {T : List Nat} (Tg : TypeId) (fg : Nat × Nat) (O J R X : List Nat) (r : Nat) (hO : BytesK 32 O) (hJ : BytesK 32 J) (hR : BytesK 32 R) (hr : r < 18446744073709551616) (hX : ∀ i, X.getD i 0 < 256) (hl : X.length ≤ 19) (hk : OkP 32 ks) (hw : OwnI i ks) (hi : OkP 16 is) (hv : OwnI i is) (hq : OkQ pn) (_hT : ∀ i, T.getD i 0 < 256) (_hu : u ≤ 1000) (w0 : World) (H : Has w0 [(b, oC #[.bool i, pT t, .map (some m1), .map (some m2), .map (some m3), iN f] 73), (m1, KM ks), (m2, KM (idsP i is)), (m3, NM pn), (t, oC #[sB T, iN u] 75), (0, Obj.cells (cn .u32 kTab) Tg fg)]) (hD : Distinct [(b, oC #[.bool i, pT t, .map (some m1), .map (some m2), .map (some m3), iN f] 73), (m1, KM ks), (m2, KM (idsP i is)), (m3, NM pn), (t, oC #[sB T, iN u] 75), (0, Obj.cells (cn .u32 kTab) Tg fg)]) :
    Calls Tryz.prog 12 #[pT b, .agg ((cn .u8 O) ++ ((cn .u8 J) ++ (cn .u8 R))), .bool false, iW r, sB X] w0 fun e w' => e = .returned (.tuple #[sB ((ownN (nmN R r) (sayI i false O J (nmN R r) ks is T)) ++ (boxN i O (nonN 3 r) (sayK i false O J ks T) (bodyN X))), iN 0]) ∧ TurnB [(m1, KM (sayK i false O J ks T)), (m2, KM (idsP i (sayI i false O J (nmN R r) ks is T))), (m3, NM (noteP i O (nonN 3 r) (sayK i false O J ks T) (bodyN X) pn)), (t, TB (sayT i false O J (nmN R r) ks is T) (sayU i false O J (nmN R r) ks is T u))] w0 w' := by
  refine enter_fr Tryz.func12 rfl Tryz.ntmps12 (by simp) fun ac (FF : Fr 52 ac [(0, pT b), (1, .agg ((cn .u8 O) ++ ((cn .u8 J) ++ (cn .u8 R)))), (2, .bool false), (3, iW r), (4, sB X)]) => ?_
  have MM : MemS (fun k => k < w0.heap.size ∧ ∀ x ∈ [(b, oC #[.bool i, pT t, .map (some m1), .map (some m2), .map (some m3), iN f] 73), (m1, KM ks), (m2, KM (idsP i is)), (m3, NM pn), (t, oC #[sB T, iN u] 75), (0, .cells (cn .u32 kTab) Tg fg)], x.1 ≠ k) w0 w0 [(b, oC #[.bool i, pT t, .map (some m1), .map (some m2), .map (some m3), iN f] 73), (m1, KM ks), (m2, KM (idsP i is)), (m3, NM pn), (t, oC #[sB T, iN u] 75), (0, .cells (cn .u32 kTab) Tg fg)] [] := MemS.startN H hD
  have hbl := bodyN_len hl
  have hbt := bodyN_lt hX hl
  refine wp_seq (rg_c FF MM [(0, s_ 0 (.cells ((cn .u8 O) ++ ((cn .u8 J) ++ (cn .u8 R))) 26)), (0, t_ (sB []))] 12 [] [1] (⟨(by kernel_rfl), fun bp => ⟨(by kernel_rfl), fun _ _ FF1 MM1 => then_n ?_⟩⟩))
  refine wp_seq (rg_c FF1 MM1 [(1, t_ (.tuple #[sB (bodyN X), iN 0]))] 14 [] [4] (⟨(callP_of en_body (fun w => by have h0 := body_any X hX w; rw [bodyR_ok hl] at h0; exact h0) _), fun _ _ FF2 MM2 => then_n ?_⟩))
  refine wp_seq ?_
  refine wp_seq (rg_c FF2 MM2 [(1, w_ 3)] 14 [21] [] (⟨by decide, fun _ _ FF3 MM3 => then_n ?_⟩))
  refine wp_cond_false (FF3.ev 0 rfl) ?_
  refine wp_skip ?_
  refine then_n ?_
  refine wp_seq (rg_c FF3 MM3 [(1, l_ 0 (.agg (cn .u8 R))), (1, u_ 1 (.agg (cn .u8 (nmN R r)))), (0, s_ 0 (.cells (cn .u8 (List.replicate 16 0)) 32)), (0, b_ 0)] 15 [] [] (⟨rfl, (part_r 32 ((cn_size _ _).trans hO.1) rfl (part_r 0 ((cn_size _ _).trans hJ.1) rfl (part_whole _))), ((cn_size _ _).trans hR.1), ⟨en_tname, fun w Hw => tname_any Tg fg R r ⟨hR.1, hR.2⟩ (by have := hr; omega) w (Hw 6 _ rfl)⟩, (by kernel_rfl), fun bn => ⟨rfl, ((cn_size _ _).trans (List.length_replicate ..)), ((cn_size _ _).trans (nmN_ok R r).1), (cn_one _ _), rfl, fun _ _ FF4 MM4 => then_n ?_⟩⟩))
  refine wp_seq ?_
  refine wp_seq (rg_c FF4 MM4 [] 28 [] [2] (fun _ _ FF5 MM5 => then_n ?_))
  refine wp_cond_false (FF5.ev 0 rfl) ?_
  refine wp_skip ?_
  refine then_n ?_
  refine wp_seq (late_stand (N := 15) [(bp, .cells ((cn .u8 O) ++ ((cn .u8 J) ++ (cn .u8 R))) 26), (bn, .cells (cn .u8 (nmN R r)) 32), (0, .cells (cn .u32 kTab) Tg fg)] (by kernel_rfl) (by kernel_rfl) MM5 fun wq6 MM7 => ?_)
  refine late_take FF5 (i := 0) (oi := (opAt Tryz.f12 9 0)) (v := (pT b)) (d := 39) (atL_has (is := [1, 0, 7]) rfl MM7.hasL) (by kernel_rfl) (by kernel_rfl) (by kernel_rfl) (by kernel_rfl) (by kernel_rfl) (fun _ _ _ _ _ h => h) (by kernel_rfl) (by decide) (by kernel_rfl) (mvV (x := (.tmp 0)) (by kernel_rfl) rfl) fun _ FF8 => ?_
  refine late_take FF8 (i := 1) (oi := (opAt Tryz.f12 9 1)) (v := (.agg (cn .u8 (nmN R r)))) (d := 40) (atL_has (is := [1, 0, 7]) rfl MM7.hasL) (by kernel_rfl) (by kernel_rfl) (by kernel_rfl) (by kernel_rfl) (by kernel_rfl) (fun _ _ _ _ _ h => h) (by kernel_rfl) (by decide) (by kernel_rfl) (loadRi (x := (.tmp 14)) (k := 1) (m := 16) (by kernel_rfl) rfl Tryz.underlying32 rfl (by kernel_rfl) rfl ((cn_size _ _).trans (nmN_ok R r).1)) fun _ FF9 => ?_
  refine late_take FF9 (i := 3) (oi := (opAt Tryz.f12 9 3)) (v := (pT b)) (d := 42) (atL_has (is := [1, 0, 7]) rfl MM7.hasL) (by kernel_rfl) (by kernel_rfl) (by kernel_rfl) (by kernel_rfl) (by kernel_rfl) (fun _ _ _ _ _ h => h) (by kernel_rfl) (by decide) (by kernel_rfl) (mvV (x := (.tmp 0)) (by kernel_rfl) rfl) fun _ FF10 => ?_
  refine late_take FF10 (i := 4) (oi := (opAt Tryz.f12 9 4)) (v := (pT bp)) (d := 43) (atL_has (is := [1, 0, 7]) rfl MM7.hasL) (by kernel_rfl) (by kernel_rfl) (by kernel_rfl) (by kernel_rfl) (by kernel_rfl) (fun _ _ _ _ _ h => h) (by kernel_rfl) (by decide) (by kernel_rfl) (fldV (x := (.tmp 6)) (t := 26) (k := 0) (cs := []) (by kernel_rfl) rfl (by kernel_rfl)) fun _ FF11 => ?_
  refine late_take FF11 (i := 5) (oi := (opAt Tryz.f12 9 5)) (v := (.agg (cn .u8 O))) (d := 44) (atL_has (is := [1, 0, 7]) rfl MM7.hasL) (by kernel_rfl) (by kernel_rfl) (by kernel_rfl) (by kernel_rfl) (by kernel_rfl) (fun _ _ _ _ _ h => h) (by kernel_rfl) (by decide) (by kernel_rfl) (loadPi (x := (.tmp 43)) (k := 0) (m := 32) (by kernel_rfl) rfl Tryz.underlying23 rfl (by kernel_rfl) rfl (part_l (part_whole _)) ((cn_size _ _).trans hO.1)) fun _ FF12 => ?_
  refine late_take FF12 (i := 6) (oi := (opAt Tryz.f12 9 6)) (v := (iW r)) (d := 45) (atL_has (is := [1, 0, 7]) rfl MM7.hasL) (by kernel_rfl) (by kernel_rfl) (by kernel_rfl) (by kernel_rfl) (by kernel_rfl) (fun _ _ _ _ _ h => h) (by kernel_rfl) (by decide) (by kernel_rfl) (mvV (x := (.tmp 3)) (by kernel_rfl) rfl) fun _ FF13 => ?_
  refine late_take FF13 (i := 8) (oi := (opAt Tryz.f12 9 8)) (v := (sB (bodyN X))) (d := 47) (atL_has (is := [1, 0, 7]) rfl MM7.hasL) (by kernel_rfl) (by kernel_rfl) (by kernel_rfl) (by kernel_rfl) (by kernel_rfl) (fun _ _ _ _ _ h => h) (by kernel_rfl) (by decide) (by kernel_rfl) (mvV (x := (.tmp 12)) (by kernel_rfl) rfl) fun _ FF14 => ?_
  refine late_one (i := 2) (oi := (opAt Tryz.f12 9 2)) (by kernel_rfl) (by kernel_rfl) ?_
  refine rp_c 1 FF14 MM7 [(0, u_ 1 (.agg (cn .u8 (ownN (nmN R r) is))))] 48 [] [43, 40, 39, 27, 12] (⟨(callP_B [2, 4] en_pID rfl (fun w Hw => by have h0 := pID_any (K := (nmN R r)) (okP_ids hi) ⟨(nmN_ok R r).1, (nmN_ok R r).2⟩ w Hw (distinct_names rfl (distinct_at MM7.distinct (is := [2, 4]) rfl rfl)); rw [ids_own hv] at h0; exact h0)), fun _ _ FF15 MM15 => ?_⟩)
  refine wpl_nil (onN_n ⟨fun _ => (atL_has (is := [1, 0, 7]) rfl MM15.hasL), ?_⟩)
  refine late_one (i := 7) (oi := (opAt Tryz.f12 9 7)) (by kernel_rfl) (by kernel_rfl) ?_
  refine rp_c 1 FF15 MM15 [(0, t_ (.agg (cn .u8 (nonN 3 r))))] 48 [] [45] (⟨(callP_of en_tnon (tnon_any r (by have := hr; omega)) _), fun _ _ FF16 MM16 => ?_⟩)
  refine wpl_nil (onN_n ⟨fun _ => (atL_has (is := [1, 0, 7]) rfl MM16.hasL), ?_⟩)
  refine late_one (i := 9) (oi := (opAt Tryz.f12 9 9)) (by kernel_rfl) (by kernel_rfl) ?_
  refine rp_c 1 FF16 MM16 [(0, c_ (sB (boxN i O (nonN 3 r) ks (bodyN X))) [(5, NM (noteP i O (nonN 3 r) ks (bodyN X) pn))])] 42 [48] [] (⟨(callU_B [2, 3, 5] en_pseal rfl rfl (fun w Hw => pseal_any (K := O) hk ⟨hO.1, hO.2⟩ hq (N := (nonN 3 r)) (Y := (bodyN X)) ⟨(nonN_len _ _), (nonN_lt _ _)⟩ hbt (by rw [hbl]; decide) hw.get w Hw (distinct_names rfl (distinct_at MM16.distinct (is := [2, 3, 5]) rfl rfl)))), fun _ _ FF17 MM17 => ?_⟩)
  refine wpl_nil (onN_n ⟨fun _ => (atL_has (is := [1, 0, 7]) rfl MM17.hasL), ?_⟩)
  refine late_one (i := 10) (oi := (opAt Tryz.f12 9 10)) (by kernel_rfl) (by kernel_rfl) ?_
  refine rp_c 1 FF17 MM17 [(0, t_ (.tuple #[sB ((ownN (nmN R r) is) ++ (boxN i O (nonN 3 r) ks (bodyN X))), iN 0]))] 15 [49] [] (⟨(callP_of en_request (fun w => by have h0 := request_any (ownN (nmN R r) is) (own_ok hi ⟨(nmN_ok R r).1, (nmN_ok R r).2⟩).1 (own_ok hi ⟨(nmN_ok R r).1, (nmN_ok R r).2⟩).2 (boxN i O (nonN 3 r) ks (bodyN X)) w; rw [requestR_ok (by rw [boxN_len, hbl])] at h0; exact h0) _), fun _ _ FF18 MM18 => ?_⟩)
  refine wpl_nil (onN_n ⟨fun _ => (atL_has (is := [1, 0, 7]) rfl MM18.hasL), ?_⟩)
  refine late_take FF18 (i := 11) (oi := (opAt Tryz.f12 9 11)) (v := (sB ((ownN (nmN R r) is) ++ (boxN i O (nonN 3 r) ks (bodyN X))))) (d := 50) (atL_has (is := [1, 0, 7]) rfl MM18.hasL) (by kernel_rfl) (by kernel_rfl) (by kernel_rfl) (by kernel_rfl) (by kernel_rfl) (fun _ _ _ _ _ h => h) (by kernel_rfl) (by decide) (by kernel_rfl) (extV (x := (.tmp 49)) (i := 0) (by kernel_rfl) rfl rfl) fun _ FF19 => ?_
  refine late_take FF19 (i := 12) (oi := (opAt Tryz.f12 9 12)) (v := (iN 0)) (d := 51) (atL_has (is := [1, 0, 7]) rfl MM18.hasL) (by kernel_rfl) (by kernel_rfl) (by kernel_rfl) (by kernel_rfl) (by kernel_rfl) (fun _ _ _ _ _ h => h) (by kernel_rfl) (by decide) (by kernel_rfl) (extV (x := (.tmp 49)) (i := 1) (by kernel_rfl) rfl rfl) fun _ FF20 => ?_
  refine late_one (i := 13) (oi := (opAt Tryz.f12 9 13)) (by kernel_rfl) (by kernel_rfl) ?_
  refine rp_c 1 FF20 MM18 [] 15 [51] [] (fun _ _ FF21 MM21 => ?_)
  refine wpl_nil (onN_n ⟨fun _ => (atL_has (is := [1, 0, 7]) rfl MM21.hasL), ?_⟩)
  refine late_one (i := 14) (oi := (opAt Tryz.f12 9 14)) (by kernel_rfl) (by kernel_rfl) ?_
  refine rp_c 1 FF21 MM21 [] 15 [] [] (fun _ _ FF22 MM22 => ?_)
  refine wpl_nil (onN_n ⟨fun _ => (atL_has (is := [1, 0, 7]) rfl MM22.hasL), ?_⟩)
  refine late_none (by kernel_rfl) (then_n ?_)
  refine wp_ret ?_
  repeat first | refine then_ret ?_ | refine inb_ret ?_
  exact (ret_tup2 FF22 1 0 Tryz.results12 rfl rfl ⟨rfl, MM22.turnB [(m1, KM ks), (m2, KM (idsP i is)), (m3, NM (noteP i O (nonN 3 r) ks (bodyN X) pn)), (t, oC #[sB T, iN u] 75)] H (List.forall_mem_cons.2 ⟨(List.mem_of_getElem? (i := 3) rfl), (List.forall_mem_cons.2 ⟨(List.mem_of_getElem? (i := 4) rfl), (List.forall_mem_cons.2 ⟨(List.mem_of_getElem? (i := 5) rfl), (List.forall_mem_cons.2 ⟨(List.mem_of_getElem? (i := 6) rfl), (fun _ h => (nomatch h))⟩)⟩)⟩)⟩) (List.forall_mem_cons.2 ⟨.inl (List.mem_of_getElem? (i := 2) rfl), (List.forall_mem_cons.2 ⟨.inr ⟨_, (List.mem_of_getElem? (i := 0) rfl), rfl⟩, (List.forall_mem_cons.2 ⟨.inr ⟨_, (List.mem_of_getElem? (i := 1) rfl), rfl⟩, (List.forall_mem_cons.2 ⟨.inr ⟨_, (List.mem_of_getElem? (i := 2) rfl), rfl⟩, (List.forall_mem_cons.2 ⟨.inr ⟨_, (List.mem_of_getElem? (i := 3) rfl), rfl⟩, (List.forall_mem_cons.2 ⟨.inl (List.mem_of_getElem? (i := 7) rfl), (fun _ h => (nomatch h))⟩)⟩)⟩)⟩)⟩)⟩)⟩)
theorem say_any {b m1 m2 m3 t f u : Nat} {i : Bool} {ks is : Pairs} {pn : Notes} {T : List Nat} (Tg : TypeId) (fg : Nat × Nat) (O J R X : List Nat) (r : Nat) (hO : BytesK 32 O) (hJ : BytesK 32 J) (hR : BytesK 32 R) (hr : r < 18446744073709551616) (hX : ∀ i, X.getD i 0 < 256) (hl : X.length ≤ 19) (hk : OkP 32 ks) (hw : OwnI i ks) (hi : OkP 16 is) (hv : OwnI i is) (hq : OkQ pn) (hT : ∀ i, T.getD i 0 < 256) (hu : u ≤ 1000) (h : Bool) (w0 : World) (H : Has w0 [(b, oC #[.bool i, pT t, .map (some m1), .map (some m2), .map (some m3), iN f] 73), (m1, KM ks), (m2, KM (idsP i is)), (m3, NM pn), (t, oC #[sB T, iN u] 75), (0, Obj.cells (cn .u32 kTab) Tg fg)]) (hD : Distinct [(b, oC #[.bool i, pT t, .map (some m1), .map (some m2), .map (some m3), iN f] 73), (m1, KM ks), (m2, KM (idsP i is)), (m3, NM pn), (t, oC #[sB T, iN u] 75), (0, Obj.cells (cn .u32 kTab) Tg fg)]) :
    Calls Tryz.prog 12 #[pT b, .agg ((cn .u8 O) ++ ((cn .u8 J) ++ (cn .u8 R))), .bool h, iW r, sB X] w0 fun e w' => e = .returned (.tuple #[sB ((ownN (nmN R r) (sayI i h O J (nmN R r) ks is T)) ++ (boxN i O (nonN 3 r) (sayK i h O J ks T) (bodyN X))), iN 0]) ∧ TurnB [(m1, KM (sayK i h O J ks T)), (m2, KM (idsP i (sayI i h O J (nmN R r) ks is T))), (m3, NM (noteP i O (nonN 3 r) (sayK i h O J ks T) (bodyN X) pn)), (t, TB (sayT i h O J (nmN R r) ks is T) (sayU i h O J (nmN R r) ks is T u))] w0 w' := by
  cases h with
  | true => exact say_t Tg fg O J R X r hO hJ hR hr hX hl hk hw hi hv hq hT hu w0 H hD
  | false => exact say_f Tg fg O J R X r hO hJ hR hr hX hl hk hw hi hv hq hT hu w0 H hD
set_option maxRecDepth 100000 in
theorem hear_any {b m1 m2 m3 t f : Nat} {i : Bool} {ks is : Pairs} {pn : Notes} (O J R X Z : List Nat) (r : Nat) (hO : BytesK 32 O) (hJ : BytesK 32 J) (_hR : BytesK 32 R) (hr : r < 18446744073709551616) (hX : ∀ i, X.getD i 0 < 256) (hl : X.length ≤ 19) (hk : OkP 32 ks) (hq : OkQ pn) (hZ : ∀ i, Z.getD i 0 < 256) (hZl : Z.length ≤ 1000000) (hf : f < 4611686018427387904) (ho : openN i J (nonN 3 r) ks (mget (J, (nonN 3 r), Z) pn) Z = some (bodyN X) ∧ openF i J (nonN 3 r) ks (mget (J, (nonN 3 r), Z) pn) Z = 0) (w0 : World) (H : Has w0 [(b, oC #[.bool i, pT t, .map (some m1), .map (some m2), .map (some m3), iN f] 73), (m1, KM ks), (m2, KM (idsP i is)), (m3, NM pn)]) (hD : Distinct [(b, oC #[.bool i, pT t, .map (some m1), .map (some m2), .map (some m3), iN f] 73), (m1, KM ks), (m2, KM (idsP i is)), (m3, NM pn)]) :
    Calls Tryz.prog 14 #[pT b, .agg ((cn .u8 O) ++ ((cn .u8 J) ++ (cn .u8 R))), iW r, sB Z] w0 fun e w' => e = .returned (.tuple #[sB X, .bool true]) ∧ TurnB [(b, BB i (pT t) m1 m2 m3 f)] w0 w' := by
  refine enter_fr Tryz.func14 rfl Tryz.ntmps14 (by simp) fun ac (FF : Fr 28 ac [(0, pT b), (1, .agg ((cn .u8 O) ++ ((cn .u8 J) ++ (cn .u8 R)))), (2, iW r), (3, sB Z)]) => ?_
  have MM : MemS (fun k => k < w0.heap.size ∧ ∀ x ∈ [(b, oC #[.bool i, pT t, .map (some m1), .map (some m2), .map (some m3), iN f] 73), (m1, KM ks), (m2, KM (idsP i is)), (m3, NM pn)], x.1 ≠ k) w0 w0 [(b, oC #[.bool i, pT t, .map (some m1), .map (some m2), .map (some m3), iN f] 73), (m1, KM ks), (m2, KM (idsP i is)), (m3, NM pn)] [] := MemS.startN H hD
  have hbt := bodyN_lt hX hl
  have hF : f + openF i J (nonN 3 r) ks (mget (J, (nonN 3 r), Z) pn) Z = f := by rw [ho.2, Nat.add_zero]
  refine wp_seq (rg_c FF MM [(0, s_ 0 (.cells ((cn .u8 O) ++ ((cn .u8 J) ++ (cn .u8 R))) 26)), (0, t_ (sB []))] 9 [9] [1] (⟨(by kernel_rfl), fun bp => ⟨(by kernel_rfl), fun _ _ FF1 MM1 => then_n ?_⟩⟩))
  refine wp_seq (late_stand (N := 12) [(bp, .cells ((cn .u8 O) ++ ((cn .u8 J) ++ (cn .u8 R))) 26)] (by kernel_rfl) (by kernel_rfl) MM1 fun wq2 MM3 => ?_)
  refine late_take FF1 (i := 0) (oi := (opAt Tryz.f14 1 0)) (v := (pT b)) (d := 13) (atL_has (is := [0]) rfl MM3.hasL) (by kernel_rfl) (by kernel_rfl) (by kernel_rfl) (by kernel_rfl) (by kernel_rfl) (fun _ _ _ _ _ h => h) (by kernel_rfl) (by decide) (by kernel_rfl) (mvV (x := (.tmp 0)) (by kernel_rfl) rfl) fun _ FF4 => ?_
  refine late_take FF4 (i := 1) (oi := (opAt Tryz.f14 1 1)) (v := (.pointer (some ⟨bp, 32, none⟩))) (d := 14) (atL_has (is := [0]) rfl MM3.hasL) (by kernel_rfl) (by kernel_rfl) (by kernel_rfl) (by kernel_rfl) (by kernel_rfl) (fun _ _ _ _ _ h => h) (by kernel_rfl) (by decide) (by kernel_rfl) (fldV (x := (.tmp 5)) (t := 26) (k := 1) (cs := []) (by kernel_rfl) rfl (by kernel_rfl)) fun _ FF5 => ?_
  refine late_take FF5 (i := 2) (oi := (opAt Tryz.f14 1 2)) (v := (.agg (cn .u8 J))) (d := 15) (atL_has (is := [0]) rfl MM3.hasL) (by kernel_rfl) (by kernel_rfl) (by kernel_rfl) (by kernel_rfl) (by kernel_rfl) (fun _ _ _ _ _ h => h) (by kernel_rfl) (by decide) (by kernel_rfl) (loadPi (x := (.tmp 14)) (k := 0) (m := 32) (by kernel_rfl) rfl Tryz.underlying23 rfl (by kernel_rfl) rfl (part_r 0 ((cn_size _ _).trans hO.1) rfl (part_l (part_whole _))) ((cn_size _ _).trans hJ.1)) fun _ FF6 => ?_
  refine late_take FF6 (i := 3) (oi := (opAt Tryz.f14 1 3)) (v := (iW r)) (d := 16) (atL_has (is := [0]) rfl MM3.hasL) (by kernel_rfl) (by kernel_rfl) (by kernel_rfl) (by kernel_rfl) (by kernel_rfl) (fun _ _ _ _ _ h => h) (by kernel_rfl) (by decide) (by kernel_rfl) (mvV (x := (.tmp 2)) (by kernel_rfl) rfl) fun _ FF7 => ?_
  refine late_take FF7 (i := 5) (oi := (opAt Tryz.f14 1 5)) (v := (sB Z)) (d := 18) (atL_has (is := [0]) rfl MM3.hasL) (by kernel_rfl) (by kernel_rfl) (by kernel_rfl) (by kernel_rfl) (by kernel_rfl) (fun _ _ _ _ _ h => h) (by kernel_rfl) (by decide) (by kernel_rfl) (mvV (x := (.tmp 3)) (by kernel_rfl) rfl) fun _ FF8 => ?_
  refine late_one (i := 4) (oi := (opAt Tryz.f14 1 4)) (by kernel_rfl) (by kernel_rfl) ?_
  refine rp_c 1 FF8 MM3 [(0, t_ (.agg (cn .u8 (nonN 3 r))))] 19 [] [16, 14, 5, 0, 2, 3] (⟨(callP_of en_tnon (tnon_any r (by have := hr; omega)) _), fun _ _ FF9 MM9 => ?_⟩)
  refine wpl_nil (onN_n ⟨fun _ => (atL_has (is := [0]) rfl MM9.hasL), ?_⟩)
  refine late_one (i := 6) (oi := (opAt Tryz.f14 1 6)) (by kernel_rfl) (by kernel_rfl) ?_
  refine rp_c 1 FF9 MM9 [(0, c_ (.tuple #[sB (bodyN X), .bool true]) [(1, oC #[.bool i, pT t, .map (some m1), .map (some m2), .map (some m3), iN f] 73)])] 10 [19] [] (⟨(callU_B [1, 2, 4] en_popen rfl rfl (fun w Hw => by have h0 := popen_any (K := J) hk ⟨hJ.1, hJ.2⟩ hq (N := (nonN 3 r)) (Z := Z) ⟨(nonN_len _ _), (nonN_lt _ _)⟩ hZ hZl (by omega) w Hw (distinct_names rfl (distinct_at MM9.distinct (is := [1, 2, 4]) rfl rfl)); rw [ho.1, hF] at h0; exact h0)), fun _ _ FF10 MM10 => ?_⟩)
  refine wpl_nil (onN_n ⟨fun _ => (atL_has (is := [0]) rfl MM10.hasL), ?_⟩)
  refine late_take FF10 (i := 7) (oi := (opAt Tryz.f14 1 7)) (v := (.tuple #[sB (bodyN X), .bool true])) (d := 12) (atL_has (is := [0]) rfl MM10.hasL) (by kernel_rfl) (by kernel_rfl) (by kernel_rfl) (by kernel_rfl) (by kernel_rfl) (fun _ _ _ _ _ h => h) (by kernel_rfl) (by decide) (by kernel_rfl) (mvV (x := (.tmp 19)) (by kernel_rfl) rfl) fun _ FF11 => ?_
  refine late_take FF11 (i := 8) (oi := (opAt Tryz.f14 1 8)) (v := (sB (bodyN X))) (d := 20) (atL_has (is := [0]) rfl MM10.hasL) (by kernel_rfl) (by kernel_rfl) (by kernel_rfl) (by kernel_rfl) (by kernel_rfl) (fun _ _ _ _ _ h => h) (by kernel_rfl) (by decide) (by kernel_rfl) (extV (x := (.tmp 12)) (i := 0) (by kernel_rfl) rfl rfl) fun _ FF12 => ?_
  refine late_take FF12 (i := 9) (oi := (opAt Tryz.f14 1 9)) (v := (.bool true)) (d := 21) (atL_has (is := [0]) rfl MM10.hasL) (by kernel_rfl) (by kernel_rfl) (by kernel_rfl) (by kernel_rfl) (by kernel_rfl) (fun _ _ _ _ _ h => h) (by kernel_rfl) (by decide) (by kernel_rfl) (extV (x := (.tmp 12)) (i := 1) (by kernel_rfl) rfl rfl) fun _ FF13 => ?_
  refine late_one (i := 10) (oi := (opAt Tryz.f14 1 10)) (by kernel_rfl) (by kernel_rfl) ?_
  refine rp_c 1 FF13 MM10 [] 11 [21] [] (fun _ _ FF14 MM14 => ?_)
  refine wpl_nil (onN_n ⟨fun _ => (atL_has (is := [0]) rfl MM14.hasL), ?_⟩)
  refine late_one (i := 11) (oi := (opAt Tryz.f14 1 11)) (by kernel_rfl) (by kernel_rfl) ?_
  refine rp_c 1 FF14 MM14 [] 12 [] [] (fun _ _ FF15 MM15 => ?_)
  refine wpl_nil (onN_n ⟨fun _ => (atL_has (is := [0]) rfl MM15.hasL), ?_⟩)
  refine late_none (by kernel_rfl) (then_n ?_)
  refine wp_seq ?_
  refine wp_seq (rg_c FF15 MM15 [] 11 [23] [] (fun _ _ FF16 MM16 => then_n ?_))
  refine wp_cond_false (FF16.ev 0 rfl) ?_
  refine wp_skip ?_
  refine then_n ?_
  refine wp_seq (rg_c FF16 MM16 [(1, t_ (.tuple #[sB X, .bool true]))] 9 [9] [] (⟨(callP_of en_text (fun w => by have h0 := text_any (bodyN X) hbt w; rw [text_body hl] at h0; exact h0) _), fun _ _ FF17 MM17 => then_n ?_⟩))
  refine wp_ret ?_
  repeat first | refine then_ret ?_ | refine inb_ret ?_
  exact (ret_tup2 FF17 1 0 Tryz.results14 rfl rfl ⟨rfl, MM17.turnB [(b, oC #[.bool i, pT t, .map (some m1), .map (some m2), .map (some m3), iN f] 73)] H (List.forall_mem_cons.2 ⟨(List.mem_of_getElem? (i := 1) rfl), (fun _ h => (nomatch h))⟩) (List.forall_mem_cons.2 ⟨.inr ⟨_, (List.mem_of_getElem? (i := 0) rfl), rfl⟩, (List.forall_mem_cons.2 ⟨.inl (List.mem_of_getElem? (i := 2) rfl), (List.forall_mem_cons.2 ⟨.inl (List.mem_of_getElem? (i := 3) rfl), (List.forall_mem_cons.2 ⟨.inl (List.mem_of_getElem? (i := 4) rfl), (fun _ h => (nomatch h))⟩)⟩)⟩)⟩)⟩)
end Go.Proofs.YtdjpacgjhcidpabGreatDoor
namespace Go.Proofs.YtdjpacgjhcidpabGreatDoor
open Go.RowKit
/-- A number, reckoned ahead of what is done with it. -/
def frc {α : Type} (n : Nat) (k : Nat → α) : α := match n with
  | 0 => k 0
  | m + 1 => k (m + 1)
theorem frc_eq {α : Type} (n : Nat) (k : Nat → α) : frc n k = k n := by cases n <;> rfl
def revW (B : List Nat) : Nat → List Nat
  | 0 => []
  | n + 1 => wAt B n :: revW B n
theorem revW_get (B : List Nat) : ∀ (n i : Nat), i < n → (revW B n).getD i 0 = wAt B (n - 1 - i)
  | 0, _, h => absurd h (Nat.not_lt_zero _)
  | n + 1, 0, _ => by simp [revW]
  | n + 1, i + 1, h => by
    have := revW_get B n i (by omega)
    simp only [revW, List.getD_cons_succ, this]
    congr 1; omega
def inw (B : List Nat) : Nat → Nat → List Nat → List Nat
  | 0, _, L => L
  | k + 1, i, L => frc (wd B (4 * i)) fun x => inw B k (i + 1) (x :: L)
theorem inw_eq (B : List Nat) : ∀ (k i : Nat), i + k ≤ 16 → inw B k i (revW B i) = revW B (i + k)
  | 0, _, _ => rfl
  | k + 1, i, h => by
    rw [inw, frc_eq, ← wAt_lo B (by omega)]
    exact (inw_eq B k (i + 1) (by omega)).trans (by rw [show i + 1 + k = i + (k + 1) by omega])
def sch : Nat → List Nat → List Nat
  | 0, L => L
  | n + 1, L => frc (nxt (L.getD 15 0) (L.getD 14 0) (L.getD 6 0) (L.getD 1 0)) fun x => sch n (x :: L)
theorem sch_eq (B : List Nat) : ∀ (k n : Nat), 16 ≤ n → sch k (revW B n) = revW B (n + k)
  | 0, _, _ => rfl
  | k + 1, n, h => by
    rw [sch, frc_eq, revW_get _ _ _ (by omega), revW_get _ _ _ (by omega), revW_get _ _ _ (by omega), revW_get _ _ _ (by omega)]
    have e := wAt_hi B h
    rw [show n - 16 = n - 1 - 15 by omega, show n - 15 = n - 1 - 14 by omega, show n - 7 = n - 1 - 6 by omega, show n - 2 = n - 1 - 1 by omega] at e
    rw [← e]
    exact (sch_eq B k (n + 1) (by omega)).trans (by rw [show n + 1 + k = n + (k + 1) by omega])
def rn : List Nat → List Nat → Nat → Nat → Nat → Nat → Nat → Nat → Nat → Nat → List Nat
  | k :: ks, w :: ws, a, b, c, d, e, f, g, h => frc (((((h + sg e 6 11 25) % 4294967296 + cho e f g) % 4294967296 + k) % 4294967296 + w) % 4294967296) fun t => frc ((t + (sg a 2 13 22 + maj a b c) % 4294967296) % 4294967296) fun a' => frc ((d + t) % 4294967296) fun e' => rn ks ws a' a b c e' e f g
  | _, _, a, b, c, d, e, f, g, h => [a, b, c, d, e, f, g, h]
def fwd (B : List Nat) : List Nat := (revW B 64).reverse
theorem revW_len (B : List Nat) : ∀ n, (revW B n).length = n
  | 0 => rfl
  | n + 1 => by rw [revW, List.length_cons, revW_len B n]
theorem fwd_get (B : List Nat) (i : Nat) (h : i < (fwd B).length) : (fwd B)[i] = wAt B i := by
  have hl : i < 64 := by simpa [fwd, revW_len] using h
  have e := revW_get B 64 (63 - i) (by omega)
  rw [show 64 - 1 - (63 - i) = i by omega] at e
  rw [← e, List.getD_eq_getElem?_getD]
  simp only [fwd, List.getElem_reverse, revW_len]
  rw [List.getElem?_eq_getElem (by rw [revW_len]; omega)]
  simp
theorem eta8 {l : List Nat} (h : l.length = 8) : [l.getD 0 0, l.getD 1 0, l.getD 2 0, l.getD 3 0, l.getD 4 0, l.getD 5 0, l.getD 6 0, l.getD 7 0] = l := by
  refine ext_getD (by rw [h]; rfl) fun i hi => ?_
  have : i < 8 := hi
  match i with
  | 0 => rfl
  | 1 => rfl
  | 2 => rfl
  | 3 => rfl
  | 4 => rfl
  | 5 => rfl
  | 6 => rfl
  | 7 => rfl
  | i + 8 => omega
theorem getE_D (l : List Nat) (n : Nat) (h : n < l.length) : l[n]'h = l.getD n 0 := by simp [h]
theorem rn_eq {H : List Nat} (hH : Wds 8 H) (B : List Nat) {N : Nat} (hN : N = 64) : ∀ (m n : Nat), n + m = N → rn (kTab.drop n) ((fwd B).drop n) ((stK H B n).getD 0 0) ((stK H B n).getD 1 0) ((stK H B n).getD 2 0) ((stK H B n).getD 3 0) ((stK H B n).getD 4 0) ((stK H B n).getD 5 0) ((stK H B n).getD 6 0) ((stK H B n).getD 7 0) = stK H B N
  | 0, n, h => by
    obtain rfl : n = N := by omega
    rw [List.drop_eq_nil_of_le (by rw [kTab_wds.len]; omega)]
    exact eta8 (stK_wds hH B n).len
  | m + 1, n, h => by
    have h1 : n < kTab.length := by rw [kTab_wds.len]; omega
    have h2 : n < (fwd B).length := by simp [fwd, revW_len]; omega
    rw [List.drop_eq_getElem_cons h1, List.drop_eq_getElem_cons h2, fwd_get, getE_D kTab n h1, rn, frc_eq, frc_eq, frc_eq]
    exact rn_eq hH B hN m (n + 1) (by omega)
/-- The eight words, reckoned. -/
def evS (H B : List Nat) : List Nat := rn kTab (sch 48 (inw B 16 0 [])).reverse (H.getD 0 0) (H.getD 1 0) (H.getD 2 0) (H.getD 3 0) (H.getD 4 0) (H.getD 5 0) (H.getD 6 0) (H.getD 7 0)
theorem evS_eq {H : List Nat} (hH : Wds 8 H) (B : List Nat) : evS H B = stK H B 64 := by
  have e1 : inw B 16 0 [] = revW B 16 := inw_eq B 16 0 (by decide)
  have e2 : sch 48 (revW B 16) = revW B 64 := sch_eq B 48 16 (by decide)
  rw [evS, e1, e2]
  exact rn_eq hH B rfl 64 0 rfl
theorem aft_ev {H : List Nat} (hH : Wds 8 H) (B : List Nat) {S : List Nat} (h : evS H B = S) : aftN H B = [(H.getD 0 0 + S.getD 0 0) % 4294967296, (H.getD 1 0 + S.getD 1 0) % 4294967296, (H.getD 2 0 + S.getD 2 0) % 4294967296, (H.getD 3 0 + S.getD 3 0) % 4294967296, (H.getD 4 0 + S.getD 4 0) % 4294967296, (H.getD 5 0 + S.getD 5 0) % 4294967296, (H.getD 6 0 + S.getD 6 0) % 4294967296, (H.getD 7 0 + S.getD 7 0) % 4294967296] := by
  rw [← h, evS_eq hH B]; rfl
/-- The ladder, reckoned. -/
def ladE (ks : List Nat) (u : Nat) : Nat → Nat → Nat → Nat → Nat → Nat → Lad
  | 0, _, a, b, c, d => ⟨a, b, c, d⟩
  | n + 1, j, a, b, c, d => frc ((((⟨a, b, c, d⟩ : Lad).swap (bitAt ks (254 - j))).step u).swap (bitAt ks (254 - j))).x2 fun a' => frc ((((⟨a, b, c, d⟩ : Lad).swap (bitAt ks (254 - j))).step u).swap (bitAt ks (254 - j))).z2 fun b' => frc ((((⟨a, b, c, d⟩ : Lad).swap (bitAt ks (254 - j))).step u).swap (bitAt ks (254 - j))).x3 fun c' => frc ((((⟨a, b, c, d⟩ : Lad).swap (bitAt ks (254 - j))).step u).swap (bitAt ks (254 - j))).z3 fun d' => ladE ks u n (j + 1) a' b' c' d'
theorem ladE_eq (ks : List Nat) (u : Nat) : ∀ n j, ladE ks u n j (ladTo ks u j).x2 (ladTo ks u j).z2 (ladTo ks u j).x3 (ladTo ks u j).z3 = ladTo ks u (j + n)
  | 0, _ => rfl
  | n + 1, j => by
    rw [ladE, frc_eq, frc_eq, frc_eq, frc_eq]
    exact (ladE_eq ks u n (j + 1)).trans (by rw [Nat.add_assoc, Nat.add_comm 1 n])
def invE (x : Nat) : Nat → Nat → Nat → Nat
  | 0, _, a => a
  | n + 1, j, a => frc (if j = 252 ∨ j = 250 then a * a % pN else (a * a % pN) * x % pN) fun b => invE x n (j + 1) b
theorem invE_eq (x : Nat) : ∀ n j, invE x n j (invTo x j) = invTo x (j + n)
  | 0, _ => rfl
  | n + 1, j => by
    rw [invE, frc_eq]
    exact (invE_eq x n (j + 1)).trans (by rw [Nat.add_assoc, Nat.add_comm 1 n])
theorem curve_ev {ks us sc : List Nat} {u x z c d i r : Nat} (h1 : scal ks = sc) (h2 : numOf us % pN = u) (h3 : ladE sc u 255 0 1 0 u 1 = ⟨x, z, c, d⟩) (h4 : invE z 255 0 1 = i) (h5 : mN x i = r) : curveN ks us = r := by
  have e1 : ladTo sc u 255 = ⟨x, z, c, d⟩ := ((ladE_eq sc u 255 0).symm.trans (by exact h3) : ladTo sc u (0 + 255) = _)
  have e2 : invTo z 255 = i := ((invE_eq z 255 0).symm.trans (by exact h4) : invTo z (0 + 255) = _)
  rw [curveN, h1, h2, e1]
  show mN x (invTo z 255) = r
  rw [e2, h5]
theorem sha3_lit {X T B0 B1 B2 H1 H2 H3 D : List Nat} (eT : sTx X = T) (hn : T.length / 64 = 3) (c0 : (T.drop (64 * 0)).take 64 = B0) (c1 : (T.drop (64 * 1)).take 64 = B1) (c2 : (T.drop (64 * 2)).take 64 = B2) (k1 : aftN iv B0 = H1) (k2 : aftN H1 B1 = H2) (k3 : aftN H2 B2 = H3) (hd : dgN H3 = D) : shaN X = D := by
  rw [← sTx_sha, eT, hn]
  show dgN (aftN (aftN (aftN iv ((T.drop (64 * 0)).take 64)) ((T.drop (64 * 1)).take 64)) ((T.drop (64 * 2)).take 64)) = D
  rw [c0, c1, c2, k1, k2, k3, hd]
def kA : List Nat := [8, 0, 0, 0, 0, 0, 0, 0, 0, 0, 0, 0, 0, 0, 0, 0, 0, 0, 0, 0, 0, 0, 0, 0, 0, 0, 0, 0, 0, 0, 0, 0]
def kB : List Nat := [16, 0, 0, 0, 0, 0, 0, 0, 0, 0, 0, 0, 0, 0, 0, 0, 0, 0, 0, 0, 0, 0, 0, 0, 0, 0, 0, 0, 0, 0, 0, 0]
def kZ : List Nat := List.replicate 32 0
def pA : List Nat := [66, 44, 142, 122, 98, 39, 215, 188, 161, 53, 11, 62, 43, 183, 39, 159, 120, 151, 184, 123, 182, 133, 75, 120, 60, 96, 232, 3, 17, 174, 48, 121]
def pB : List Nat := [141, 32, 248, 199, 187, 251, 154, 243, 218, 78, 245, 50, 237, 68, 239, 198, 140, 230, 66, 188, 93, 12, 92, 177, 215, 185, 27, 150, 199, 78, 223, 2]
def sAB : List Nat := [57, 195, 115, 180, 25, 57, 165, 87, 25, 42, 237, 43, 16, 128, 40, 228, 73, 110, 76, 124, 250, 74, 236, 225, 186, 153, 164, 236, 44, 206, 224, 65]
theorem kA_ok : BytesK 32 kA := ⟨rfl, (lit_lt (by kernel_rfl))⟩
theorem kB_ok : BytesK 32 kB := ⟨rfl, (lit_lt (by kernel_rfl))⟩
theorem kZ_ok : BytesK 32 kZ := ⟨rfl, rep0_lt (by decide)⟩
theorem cv_a : curveN kA nine32 = 54815864700279561125610391355931320566748822376190344121911385527384361806914 := curve_ev (sc := [8, 0, 0, 0, 0, 0, 0, 0, 0, 0, 0, 0, 0, 0, 0, 0, 0, 0, 0, 0, 0, 0, 0, 0, 0, 0, 0, 0, 0, 0, 0, 64]) (u := 9) (x := 51308241408682788594860346115987951272351162540477535997429117057761542978319) (z := 47154794169143379669309714065436086811230587292877743942666655413522937240343) (c := 48684302112648453340776453877951235438069666527508432418671490419372981879472) (d := 14183203961276989654069734536689318038161764022992892782611580868881078690949) (i := 39574951172635768184342202644803103184672000961821277324233674078280658367447) (by kernel_rfl) (by kernel_rfl) (by kernel_rfl) (by kernel_rfl) (by kernel_rfl)
theorem cv_b : curveN kB nine32 = 1299176309664798452705863727368535174181477389508666144864262368914056945805 := curve_ev (sc := [16, 0, 0, 0, 0, 0, 0, 0, 0, 0, 0, 0, 0, 0, 0, 0, 0, 0, 0, 0, 0, 0, 0, 0, 0, 0, 0, 0, 0, 0, 0, 64]) (u := 9) (x := 18240689040596926117201691561459565316154972867344859683906279028078791758893) (z := 1372564893506322633309149429092736184374910567986066836341098575145101434737) (c := 41474732181857107681988327326677755642255625245005202953498057935531678887732) (d := 38759801906068702625381042015808796695207418119631655130169825982835766178752) (i := 45527452187490846667092325546224198652302204593308056906059209483753383515461) (by kernel_rfl) (by kernel_rfl) (by kernel_rfl) (by kernel_rfl) (by kernel_rfl)
theorem cv_ab : curveN kA pB = 29797531871329179100092067802573677010323708215341275222425822897905599759161 := curve_ev (sc := [8, 0, 0, 0, 0, 0, 0, 0, 0, 0, 0, 0, 0, 0, 0, 0, 0, 0, 0, 0, 0, 0, 0, 0, 0, 0, 0, 0, 0, 0, 0, 64]) (u := 1299176309664798452705863727368535174181477389508666144864262368914056945805) (x := 43948874152742342318232923065035807212121424247779574205441621465648979502490) (z := 54475482668276393687485189474437509271598650685965290084083435230166884936121) (c := 42622327938580383506670517648552208765930822112083790169408052980788026500212) (d := 28507849348862407687137821400603652898721336620952761053035416936773458016417) (i := 10254781026365462501417414481018993895540272477326524004429291506750758125370) (by kernel_rfl) (by kernel_rfl) (by kernel_rfl) (by kernel_rfl) (by kernel_rfl)
theorem cv_ba : curveN kB pA = 29797531871329179100092067802573677010323708215341275222425822897905599759161 := curve_ev (sc := [16, 0, 0, 0, 0, 0, 0, 0, 0, 0, 0, 0, 0, 0, 0, 0, 0, 0, 0, 0, 0, 0, 0, 0, 0, 0, 0, 0, 0, 0, 0, 64]) (u := 54815864700279561125610391355931320566748822376190344121911385527384361806914) (x := 56192444895775318330648945254989032024300160805396647659826361938474805992326) (z := 53726882189845022932647310522352541335194992486009951738952232196435739142603) (c := 48271520376431201747107420124589316503669227060209968670214417077623797974522) (d := 6398964468623647750474892730904017669309230047030286822997893712248254550903) (i := 57081260402431901717296715018970045890473867372084810908356910817974574212360) (by kernel_rfl) (by kernel_rfl) (by kernel_rfl) (by kernel_rfl) (by kernel_rfl)
theorem cv_z : curveN kA kZ = 0 := curve_ev (sc := [8, 0, 0, 0, 0, 0, 0, 0, 0, 0, 0, 0, 0, 0, 0, 0, 0, 0, 0, 0, 0, 0, 0, 0, 0, 0, 0, 0, 0, 0, 0, 64]) (u := 0) (x := 0) (z := 0) (c := 0) (d := 0) (i := 0) (by kernel_rfl) (by kernel_rfl) (by kernel_rfl) (by kernel_rfl) (by kernel_rfl)
theorem pb_a : pbN kA = pA := (congrArg keyL cv_a).trans (by kernel_rfl)
theorem pb_b : pbN kB = pB := (congrArg keyL cv_b).trans (by kernel_rfl)
theorem ss_ab : ssN kA (pbN kB) = sAB := by rw [pb_b]; exact (congrArg keyL cv_ab).trans (by kernel_rfl)
theorem ss_ba : ssN kB (pbN kA) = sAB := by rw [pb_a]; exact (congrArg keyL cv_ba).trans (by kernel_rfl)
theorem nz_ab : ¬ curveN kA (pbN kB) = 0 := by rw [pb_b, cv_ab]; decide
theorem nz_ba : ¬ curveN kB (pbN kA) = 0 := by rw [pb_a, cv_ba]; decide
theorem ev_out0 : aftN iv [11, 0, 0, 0, 98, 105, 108, 108, 101, 116, 32, 116, 97, 108, 107, 32, 0, 0, 0, 57, 195, 115, 180, 25, 57, 165, 87, 25, 42, 237, 43, 16, 128, 40, 228, 73, 110, 76, 124, 250, 74, 236, 225, 186, 153, 164, 236, 44, 206, 224, 65, 32, 0, 0, 0, 66, 44, 142, 122, 98, 39, 215, 188, 161] = [3475863124, 1121757718, 154817798, 2053554283, 3879383302, 2737816431, 2902700909, 2662089721] := (aft_ev iv_wds _ (by kernel_rfl : evS iv [11, 0, 0, 0, 98, 105, 108, 108, 101, 116, 32, 116, 97, 108, 107, 32, 0, 0, 0, 57, 195, 115, 180, 25, 57, 165, 87, 25, 42, 237, 43, 16, 128, 40, 228, 73, 110, 76, 124, 250, 74, 236, 225, 186, 153, 164, 236, 44, 206, 224, 65, 32, 0, 0, 0, 66, 44, 142, 122, 98, 39, 215, 188, 161] = [1696829421, 2272590737, 3435880852, 3575040817, 2519490183, 136993507, 2373966274, 1120630496])).trans (by kernel_rfl)
theorem ev_out1 : aftN [3475863124, 1121757718, 154817798, 2053554283, 3879383302, 2737816431, 2902700909, 2662089721] [53, 11, 62, 43, 183, 39, 159, 120, 151, 184, 123, 182, 133, 75, 120, 60, 96, 232, 3, 17, 174, 48, 121, 32, 0, 0, 0, 141, 32, 248, 199, 187, 251, 154, 243, 218, 78, 245, 50, 237, 68, 239, 198, 140, 230, 66, 188, 93, 12, 92, 177, 215, 185, 27, 150, 199, 78, 223, 2, 128, 0, 0, 0, 0] = [2968975047, 3235157872, 2549589750, 2039259596, 270621894, 2561389113, 357463097, 3912249024] := (aft_ev (wds_of rfl (by kernel_rfl)) _ (by kernel_rfl : evS [3475863124, 1121757718, 154817798, 2053554283, 3879383302, 2737816431, 2902700909, 2662089721] [53, 11, 62, 43, 183, 39, 159, 120, 151, 184, 123, 182, 133, 75, 120, 60, 96, 232, 3, 17, 174, 48, 121, 32, 0, 0, 0, 141, 32, 248, 199, 187, 251, 154, 243, 218, 78, 245, 50, 237, 68, 239, 198, 140, 230, 66, 188, 93, 12, 92, 177, 215, 185, 27, 150, 199, 78, 223, 2, 128, 0, 0, 0, 0] = [3788079219, 2113400154, 2394771952, 4280672609, 686205888, 4118539978, 1749729484, 1250159303])).trans (by kernel_rfl)
theorem ev_out2 : aftN [2968975047, 3235157872, 2549589750, 2039259596, 270621894, 2561389113, 357463097, 3912249024] [0, 0, 0, 0, 0, 0, 0, 0, 0, 0, 0, 0, 0, 0, 0, 0, 0, 0, 0, 0, 0, 0, 0, 0, 0, 0, 0, 0, 0, 0, 0, 0, 0, 0, 0, 0, 0, 0, 0, 0, 0, 0, 0, 0, 0, 0, 0, 0, 0, 0, 0, 0, 0, 0, 0, 0, 0, 0, 0, 0, 0, 0, 3, 216] = [1860794496, 3043554523, 1021108681, 885287208, 3797545257, 3571892098, 1187437561, 224631559] := (aft_ev (wds_of rfl (by kernel_rfl)) _ (by kernel_rfl : evS [2968975047, 3235157872, 2549589750, 2039259596, 270621894, 2561389113, 357463097, 3912249024] [0, 0, 0, 0, 0, 0, 0, 0, 0, 0, 0, 0, 0, 0, 0, 0, 0, 0, 0, 0, 0, 0, 0, 0, 0, 0, 0, 0, 0, 0, 0, 0, 0, 0, 0, 0, 0, 0, 0, 0, 0, 0, 0, 0, 0, 0, 0, 0, 0, 0, 0, 0, 0, 0, 0, 0, 0, 0, 0, 0, 0, 0, 3, 216] = [3186786745, 4103363947, 2766486227, 3140994908, 3526923363, 1010502985, 829974464, 607349831])).trans (by kernel_rfl)
theorem sha_out : kyN tLab sAB pA pB = [110, 233, 120, 128, 181, 104, 244, 219, 60, 220, 225, 201, 52, 196, 105, 40, 226, 89, 241, 41, 212, 230, 191, 130, 70, 198, 219, 249, 13, 99, 155, 7] := by
  have e0 : packN [tLab] ++ packN [sAB, pA, pB] = [11, 0, 0, 0, 98, 105, 108, 108, 101, 116, 32, 116, 97, 108, 107, 32, 0, 0, 0, 57, 195, 115, 180, 25, 57, 165, 87, 25, 42, 237, 43, 16, 128, 40, 228, 73, 110, 76, 124, 250, 74, 236, 225, 186, 153, 164, 236, 44, 206, 224, 65, 32, 0, 0, 0, 66, 44, 142, 122, 98, 39, 215, 188, 161, 53, 11, 62, 43, 183, 39, 159, 120, 151, 184, 123, 182, 133, 75, 120, 60, 96, 232, 3, 17, 174, 48, 121, 32, 0, 0, 0, 141, 32, 248, 199, 187, 251, 154, 243, 218, 78, 245, 50, 237, 68, 239, 198, 140, 230, 66, 188, 93, 12, 92, 177, 215, 185, 27, 150, 199, 78, 223, 2] := by kernel_rfl
  exact (congrArg shaN e0).trans (sha3_lit (T := [11, 0, 0, 0, 98, 105, 108, 108, 101, 116, 32, 116, 97, 108, 107, 32, 0, 0, 0, 57, 195, 115, 180, 25, 57, 165, 87, 25, 42, 237, 43, 16, 128, 40, 228, 73, 110, 76, 124, 250, 74, 236, 225, 186, 153, 164, 236, 44, 206, 224, 65, 32, 0, 0, 0, 66, 44, 142, 122, 98, 39, 215, 188, 161, 53, 11, 62, 43, 183, 39, 159, 120, 151, 184, 123, 182, 133, 75, 120, 60, 96, 232, 3, 17, 174, 48, 121, 32, 0, 0, 0, 141, 32, 248, 199, 187, 251, 154, 243, 218, 78, 245, 50, 237, 68, 239, 198, 140, 230, 66, 188, 93, 12, 92, 177, 215, 185, 27, 150, 199, 78, 223, 2, 128, 0, 0, 0, 0, 0, 0, 0, 0, 0, 0, 0, 0, 0, 0, 0, 0, 0, 0, 0, 0, 0, 0, 0, 0, 0, 0, 0, 0, 0, 0, 0, 0, 0, 0, 0, 0, 0, 0, 0, 0, 0, 0, 0, 0, 0, 0, 0, 0, 0, 0, 0, 0, 0, 0, 0, 0, 0, 0, 0, 0, 0, 0, 0, 0, 0, 0, 3, 216]) (by kernel_rfl) (by kernel_rfl) (by kernel_rfl) (by kernel_rfl) (by kernel_rfl) ev_out0 ev_out1 ev_out2 (by kernel_rfl))
theorem ev_in0 : aftN iv [11, 0, 0, 0, 98, 105, 108, 108, 101, 116, 32, 116, 97, 108, 107, 32, 0, 0, 0, 57, 195, 115, 180, 25, 57, 165, 87, 25, 42, 237, 43, 16, 128, 40, 228, 73, 110, 76, 124, 250, 74, 236, 225, 186, 153, 164, 236, 44, 206, 224, 65, 32, 0, 0, 0, 141, 32, 248, 199, 187, 251, 154, 243, 218] = [1643982598, 218603209, 4212667872, 1538785070, 173788868, 568721188, 3666385675, 2541906874] := (aft_ev iv_wds _ (by kernel_rfl : evS iv [11, 0, 0, 0, 98, 105, 108, 108, 101, 116, 32, 116, 97, 108, 107, 32, 0, 0, 0, 57, 195, 115, 180, 25, 57, 165, 87, 25, 42, 237, 43, 16, 128, 40, 228, 73, 110, 76, 124, 250, 74, 236, 225, 186, 153, 164, 236, 44, 206, 224, 65, 32, 0, 0, 0, 141, 32, 248, 199, 187, 251, 154, 243, 218] = [4159916191, 1369436228, 3198763630, 3060271604, 3108863045, 2262865560, 3137651040, 1000447649])).trans (by kernel_rfl)
theorem ev_in1 : aftN [1643982598, 218603209, 4212667872, 1538785070, 173788868, 568721188, 3666385675, 2541906874] [78, 245, 50, 237, 68, 239, 198, 140, 230, 66, 188, 93, 12, 92, 177, 215, 185, 27, 150, 199, 78, 223, 2, 32, 0, 0, 0, 66, 44, 142, 122, 98, 39, 215, 188, 161, 53, 11, 62, 43, 183, 39, 159, 120, 151, 184, 123, 182, 133, 75, 120, 60, 96, 232, 3, 17, 174, 48, 121, 128, 0, 0, 0, 0] = [738565517, 1976324364, 1999242391, 3963232406, 3593219794, 708230244, 1434243468, 1983454254] := (aft_ev (wds_of rfl (by kernel_rfl)) _ (by kernel_rfl : evS [1643982598, 218603209, 4212667872, 1538785070, 173788868, 568721188, 3666385675, 2541906874] [78, 245, 50, 237, 68, 239, 198, 140, 230, 66, 188, 93, 12, 92, 177, 215, 185, 27, 150, 199, 78, 223, 2, 32, 0, 0, 0, 66, 44, 142, 122, 98, 39, 215, 188, 161, 53, 11, 62, 43, 183, 39, 159, 120, 151, 184, 123, 182, 133, 75, 120, 60, 96, 232, 3, 17, 174, 48, 121, 128, 0, 0, 0, 0] = [3389550215, 1757721155, 2081541815, 2424447336, 3419430926, 139509056, 2062825089, 3736514676])).trans (by kernel_rfl)
theorem ev_in2 : aftN [738565517, 1976324364, 1999242391, 3963232406, 3593219794, 708230244, 1434243468, 1983454254] [0, 0, 0, 0, 0, 0, 0, 0, 0, 0, 0, 0, 0, 0, 0, 0, 0, 0, 0, 0, 0, 0, 0, 0, 0, 0, 0, 0, 0, 0, 0, 0, 0, 0, 0, 0, 0, 0, 0, 0, 0, 0, 0, 0, 0, 0, 0, 0, 0, 0, 0, 0, 0, 0, 0, 0, 0, 0, 0, 0, 0, 0, 3, 216] = [2233642282, 3217374456, 207373547, 638454490, 46231958, 2931487808, 1555305143, 966837325] := (aft_ev (wds_of rfl (by kernel_rfl)) _ (by kernel_rfl : evS [738565517, 1976324364, 1999242391, 3963232406, 3593219794, 708230244, 1434243468, 1983454254] [0, 0, 0, 0, 0, 0, 0, 0, 0, 0, 0, 0, 0, 0, 0, 0, 0, 0, 0, 0, 0, 0, 0, 0, 0, 0, 0, 0, 0, 0, 0, 0, 0, 0, 0, 0, 0, 0, 0, 0, 0, 0, 0, 0, 0, 0, 0, 0, 0, 0, 0, 0, 0, 0, 0, 0, 0, 0, 0, 0, 0, 0, 3, 216] = [1495076765, 1241050092, 2503098452, 970189380, 747979460, 2223257564, 121061675, 3278350367])).trans (by kernel_rfl)
theorem sha_in : kyN tLab sAB pB pA = [133, 34, 173, 42, 191, 197, 60, 248, 12, 92, 68, 235, 38, 14, 10, 218, 2, 193, 113, 150, 174, 186, 244, 64, 92, 180, 18, 183, 57, 160, 196, 77] := by
  have e0 : packN [tLab] ++ packN [sAB, pB, pA] = [11, 0, 0, 0, 98, 105, 108, 108, 101, 116, 32, 116, 97, 108, 107, 32, 0, 0, 0, 57, 195, 115, 180, 25, 57, 165, 87, 25, 42, 237, 43, 16, 128, 40, 228, 73, 110, 76, 124, 250, 74, 236, 225, 186, 153, 164, 236, 44, 206, 224, 65, 32, 0, 0, 0, 141, 32, 248, 199, 187, 251, 154, 243, 218, 78, 245, 50, 237, 68, 239, 198, 140, 230, 66, 188, 93, 12, 92, 177, 215, 185, 27, 150, 199, 78, 223, 2, 32, 0, 0, 0, 66, 44, 142, 122, 98, 39, 215, 188, 161, 53, 11, 62, 43, 183, 39, 159, 120, 151, 184, 123, 182, 133, 75, 120, 60, 96, 232, 3, 17, 174, 48, 121] := by kernel_rfl
  exact (congrArg shaN e0).trans (sha3_lit (T := [11, 0, 0, 0, 98, 105, 108, 108, 101, 116, 32, 116, 97, 108, 107, 32, 0, 0, 0, 57, 195, 115, 180, 25, 57, 165, 87, 25, 42, 237, 43, 16, 128, 40, 228, 73, 110, 76, 124, 250, 74, 236, 225, 186, 153, 164, 236, 44, 206, 224, 65, 32, 0, 0, 0, 141, 32, 248, 199, 187, 251, 154, 243, 218, 78, 245, 50, 237, 68, 239, 198, 140, 230, 66, 188, 93, 12, 92, 177, 215, 185, 27, 150, 199, 78, 223, 2, 32, 0, 0, 0, 66, 44, 142, 122, 98, 39, 215, 188, 161, 53, 11, 62, 43, 183, 39, 159, 120, 151, 184, 123, 182, 133, 75, 120, 60, 96, 232, 3, 17, 174, 48, 121, 128, 0, 0, 0, 0, 0, 0, 0, 0, 0, 0, 0, 0, 0, 0, 0, 0, 0, 0, 0, 0, 0, 0, 0, 0, 0, 0, 0, 0, 0, 0, 0, 0, 0, 0, 0, 0, 0, 0, 0, 0, 0, 0, 0, 0, 0, 0, 0, 0, 0, 0, 0, 0, 0, 0, 0, 0, 0, 0, 0, 0, 0, 0, 0, 0, 0, 0, 3, 216]) (by kernel_rfl) (by kernel_rfl) (by kernel_rfl) (by kernel_rfl) (by kernel_rfl) ev_in0 ev_in1 ev_in2 (by kernel_rfl))
theorem out_ab : outN kA (pbN kB) = kyN tLab sAB pA pB := by rw [outN, ss_ab, pb_a, pb_b]
theorem in_ab : inN kA (pbN kB) = kyN tLab sAB pB pA := by rw [inN, ss_ab, pb_a, pb_b]
theorem out_ba : outN kB (pbN kA) = kyN tLab sAB pB pA := by rw [outN, ss_ba, pb_a, pb_b]
theorem in_ba : inN kB (pbN kA) = kyN tLab sAB pA pB := by rw [inN, ss_ba, pb_a, pb_b]
theorem wk_oi : outN kA (pbN kB) = inN kB (pbN kA) := out_ab.trans in_ba.symm
theorem wk_io : inN kA (pbN kB) = outN kB (pbN kA) := in_ab.trans out_ba.symm
theorem wk_rr : rootN kA (pbN kB) = rootN kB (pbN kA) := by rw [rootN, rootN, ss_ab, ss_ba, rowN_comm (pbN_ok kA) (pbN_ok kB)]
theorem wk_ne : outN kA (pbN kB) ≠ inN kA (pbN kB) := by rw [out_ab, in_ab, sha_out, sha_in]; decide
theorem parts_cat {D Z : List Nat} (h1 : D.length = 16) (h2 : Z.length = 36) : partsR (D ++ Z) = (D, Z, true) := by
  rw [partsR_ok (by rw [List.length_append, h1, h2]), List.take_append_of_le_length (by omega), List.take_of_length_le (by omega), ← h1, List.drop_left]
end Go.Proofs.YtdjpacgjhcidpabGreatDoor
