/- Several texts in one: Package frame: Encode; the document's. Package frame: Decode; the document's. The laws of frames: wakes. The law FrameApart. -/
import Derived.Test.YtiekpglkkfllfaaZ2
namespace Go.Proofs.Ytiekpglkkfllfaa
open Go.RowKit
set_option maxRecDepth 100000 in
theorem enc_yes (a t k r : Nat) (X : List Nat) (hr : r < 18446744073709551616) (h : mayF (a : Nat) (t : Nat) (k : Nat) X) (w0 : World) :
    Calls Try.prog 9 #[.agg #[iN a, iN t, iN k, iW r, sB X]] w0 fun e w' => e = .returned (.tuple #[.string (bs (encR (a : Nat) (t : Nat) (k : Nat) r X).1), iN ((encR (a : Nat) (t : Nat) (k : Nat) r X).2)]) ∧ Below w0.heap.size w0 w' := by
  refine enter_fr Try.func9 rfl Try.ntmps9 (by simp) fun ac (FF : Fr 27 ac [(0, aG #[iN a, iN t, iN k, iW r, sB X])]) => ?_
  have MM := MemS.start w0
  obtain ⟨hA, hT, hK, hL⟩ := id h
  have h3b : ∀ i, [a, t, k].getD i 0 < 256 := cons_lt (by omega) (cons_lt (by omega) (cons_lt (by omega) (lit_lt (by kernel_rfl))))
  refine wp_seq (rg_c FF MM [(1, t_ (sB []))] 4 [] [0] (fun bf => ⟨(by kernel_rfl), fun _ _ FF1 MM1 => then_n ?_⟩))
  refine wp_seq ?_
  refine wp_seq (rg_c FF1 MM1 [(0, b_ 0), (0, t_ (.bool true))] 4 [7] [] (⟨rfl, rfl, (callP_of en_may (may_any ((a : Nat) : Int) ((t : Nat) : Int) ((k : Nat) : Int) r X true (iff_of_true h rfl)) _), fun _ _ FF2 MM2 => then_n ?_⟩))
  refine wp_cond_false (FF2.ev 0 rfl) ?_
  refine wp_skip ?_
  refine then_n ?_
  refine wp_seq (rg_c FF2 MM2 [(1, l_ 0 (iN a)), (0, t_ (iB a)), (1, l_ 0 (iN t)), (0, t_ (iB t)), (1, l_ 0 (iN k)), (0, t_ (iB k)), (0, s_ 0 (.cells (cn .u8 ([a, t, k])) 5)), (0, l_ 0 (sB ([a, t, k])))] 5 [] [] (⟨rfl, rfl, (vI (Nat.mod_eq_of_lt (by omega))), rfl, rfl, (vI (Nat.mod_eq_of_lt (by omega))), rfl, rfl, (vI (Nat.mod_eq_of_lt (by omega))), (by kernel_rfl), fun bl => ⟨rfl, (str_all rfl h3b), fun _ _ FF3 MM3 => then_n ?_⟩⟩))
  refine wp_seq (rg_dc 10 FF3 MM3 [(2, l_ 1 (iW r)), (0, t_ (sB (leN 8 r))), (0, t_ (sB ([a, t, k] ++ leN 8 r))), (1, l_ 1 (sB X)), (0, t_ (sB (encF (a : Nat) (t : Nat) (k : Nat) r X)))] [] 4 [] [] (⟨rfl, rfl, (callP_of en_round (round_any r hr) _), (by simp only [bs_size, leN_len, List.length_cons, List.length_nil]; omega), (vS2 (bs_app _ _)), rfl, rfl, (by simp only [bs_size, List.length_append, leN_len, List.length_cons, List.length_nil]; omega), (vS2 ((bs_app _ _).trans (congrArg bs (enc3 _ _ _ _ _)))), fun _ _ FF4 MM4 => then_n ?_⟩))
  refine wp_ret ?_
  repeat first | refine then_ret ?_ | refine inb_ret ?_
  exact (ret_tup2 FF4 1 0 Try.results9 rfl rfl ⟨by rw [encR_yes h], MM4.below⟩)
set_option maxRecDepth 100000 in
theorem enc_no (a t k : Int) (r : Nat) (X : List Nat) (h : ¬ mayF a t k X) (w0 : World) :
    Calls Try.prog 9 #[.agg #[.int .i64 a, .int .i64 t, .int .i64 k, iW r, sB X]] w0 fun e w' => e = .returned (.tuple #[.string (bs (encR a t k r X).1), iN ((encR a t k r X).2)]) ∧ Below w0.heap.size w0 w' := by
  refine enter_fr Try.func9 rfl Try.ntmps9 (by simp) fun ac (FF : Fr 27 ac [(0, aG #[.int .i64 (a : Int), .int .i64 (t : Int), .int .i64 (k : Int), iW r, sB X])]) => ?_
  have MM := MemS.start w0
  refine wp_seq (rg_c FF MM [(1, t_ (sB []))] 4 [] [0] (fun bf => ⟨(by kernel_rfl), fun _ _ FF1 MM1 => then_n ?_⟩))
  refine wp_seq ?_
  refine wp_seq (rg_c FF1 MM1 [(0, b_ 0), (0, t_ (.bool false))] 4 [7] [] (⟨rfl, rfl, (callP_of en_may (may_any a t k r X false (iff_of_false h (by decide))) _), fun _ _ FF2 MM2 => then_n ?_⟩))
  refine wp_cond_true (FF2.ev 0 rfl) ?_
  refine wp_seq (rg_c FF2 MM2 [(0, t_ (sB []))] 4 [] [] (⟨(by kernel_rfl), fun _ _ FF3 MM3 => then_n ?_⟩))
  refine wp_ret ?_
  repeat first | refine then_ret ?_ | refine inb_ret ?_
  exact (ret_tup2 FF3 1 0 Try.results9 rfl rfl ⟨by rw [encR_no h], MM3.below⟩)
theorem enc_any (a t k : Int) (r : Nat) (X : List Nat) (hr : r < 18446744073709551616) (w : World) : Calls Try.prog 9 #[.agg #[.int .i64 a, .int .i64 t, .int .i64 k, iW r, sB X]] w fun e w' => e = .returned (.tuple #[.string (bs (encR a t k r X).1), iN ((encR a t k r X).2)]) ∧ Below w.heap.size w w' := by
  by_cases h : mayF a t k X
  · obtain ⟨h1, h2, h3, _⟩ := id h
    obtain ⟨a, rfl⟩ := Int.eq_ofNat_of_zero_le (a := a) (by omega)
    obtain ⟨t, rfl⟩ := Int.eq_ofNat_of_zero_le (a := t) (by omega)
    obtain ⟨k, rfl⟩ := Int.eq_ofNat_of_zero_le (a := k) (by omega)
    exact enc_yes a t k r X hr h w
  · exact enc_no a t k r X h w
end Go.Proofs.Ytiekpglkkfllfaa
namespace Go.Proofs.Ytiekpglkkfllfaa
open Go.RowKit
set_option maxRecDepth 100000 in
theorem number_any (X : List Nat) (hX : ∀ i, X.getD i 0 < 256) (hl : X.length = 8) (w0 : World) :
    Calls Try.prog 18 #[sB X] w0 fun e w' => e = .returned (iW (leS X 8)) ∧ Below w0.heap.size w0 w' := by
  refine enter_fr Try.func18 rfl Try.ntmps18 (by simp) fun ac (FF : Fr 21 ac [(0, sB X)]) => ?_
  have MM := MemS.start w0
  refine wp_seq (rg_c FF MM [] 3 [] [] (fun _ _ FF1 MM1 => then_n ?_))
  refine wp_seq (rg_c FF1 MM1 [] 4 [] [] (fun _ _ FF2 MM2 => then_n ?_))
  refine wp_seq ?_
  refine wp_seq (rg_c FF2 MM2 [(1, t_ (iN X.length))] 8 [] [5] (⟨(vI (bs_size _)), fun _ _ FF3 MM3 => then_n ?_⟩))
  refine wp_for (fun a' w' => ∃ i : Nat, i ≤ 8 ∧ Fr 21 a' [(7, iN i), (6, iN X.length), (3, iW (leS X i)), (2, iW 0), (0, sB X)] ∧ MemS (fun k => k < w0.heap.size) w0 w' [] []) (fun a' _ => (8 - cnt 7 a').toNat) ⟨0, Nat.zero_le _, FF3.pick [0, 1, 2, 3, 4], MM3⟩ ?_
  rintro ac4 wd4 ⟨i, hi, FF4, MM4⟩
  have hc := cnt_of (FF4.get 0 rfl)
  refine rg_c FF4 MM4 [] 9 [] [] (fun _ _ FF5 MM5 => ?_)
  by_cases hlt : i < X.length
  · skip
    refine then_n (.inl ⟨(FF5.ev 0 rfl).trans (dec_t hlt), ?_⟩)
    refine wp_seq (rg_c FF5 MM5 [] 8 [] [] (fun _ _ FF6 MM6 => then_n ?_))
    refine rg_c FF6 MM6 [(3, t_ (iB (X.getD i 0))), (0, w_ 1), (2, t_ (iW (X.getD i 0 * 2 ^ (8 * i)))), (0, t_ (iW (leS X (i + 1))))] 8 [] [] (⟨(by simp only [bs_size]; omega), (byte_bs hX _), (by have := hX i; omega), by omega, (vI (Nat.mod_eq_of_lt (leS_fit hX (by omega)))), (leS_low hX hi), (leS_fit hX (by omega)), (vI (leS_or hX i)), fun _ _ FF7 MM7 => ?_⟩)
    refine inb_n (then_n ?_)
    refine rg_c FF7 MM7 [] 8 [] [] (⟨by omega, fun _ _ FF8 MM8 => ?_⟩)
    have hd := cnt_of (FF8.get 0 rfl)
    refine then_n ⟨⟨i + 1, by omega, FF8.pick [0, 3, 1, 4, 5], MM8⟩, ?_⟩
    rw [hc, hd]; omega
  · skip
    refine then_n (.inr ⟨(FF5.ev 0 rfl).trans (dec_f hlt), ?_⟩)
    obtain rfl : i = 8 := by omega
    refine then_n ?_
    refine wp_seq (rg_c FF5 MM5 [] 8 [] [] (fun _ _ FF9 MM9 => then_n ?_))
    refine wp_ret ?_
    repeat first | refine then_ret ?_ | refine inb_ret ?_
    exact (ret_fr FF9 0 Try.results18 rfl ⟨rfl, MM9.below⟩)
set_option maxRecDepth 100000 in
theorem dec_any (X : List Nat) (hX : ∀ i, X.getD i 0 < 256) (hl : X.length ≤ 1000000) (w0 : World) :
    Calls Try.prog 11 #[sB X] w0 fun e w' => e = .returned (.tuple #[.agg #[iN (decN X 0), iN (decN X 1), iN (decN X 2), iW (decN X 3), sB (decX X)], iN (decN X 4)]) ∧ Below w0.heap.size w0 w' := by
  refine enter_fr Try.func11 rfl Try.ntmps11 (by simp) fun ac (FF : Fr 33 ac [(0, sB X)]) => ?_
  have MM := MemS.start w0
  refine wp_seq (rg_c FF MM [] 4 [] [] (fun br => fun _ _ FF1 MM1 => then_n ?_))
  refine wp_seq ?_
  refine wp_seq (rg_c FF1 MM1 [(1, t_ (iN X.length))] 4 [7] [] (⟨(vI (bs_size _)), fun _ _ FF2 MM2 => then_n ?_⟩))
  by_cases hs7 : X.length < 11
  · refine wp_cond_true ((FF2.ev 0 rfl).trans (dec_t hs7)) ?_
    have hF : ¬ IsF X := fun q => by have := q.1; omega
    refine wp_seq (rg_c FF2 MM2 [(0, t_ (aG #[iN 0, iN 0, iN 0, iW 0, sB []])), (0, b_ 0)] 4 [] [] (⟨(by kernel_rfl), rfl, rfl, rfl, (by kernel_rfl), rfl, fun _ _ FF3 MM3 => then_n ?_⟩))
    refine wp_ret ?_
    repeat first | refine then_ret ?_ | refine inb_ret ?_
    exact (ret_ct FF3 MM3 (k := 5) (i := 0) (j := 1) (m := 0) Try.results11 rfl rfl rfl Try.underlying24 rfl (by kernel_rfl) rfl ⟨by rw [decN_no hF, decN_no hF, decN_no hF, decN_no hF, decN_no hF, decX_no hF]; try rfl, MM3.below⟩)
  · refine wp_cond_false ((FF2.ev 0 rfl).trans (dec_f hs7)) ?_
    refine wp_skip ?_
    refine then_n ?_
    have hlt11 : ∀ i, ((X.take 11).drop 3).getD i 0 < 256 := drop_lt (take_lt hX)
    have hl8 : ((X.take 11).drop 3).length = 8 := by rw [List.length_drop, List.length_take]; omega
    refine wp_seq (rg_draw FF2 MM2 [.inl (sB X), .inl (iB (X.getD 0 0)), .inl (iN (X.getD 0 0)), .inl (sB X), .inl (iB (X.getD 1 0)), .inl (iN (X.getD 1 0)), .inl (sB X), .inl (iB (X.getD 2 0)), .inl (iN (X.getD 2 0)), .inl (sB X), .inl (sB ((X.take 11).drop 3)), .inl (iW (leS (X.drop 3) 8)), .inl (sB X), .inl (sB (X.drop 11)), .inl (aG #[iN (X.getD 0 0), iN (X.getD 1 0), iN (X.getD 2 0), iW (leS (X.drop 3) 8), sB (X.drop 11)]), .inr (oC #[iN 0, iN 0, iN 0, iW 0, sB []] 24, fun b => pT b)] [15] [o_, t_ (iB (X.getD 0 0)), w_ 1, o_, t_ (iB (X.getD 1 0)), w_ 1, o_, t_ (iB (X.getD 2 0)), w_ 1, o_, t_ (sB ((X.take 11).drop 3)), t_ (iW (leS (X.drop 3) 8)), o_, t_ (sB (X.drop 11)), o_, o_] [b_ 0] [3, 2, 0, 4] (fun nb => [0 < (bs X).size, (nl (bs X)).getD 0 0 = X.getD 0 0, (X.getD 0 0) < 9223372036854775808, 1 < (bs X).size, (nl (bs X)).getD 1 0 = X.getD 1 0, (X.getD 1 0) < 9223372036854775808, 2 < (bs X).size, (nl (bs X)).getD 2 0 = X.getD 2 0, (X.getD 2 0) < 9223372036854775808, 3 ≤ 11, 11 ≤ (bs X).size, Value.string ((bs X).extract 3 11) = sB ((X.take 11).drop 3), CallP Try.prog 18 [sB ((X.take 11).drop 3)] [] (iW (leS (X.drop 3) 8)), 11 ≤ (bs X).size, 0 ≤ (bs X).size, Value.string ((bs X).extract 11 (bs X).size) = sB (X.drop 11)]) (fun nb Kt => (nb 15) = (nb 15) ∧ (#[iN 0, iN 0, iN 0, iW 0, sB []] : Array Value).size = 5 ∧ (#[iN (X.getD 0 0), iN (X.getD 1 0), iN (X.getD 2 0), iW (leS (X.drop 3) 8), sB (X.drop 11)] : Array Value).size = 5 ∧ (#[iN (X.getD 0 0), iN (X.getD 1 0), iN (X.getD 2 0), iW (leS (X.drop 3) 8), sB (X.drop 11)] : Array Value).all (·.oneCell') = true ∧ (0, 0).2 = 0 ∧ Kt [(4, pT (nb 15)), (3, iN 0), (2, pT br), (0, sB X)] [((nb 15), oC #[iN (X.getD 0 0), iN (X.getD 1 0), iN (X.getD 2 0), iW (leS (X.drop 3) 8), sB (X.drop 11)] 24), (br, oC #[iN 0, iN 0, iN 0, iW 0, sB []] 24)]) (by kernel_rfl) (by kernel_rfl) (by kernel_rfl) (fun _ => by kernel_rfl) (fun _ _ => by kernel_rfl) ⟨⟨_, rfl⟩, rfl, trivial⟩ (fun nb => ⟨(by simp only [bs_size]; omega), (byte_bs hX _), (by have := hX 0; omega), (by simp only [bs_size]; omega), (byte_bs hX _), (by have := hX 1; omega), (by simp only [bs_size]; omega), (byte_bs hX _), (by have := hX 2; omega), by omega, (by simp only [bs_size]; omega), (vS2 (bs_extract _ _ _)), (callP_of en_number (fun w => by have h0 := number_any ((X.take 11).drop 3) hlt11 hl8 w; rw [cut8 X] at h0; exact h0) _), (by simp only [bs_size]; omega), (Nat.zero_le _), (vS2 (bs_from _ _)), trivial⟩) (fun nb => ⟨rfl, rfl, rfl, (by kernel_rfl), rfl, fun _ _ FF4 MM4 => then_n ?_⟩))
    generalize nb 15 = bf at *
    refine wp_seq ?_
    by_cases hm : mayF (X.getD 0 0 : Nat) (X.getD 1 0 : Nat) (X.getD 2 0 : Nat) (X.drop 11)
    · skip
      have hF : IsF X := ⟨by omega, hm⟩
      refine wp_seq (rg_c FF4 MM4 [(0, b_ 0), (0, t_ (.bool true))] 5 [26] [] (⟨rfl, rfl, (callP_of en_may (may_any ((X.getD 0 0 : Nat) : Int) ((X.getD 1 0 : Nat) : Int) ((X.getD 2 0 : Nat) : Int) (leS (X.drop 3) 8) (X.drop 11) true (iff_of_true hm rfl)) _), fun _ _ FF5 MM5 => then_n ?_⟩))
      refine wp_cond_false (FF5.ev 0 rfl) ?_
      refine wp_skip ?_
      refine then_n ?_
      refine wp_seq (rg_c FF5 MM5 [(1, l_ 0 (sB (X.drop 11))), (0, t_ (sB (X.drop 11))), (1, s_ 0 (oC #[iN (X.getD 0 0), iN (X.getD 1 0), iN (X.getD 2 0), iW (leS (X.drop 3) 8), sB (X.drop 11)] 24))] 5 [] [] (⟨rfl, rfl, (callP_of en_clone (clone_any (X.drop 11) (drop_lt hX) (by rw [List.length_drop]; omega)) _), rfl, (by simp), (.inl rfl), rfl, fun _ _ FF6 MM6 => then_n ?_⟩))
      refine wp_seq (rg_c FF6 MM6 [(0, b_ 0), (0, b_ 1)] 5 [] [] (⟨rfl, rfl, rfl, rfl, rfl, (by kernel_rfl), rfl, fun _ _ FF7 MM7 => then_n ?_⟩))
      refine wp_ret ?_
      repeat first | refine then_ret ?_ | refine inb_ret ?_
      exact (ret_ct FF7 MM7 (k := 5) (i := 1) (j := 2) (m := 0) Try.results11 rfl rfl rfl Try.underlying24 rfl (by kernel_rfl) rfl ⟨by rw [decN_yes hF, decN_yes hF, decN_yes hF, decN_yes hF, decN_yes hF, decX_yes hF, at5_0, at5_1, at5_2, at5_3, at5_4]; try rfl, MM7.below⟩)
    · skip
      have hF : ¬ IsF X := fun q => hm q.2
      refine wp_seq (rg_c FF4 MM4 [(0, b_ 0), (0, t_ (.bool false))] 5 [26] [] (⟨rfl, rfl, (callP_of en_may (may_any ((X.getD 0 0 : Nat) : Int) ((X.getD 1 0 : Nat) : Int) ((X.getD 2 0 : Nat) : Int) (leS (X.drop 3) 8) (X.drop 11) false (iff_of_false hm (by decide))) _), fun _ _ FF8 MM8 => then_n ?_⟩))
      refine wp_cond_true (FF8.ev 0 rfl) ?_
      refine wp_seq (rg_c FF8 MM8 [(0, t_ (aG #[iN 0, iN 0, iN 0, iW 0, sB []])), (0, b_ 1)] 5 [] [] (⟨(by kernel_rfl), rfl, rfl, rfl, (by kernel_rfl), rfl, fun _ _ FF9 MM9 => then_n ?_⟩))
      refine wp_ret ?_
      repeat first | refine then_ret ?_ | refine inb_ret ?_
      exact (ret_ct FF9 MM9 (k := 5) (i := 1) (j := 2) (m := 0) Try.results11 rfl rfl rfl Try.underlying24 rfl (by kernel_rfl) rfl ⟨by rw [decN_no hF, decN_no hF, decN_no hF, decN_no hF, decN_no hF, decX_no hF]; try rfl, MM9.below⟩)
theorem dec_told {Y : List Nat} {a t k : Int} {r : Nat} {X : List Nat} (e : Y = encF a t k r X) (h : mayF a t k X) (hr : r < 18446744073709551616) (hY : ∀ i, Y.getD i 0 < 256) (hl : Y.length ≤ 1000000) (w : World) :
    Calls Try.prog 11 #[sB Y] w fun e w' => e = .returned (.tuple #[.agg #[.int .i64 a, .int .i64 t, .int .i64 k, iW r, sB X], iN 0]) ∧ Below w.heap.size w w' := by
  refine (dec_any Y hY hl w).mono fun e' w' ⟨h1, h2⟩ => ⟨h1.trans ?_, h2⟩
  obtain ⟨q0, q1, q2, q3, q4, q5⟩ := dec_encF h hr
  subst e
  simp only [iN, iW, sB]
  rw [q0, q1, q2, q3, q4, q5]
end Go.Proofs.Ytiekpglkkfllfaa
namespace Go.Proofs.Ytiekpglkkfllfaa
open Go.RowKit
theorem en_wakes : Enters Try.prog 8 := fun args w => by simp [go_sem]
theorem may1 : mayF ((1 : Nat) : Int) ((4 : Nat) : Int) ((1 : Nat) : Int) [] := by decide
theorem enc1 : encF ((1 : Nat) : Int) ((4 : Nat) : Int) ((1 : Nat) : Int) 1 [] = [1, 4, 1, 1, 0, 0, 0, 0, 0, 0, 0] := by decide
theorem may0 : ¬ mayF ((0 : Nat) : Int) ((0 : Nat) : Int) ((0 : Nat) : Int) [] := by decide
set_option maxRecDepth 100000 in
theorem wakes_any  (w0 : World) :
    Calls Try.prog 8 #[] w0 fun e w' => e = .returned (.bool true) ∧ Below w0.heap.size w0 w' := by
  refine enter_fr Try.func8 rfl Try.ntmps8 (by simp) fun ac (FF : Fr 54 ac []) => ?_
  have MM := MemS.start w0
  refine wp_seq (rg_c FF MM [] 1 [] [] (fun _ _ FF1 MM1 => then_n ?_))
  refine wp_seq (rg_c FF1 MM1 [(0, t_ (aG #[iN 1, iN 4, iN 1, iW 1, sB []])), (1, b_ 0)] 2 [] [] (⟨(by kernel_rfl), fun b1 => ⟨rfl, rfl, rfl, (by kernel_rfl), rfl, fun _ _ FF2 MM2 => then_n ?_⟩⟩))
  refine wp_seq (rg_c FF2 MM2 [(0, b_ 0), (0, t_ (.tuple #[sB ([1, 4, 1, 1, 0, 0, 0, 0, 0, 0, 0]), iN 0]))] 4 [] [] (⟨rfl, rfl, (callP_of en_enc (fun w => by have h0 := enc_any ((1 : Nat) : Int) ((4 : Nat) : Int) ((1 : Nat) : Int) 1 [] (by decide) w; rw [encR_yes may1, enc1] at h0; exact h0) _), fun _ _ FF3 MM3 => then_n ?_⟩))
  refine wp_seq (rg_c FF3 MM3 [(1, t_ (.tuple #[aG #[iN 1, iN 4, iN 1, iW 1, sB []], iN 0])), (4, b_ 0)] 6 [] [] (⟨(callP_of en_dec (dec_told enc1.symm may1 (by decide) (lit_lt (by kernel_rfl)) (by decide)) _), fun b2 => ⟨rfl, rfl, rfl, (by kernel_rfl), rfl, fun _ _ FF4 MM4 => then_n ?_⟩⟩))
  refine wp_seq (rg_c FF4 MM4 [(0, t_ (.tuple #[iN 0, .bool true]))] 8 [] [] (⟨(callP_of en_user (by have h0 := user_any ((4 : Nat) : Int); rw [usrZ_yes (by decide), show decide (4 ≤ ((4 : Nat) : Int) ∧ ((4 : Nat) : Int) < 10) = true from decide_eq_true (by decide)] at h0; exact h0) _), fun _ _ FF5 MM5 => then_n ?_⟩))
  refine wp_seq (rg_c FF5 MM5 [(1, w_ 2), (2, w_ 2), (2, b_ 1), (0, b_ 0), (0, f_ (.bool true)), (3, w_ 2), (3, w_ 2), (5, b_ 1), (0, t_ (.bool true)), (2, t_ (aG #[iN 0, iN 0, iN 0, iW 0, sB []])), (0, t_ (.bool false))] 3 [4] [] (⟨by decide, by decide, rfl, rfl, rfl, rfl, (eqF_ok (t := 24) (t' := 24) (x := (.tmp 30)) (y := (.tmp 31)) (p := (((1 : Nat) : Int) = ((1 : Nat) : Int) ∧ ((4 : Nat) : Int) = ((4 : Nat) : Int) ∧ ((1 : Nat) : Int) = ((1 : Nat) : Int) ∧ ((1 : Nat) : Int) = ((1 : Nat) : Int) ∧ bs [] = bs [] ∧ True)) (by kernel_rfl) Try.underlying24 (by kernel_rfl) (by kernel_rfl) rfl rfl (by kernel_rfl) (iff_of_true ⟨rfl, rfl, rfl, rfl, rfl, trivial⟩ rfl)), rfl, by decide, rfl, rfl, (callP_of en_may (may_any ((1 : Nat) : Int) ((4 : Nat) : Int) ((1 : Nat) : Int) 1 [] true (iff_of_true may1 rfl)) _), (by kernel_rfl), (callP_of en_may (may_any ((0 : Nat) : Int) ((0 : Nat) : Int) ((0 : Nat) : Int) 0 [] false (iff_of_false may0 (by decide))) _), fun _ _ FF6 MM6 => then_n ?_⟩))
  refine wp_ret ?_
  repeat first | refine then_ret ?_ | refine inb_ret ?_
  exact (ret_fr FF6 0 Try.results8 rfl ⟨rfl, MM6.below⟩)
end Go.Proofs.Ytiekpglkkfllfaa
namespace Go.Proofs.Ytiekpglkkfllfaa
open Go.RowKit
set_option maxHeartbeats 1000000 in
set_option maxRecDepth 100000 in
theorem apart_any (a t k : Int) (r : Nat) (hr : r < 18446744073709551616) (X : List Nat) (hX : ∀ i, X.getD i 0 < 256) (au tu ku : Int) (ru : Nat) (hru : ru < 18446744073709551616) (Xu : List Nat) (hXu : ∀ i, Xu.getD i 0 < 256)  (w0 : World) :
    Calls Try.prog 6 #[.agg #[.int .i64 a, .int .i64 t, .int .i64 k, iW r, sB X], .agg #[.int .i64 au, .int .i64 tu, .int .i64 ku, iW ru, sB Xu]] w0 fun e w' => e = .returned (.bool true) ∧ Below w0.heap.size w0 w' := by
  refine enter_fr Try.func6 rfl Try.ntmps6 (by simp) fun ac (FF : Fr 63 ac [(0, aG #[.int .i64 (a : Int), .int .i64 (t : Int), .int .i64 (k : Int), iW r, sB X]), (1, aG #[.int .i64 (au : Int), .int .i64 (tu : Int), .int .i64 (ku : Int), iW ru, sB Xu])]) => ?_
  have MM := MemS.start w0
  refine wp_seq (rg_c FF MM [] 5 [] [0, 1] (fun bf => fun bg => fun _ _ FF1 MM1 => then_n ?_))
  refine wp_seq ?_
  by_cases a1 : X.length > 400
  · skip
    refine wp_seq (rg_c FF1 MM1 [(1, l_ 1 (sB X)), (0, t_ (iN X.length)), (0, w_ 2)] 5 [18] [] (⟨rfl, rfl, (vI (bs_size _)), a1, fun _ _ FF2 MM2 => then_n ?_⟩))
    refine wp_cond_true (FF2.ev 0 rfl) ?_
    refine wp_seq (rg_c FF2 MM2 [(0, t_ (.bool true))] 5 [] [] (⟨(callP_of en_wakes wakes_any _), fun _ _ FF3 MM3 => then_n ?_⟩))
    refine wp_ret ?_
    repeat first | refine then_ret ?_ | refine inb_ret ?_
    exact (ret_fr FF3 0 Try.results6 rfl ⟨rfl, MM3.below⟩)
  by_cases a2 : Xu.length > 400
  · skip
    refine wp_seq (rg_c FF1 MM1 [(1, l_ 1 (sB X)), (0, t_ (iN X.length)), (0, w_ 3), (2, l_ 0 (sB Xu)), (0, t_ (iN Xu.length)), (0, w_ 2)] 5 [18] [] (⟨rfl, rfl, (vI (bs_size _)), a1, rfl, rfl, (vI (bs_size _)), a2, fun _ _ FF4 MM4 => then_n ?_⟩))
    refine wp_cond_true (FF4.ev 0 rfl) ?_
    refine wp_seq (rg_c FF4 MM4 [(0, t_ (.bool true))] 5 [] [] (⟨(callP_of en_wakes wakes_any _), fun _ _ FF5 MM5 => then_n ?_⟩))
    refine wp_ret ?_
    repeat first | refine then_ret ?_ | refine inb_ret ?_
    exact (ret_fr FF5 0 Try.results6 rfl ⟨rfl, MM5.below⟩)
  refine wp_seq (rg_c FF1 MM1 [(1, l_ 1 (sB X)), (0, t_ (iN X.length)), (0, w_ 3), (2, l_ 0 (sB Xu)), (0, t_ (iN Xu.length)), (0, w_ 3)] 5 [18] [] (⟨rfl, rfl, (vI (bs_size _)), a1, rfl, rfl, (vI (bs_size _)), a2, fun _ _ FF6 MM6 => then_n ?_⟩))
  refine wp_cond_false (FF6.ev 0 rfl) ?_
  refine wp_skip ?_
  refine then_n ?_
  by_cases hm : mayF a t k X
  · skip
    refine wp_seq (rg_c FF6 MM6 [(0, b_ 1), (0, t_ (.tuple #[sB (encF a t k r X), iN 0]))] 7 [] [] (⟨rfl, rfl, (callP_of en_enc (fun w => by have h0 := enc_any a t k r X (by have := hr; omega) w; rw [encR_yes hm] at h0; exact h0) _), fun _ _ FF7 MM7 => then_n ?_⟩))
    by_cases hn : mayF au tu ku Xu
    · skip
      refine wp_seq (rg_c FF7 MM7 [(0, b_ 0), (0, t_ (.tuple #[sB (encF au tu ku ru Xu), iN 0]))] 9 [] [] (⟨rfl, rfl, (callP_of en_enc (fun w => by have h0 := enc_any au tu ku ru Xu (by have := hru; omega) w; rw [encR_yes hn] at h0; exact h0) _), fun _ _ FF8 MM8 => then_n ?_⟩))
      refine wp_seq ?_
      refine wp_seq (rg_c FF8 MM8 [(1, w_ 3), (2, w_ 3)] 9 [35] [] (⟨by decide, by decide, fun _ _ FF9 MM9 => then_n ?_⟩))
      refine wp_cond_false (FF9.ev 0 rfl) ?_
      refine wp_skip ?_
      refine then_n ?_
      by_cases he : encF a t k r X = encF au tu ku ru Xu
      · skip
        have hq : (a : Int) = au ∧ t = tu ∧ k = ku ∧ ((r : Nat) : Int) = ((ru : Nat) : Int) ∧ bs X = bs Xu ∧ True := by obtain ⟨q1, q2, q3, q4, q5⟩ := encF_inj hm hn hr hru he; exact ⟨q1, q2, q3, by rw [q4], by rw [q5], trivial⟩
        refine wp_seq (rg_c FF9 MM9 [(2, w_ 2), (0, b_ 1), (0, b_ 0), (0, f_ (.bool true)), (0, f_ (.bool true)), (1, t_ (.bool true))] 9 [] [] (⟨(congrArg bs he), rfl, rfl, rfl, rfl, (eqF_ok (t := 24) (t' := 24) (x := (.tmp 56)) (y := (.tmp 57)) (p := ((a : Int) = (au : Int) ∧ (t : Int) = (tu : Int) ∧ (k : Int) = (ku : Int) ∧ ((r : Nat) : Int) = ((ru : Nat) : Int) ∧ bs X = bs Xu ∧ True)) (by kernel_rfl) Try.underlying24 (by kernel_rfl) (by kernel_rfl) rfl rfl (by kernel_rfl) (iff_of_true hq rfl)), (eqB_ok (t := 4) (t' := 4) (x := (.tmp 55)) (y := (.tmp 58)) (p := true) (q := true) (by kernel_rfl) Try.underlying4 rfl rfl), (callP_of en_wakes wakes_any _), fun _ _ FF10 MM10 => then_n ?_⟩))
        refine wp_ret ?_
        repeat first | refine then_ret ?_ | refine inb_ret ?_
        exact (ret_fr FF10 0 Try.results6 rfl ⟨rfl, MM10.below⟩)
      · skip
        have hq : ¬ ((a : Int) = au ∧ t = tu ∧ k = ku ∧ ((r : Nat) : Int) = ((ru : Nat) : Int) ∧ bs X = bs Xu ∧ True) := fun ⟨q1, q2, q3, q4, q5, _⟩ => he (by rw [q1, q2, q3, Int.ofNat.inj q4, bs_inj hX hXu q5])
        refine wp_seq (rg_c FF9 MM9 [(2, w_ 3), (0, b_ 1), (0, b_ 0), (0, f_ (.bool false)), (0, f_ (.bool true)), (1, t_ (.bool true))] 9 [] [] (⟨(fun h => he (bs_inj (encF_lt hm r hX) (encF_lt hn ru hXu) h)), rfl, rfl, rfl, rfl, (eqF_ok (t := 24) (t' := 24) (x := (.tmp 56)) (y := (.tmp 57)) (p := ((a : Int) = (au : Int) ∧ (t : Int) = (tu : Int) ∧ (k : Int) = (ku : Int) ∧ ((r : Nat) : Int) = ((ru : Nat) : Int) ∧ bs X = bs Xu ∧ True)) (by kernel_rfl) Try.underlying24 (by kernel_rfl) (by kernel_rfl) rfl rfl (by kernel_rfl) (iff_of_false hq (by decide))), (eqB_ok (t := 4) (t' := 4) (x := (.tmp 55)) (y := (.tmp 58)) (p := false) (q := false) (by kernel_rfl) Try.underlying4 rfl rfl), (callP_of en_wakes wakes_any _), fun _ _ FF11 MM11 => then_n ?_⟩))
        refine wp_ret ?_
        repeat first | refine then_ret ?_ | refine inb_ret ?_
        exact (ret_fr FF11 0 Try.results6 rfl ⟨rfl, MM11.below⟩)
    · skip
      refine wp_seq (rg_c FF7 MM7 [(0, b_ 0), (0, t_ (.tuple #[sB [], iN 5]))] 9 [] [] (⟨rfl, rfl, (callP_of en_enc (fun w => by have h0 := enc_any au tu ku ru Xu (by have := hru; omega) w; rw [encR_no hn] at h0; exact h0) _), fun _ _ FF12 MM12 => then_n ?_⟩))
      refine wp_seq ?_
      refine wp_seq (rg_c FF12 MM12 [(1, w_ 3), (2, w_ 2)] 9 [35] [] (⟨by decide, by decide, fun _ _ FF13 MM13 => then_n ?_⟩))
      refine wp_cond_true (FF13.ev 0 rfl) ?_
      refine wp_seq (rg_c FF13 MM13 [(1, w_ 2), (6, w_ 3), (2, w_ 2), (3, t_ (.bool true))] 9 [] [] (⟨by decide, by decide, rfl, (callP_of en_wakes wakes_any _), fun _ _ FF14 MM14 => then_n ?_⟩))
      refine wp_ret ?_
      repeat first | refine then_ret ?_ | refine inb_ret ?_
      exact (ret_fr FF14 0 Try.results6 rfl ⟨rfl, MM14.below⟩)
  · skip
    refine wp_seq (rg_c FF6 MM6 [(0, b_ 1), (0, t_ (.tuple #[sB [], iN 5]))] 7 [] [] (⟨rfl, rfl, (callP_of en_enc (fun w => by have h0 := enc_any a t k r X (by have := hr; omega) w; rw [encR_no hm] at h0; exact h0) _), fun _ _ FF15 MM15 => then_n ?_⟩))
    by_cases hn : mayF au tu ku Xu
    · skip
      refine wp_seq (rg_c FF15 MM15 [(0, b_ 0), (0, t_ (.tuple #[sB (encF au tu ku ru Xu), iN 0]))] 9 [] [] (⟨rfl, rfl, (callP_of en_enc (fun w => by have h0 := enc_any au tu ku ru Xu (by have := hru; omega) w; rw [encR_yes hn] at h0; exact h0) _), fun _ _ FF16 MM16 => then_n ?_⟩))
      refine wp_seq ?_
      refine wp_seq (rg_c FF16 MM16 [(1, w_ 2)] 9 [35] [] (⟨by decide, fun _ _ FF17 MM17 => then_n ?_⟩))
      refine wp_cond_true (FF17.ev 0 rfl) ?_
      refine wp_seq (rg_c FF17 MM17 [(1, w_ 3), (2, w_ 2), (3, w_ 2), (6, t_ (.bool true))] 9 [] [] (⟨by decide, rfl, by decide, (callP_of en_wakes wakes_any _), fun _ _ FF18 MM18 => then_n ?_⟩))
      refine wp_ret ?_
      repeat first | refine then_ret ?_ | refine inb_ret ?_
      exact (ret_fr FF18 0 Try.results6 rfl ⟨rfl, MM18.below⟩)
    · skip
      refine wp_seq (rg_c FF15 MM15 [(0, b_ 0), (0, t_ (.tuple #[sB [], iN 5]))] 9 [] [] (⟨rfl, rfl, (callP_of en_enc (fun w => by have h0 := enc_any au tu ku ru Xu (by have := hru; omega) w; rw [encR_no hn] at h0; exact h0) _), fun _ _ FF19 MM19 => then_n ?_⟩))
      refine wp_seq ?_
      refine wp_seq (rg_c FF19 MM19 [(1, w_ 2)] 9 [35] [] (⟨by decide, fun _ _ FF20 MM20 => then_n ?_⟩))
      refine wp_cond_true (FF20.ev 0 rfl) ?_
      refine wp_seq (rg_c FF20 MM20 [(1, w_ 3), (2, w_ 2), (3, w_ 3), (2, w_ 2), (3, t_ (.bool true))] 9 [] [] (⟨by decide, rfl, by decide, rfl, (callP_of en_wakes wakes_any _), fun _ _ FF21 MM21 => then_n ?_⟩))
      refine wp_ret ?_
      repeat first | refine then_ret ?_ | refine inb_ret ?_
      exact (ret_fr FF21 0 Try.results6 rfl ⟨rfl, MM21.below⟩)
end Go.Proofs.Ytiekpglkkfllfaa
