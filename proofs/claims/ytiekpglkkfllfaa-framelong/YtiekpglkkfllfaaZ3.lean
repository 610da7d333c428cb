/- Several texts in one: Package frame: Decode; the document's. The laws of frames: wakes. The law FrameLong. -/
import Derived.Test.YtiekpglkkfllfaaZ2
namespace Go.Proofs.Ytiekpglkkfllfaa
open Go.RowKit
set_option maxRecDepth 100000 in
theorem number_any (X : List Nat) (hX : ∀ i, X.getD i 0 < 256) (hl : X.length = 8) (w0 : World) :
    Calls Try.prog 18 #[sB X] w0 fun e w' => e = .returned (iW (leS X 8)) ∧ Below w0.heap.size w0 w' := by
  refine enter_fr Try.func18 rfl Try.ntmps18 (by simp) fun ac (FF : Fr 21 ac [(0, sB X)]) => ?_
  have MM := MemS.start w0
  refine wp_seq (rg_c FF MM [] 3 [] [] (fun _ _ FF1 MM1 => then_n ?_))
  refine wp_seq (rg_c FF1 MM1 [] 4 [] [] (fun _ _ FF2 MM2 => then_n ?_))
  refine wp_seq ?_
  refine wp_seq (rg_c FF2 MM2 [(1, t_ (iN X.length))] 8 [] [5] (⟨(vI (bs_size _)), fun _ _ FF3 MM3 => then_n ?_⟩))
  refine wp_for (fun a' w' => ∃ i : Nat, i ≤ 8 ∧ Fr 21 a' [(7, iN i), (6, iN X.length), (3, iW (leS X i)), (2, iW 0), (0, sB X)] ∧ MemS (fun k => k < w0.heap.size) w0 w' [] []) (fun a' _ => (8 - cnt 7 a').toNat) ⟨0, Nat.zero_le _, FF3.pick [0, 1, 2, 3, 4], MM3⟩ ?_
  rintro ac4 wd4 ⟨i, hi, FF4, MM4⟩
  have hc := cnt_of (FF4.get 0 rfl)
  refine rg_c FF4 MM4 [] 9 [] [] (fun _ _ FF5 MM5 => ?_)
  by_cases hlt : i < X.length
  · skip
    refine then_n (.inl ⟨(FF5.ev 0 rfl).trans (dec_t hlt), ?_⟩)
    refine wp_seq (rg_c FF5 MM5 [] 8 [] [] (fun _ _ FF6 MM6 => then_n ?_))
    refine rg_c FF6 MM6 [(3, t_ (iB (X.getD i 0))), (0, w_ 1), (2, t_ (iW (X.getD i 0 * 2 ^ (8 * i)))), (0, t_ (iW (leS X (i + 1))))] 8 [] [] (⟨(by simp only [bs_size]; omega), (byte_bs hX _), (by have := hX i; omega), by omega, (vI (Nat.mod_eq_of_lt (leS_fit hX (by omega)))), (leS_low hX hi), (leS_fit hX (by omega)), (vI (leS_or hX i)), fun _ _ FF7 MM7 => ?_⟩)
    refine inb_n (then_n ?_)
    refine rg_c FF7 MM7 [] 8 [] [] (⟨by omega, fun _ _ FF8 MM8 => ?_⟩)
    have hd := cnt_of (FF8.get 0 rfl)
    refine then_n ⟨⟨i + 1, by omega, FF8.pick [0, 3, 1, 4, 5], MM8⟩, ?_⟩
    rw [hc, hd]; omega
  · skip
    refine then_n (.inr ⟨(FF5.ev 0 rfl).trans (dec_f hlt), ?_⟩)
    obtain rfl : i = 8 := by omega
    refine then_n ?_
    refine wp_seq (rg_c FF5 MM5 [] 8 [] [] (fun _ _ FF9 MM9 => then_n ?_))
    refine wp_ret ?_
    repeat first | refine then_ret ?_ | refine inb_ret ?_
    exact (ret_fr FF9 0 Try.results18 rfl ⟨rfl, MM9.below⟩)
set_option maxRecDepth 100000 in
theorem dec_any (X : List Nat) (hX : ∀ i, X.getD i 0 < 256) (hl : X.length ≤ 1000000) (w0 : World) :
    Calls Try.prog 11 #[sB X] w0 fun e w' => e = .returned (.tuple #[.agg #[iN (decN X 0), iN (decN X 1), iN (decN X 2), iW (decN X 3), sB (decX X)], iN (decN X 4)]) ∧ Below w0.heap.size w0 w' := by
  refine enter_fr Try.func11 rfl Try.ntmps11 (by simp) fun ac (FF : Fr 33 ac [(0, sB X)]) => ?_
  have MM := MemS.start w0
  refine wp_seq (rg_c FF MM [] 4 [] [] (fun br => fun _ _ FF1 MM1 => then_n ?_))
  refine wp_seq ?_
  refine wp_seq (rg_c FF1 MM1 [(1, t_ (iN X.length))] 4 [7] [] (⟨(vI (bs_size _)), fun _ _ FF2 MM2 => then_n ?_⟩))
  by_cases hs7 : X.length < 11
  · refine wp_cond_true ((FF2.ev 0 rfl).trans (dec_t hs7)) ?_
    have hF : ¬ IsF X := fun q => by have := q.1; omega
    refine wp_seq (rg_c FF2 MM2 [(0, t_ (aG #[iN 0, iN 0, iN 0, iW 0, sB []])), (0, b_ 0)] 4 [] [] (⟨(by kernel_rfl), rfl, rfl, rfl, (by kernel_rfl), rfl, fun _ _ FF3 MM3 => then_n ?_⟩))
    refine wp_ret ?_
    repeat first | refine then_ret ?_ | refine inb_ret ?_
    exact (ret_ct FF3 MM3 (k := 5) (i := 0) (j := 1) (m := 0) Try.results11 rfl rfl rfl Try.underlying24 rfl (by kernel_rfl) rfl ⟨by rw [decN_no hF, decN_no hF, decN_no hF, decN_no hF, decN_no hF, decX_no hF]; try rfl, MM3.below⟩)
  · refine wp_cond_false ((FF2.ev 0 rfl).trans (dec_f hs7)) ?_
    refine wp_skip ?_
    refine then_n ?_
    have hlt11 : ∀ i, ((X.take 11).drop 3).getD i 0 < 256 := drop_lt (take_lt hX)
    have hl8 : ((X.take 11).drop 3).length = 8 := by rw [List.length_drop, List.length_take]; omega
    refine wp_seq (rg_draw FF2 MM2 [.inl (sB X), .inl (iB (X.getD 0 0)), .inl (iN (X.getD 0 0)), .inl (sB X), .inl (iB (X.getD 1 0)), .inl (iN (X.getD 1 0)), .inl (sB X), .inl (iB (X.getD 2 0)), .inl (iN (X.getD 2 0)), .inl (sB X), .inl (sB ((X.take 11).drop 3)), .inl (iW (leS (X.drop 3) 8)), .inl (sB X), .inl (sB (X.drop 11)), .inl (aG #[iN (X.getD 0 0), iN (X.getD 1 0), iN (X.getD 2 0), iW (leS (X.drop 3) 8), sB (X.drop 11)]), .inr (oC #[iN 0, iN 0, iN 0, iW 0, sB []] 24, fun b => pT b)] [15] [o_, t_ (iB (X.getD 0 0)), w_ 1, o_, t_ (iB (X.getD 1 0)), w_ 1, o_, t_ (iB (X.getD 2 0)), w_ 1, o_, t_ (sB ((X.take 11).drop 3)), t_ (iW (leS (X.drop 3) 8)), o_, t_ (sB (X.drop 11)), o_, o_] [b_ 0] [3, 2, 0, 4] (fun nb => [0 < (bs X).size, (nl (bs X)).getD 0 0 = X.getD 0 0, (X.getD 0 0) < 9223372036854775808, 1 < (bs X).size, (nl (bs X)).getD 1 0 = X.getD 1 0, (X.getD 1 0) < 9223372036854775808, 2 < (bs X).size, (nl (bs X)).getD 2 0 = X.getD 2 0, (X.getD 2 0) < 9223372036854775808, 3 ≤ 11, 11 ≤ (bs X).size, Value.string ((bs X).extract 3 11) = sB ((X.take 11).drop 3), CallP Try.prog 18 [sB ((X.take 11).drop 3)] [] (iW (leS (X.drop 3) 8)), 11 ≤ (bs X).size, 0 ≤ (bs X).size, Value.string ((bs X).extract 11 (bs X).size) = sB (X.drop 11)]) (fun nb Kt => (nb 15) = (nb 15) ∧ (#[iN 0, iN 0, iN 0, iW 0, sB []] : Array Value).size = 5 ∧ (#[iN (X.getD 0 0), iN (X.getD 1 0), iN (X.getD 2 0), iW (leS (X.drop 3) 8), sB (X.drop 11)] : Array Value).size = 5 ∧ (#[iN (X.getD 0 0), iN (X.getD 1 0), iN (X.getD 2 0), iW (leS (X.drop 3) 8), sB (X.drop 11)] : Array Value).all (·.oneCell') = true ∧ (0, 0).2 = 0 ∧ Kt [(4, pT (nb 15)), (3, iN 0), (2, pT br), (0, sB X)] [((nb 15), oC #[iN (X.getD 0 0), iN (X.getD 1 0), iN (X.getD 2 0), iW (leS (X.drop 3) 8), sB (X.drop 11)] 24), (br, oC #[iN 0, iN 0, iN 0, iW 0, sB []] 24)]) (by kernel_rfl) (by kernel_rfl) (by kernel_rfl) (fun _ => by kernel_rfl) (fun _ _ => by kernel_rfl) ⟨⟨_, rfl⟩, rfl, trivial⟩ (fun nb => ⟨(by simp only [bs_size]; omega), (byte_bs hX _), (by have := hX 0; omega), (by simp only [bs_size]; omega), (byte_bs hX _), (by have := hX 1; omega), (by simp only [bs_size]; omega), (byte_bs hX _), (by have := hX 2; omega), by omega, (by simp only [bs_size]; omega), (vS2 (bs_extract _ _ _)), (callP_of en_number (fun w => by have h0 := number_any ((X.take 11).drop 3) hlt11 hl8 w; rw [cut8 X] at h0; exact h0) _), (by simp only [bs_size]; omega), (Nat.zero_le _), (vS2 (bs_from _ _)), trivial⟩) (fun nb => ⟨rfl, rfl, rfl, (by kernel_rfl), rfl, fun _ _ FF4 MM4 => then_n ?_⟩))
    generalize nb 15 = bf at *
    refine wp_seq ?_
    by_cases hm : mayF (X.getD 0 0 : Nat) (X.getD 1 0 : Nat) (X.getD 2 0 : Nat) (X.drop 11)
    · skip
      have hF : IsF X := ⟨by omega, hm⟩
      refine wp_seq (rg_c FF4 MM4 [(0, b_ 0), (0, t_ (.bool true))] 5 [26] [] (⟨rfl, rfl, (callP_of en_may (may_any ((X.getD 0 0 : Nat) : Int) ((X.getD 1 0 : Nat) : Int) ((X.getD 2 0 : Nat) : Int) (leS (X.drop 3) 8) (X.drop 11) true (iff_of_true hm rfl)) _), fun _ _ FF5 MM5 => then_n ?_⟩))
      refine wp_cond_false (FF5.ev 0 rfl) ?_
      refine wp_skip ?_
      refine then_n ?_
      refine wp_seq (rg_c FF5 MM5 [(1, l_ 0 (sB (X.drop 11))), (0, t_ (sB (X.drop 11))), (1, s_ 0 (oC #[iN (X.getD 0 0), iN (X.getD 1 0), iN (X.getD 2 0), iW (leS (X.drop 3) 8), sB (X.drop 11)] 24))] 5 [] [] (⟨rfl, rfl, (callP_of en_clone (clone_any (X.drop 11) (drop_lt hX) (by rw [List.length_drop]; omega)) _), rfl, (by simp), (.inl rfl), rfl, fun _ _ FF6 MM6 => then_n ?_⟩))
      refine wp_seq (rg_c FF6 MM6 [(0, b_ 0), (0, b_ 1)] 5 [] [] (⟨rfl, rfl, rfl, rfl, rfl, (by kernel_rfl), rfl, fun _ _ FF7 MM7 => then_n ?_⟩))
      refine wp_ret ?_
      repeat first | refine then_ret ?_ | refine inb_ret ?_
      exact (ret_ct FF7 MM7 (k := 5) (i := 1) (j := 2) (m := 0) Try.results11 rfl rfl rfl Try.underlying24 rfl (by kernel_rfl) rfl ⟨by rw [decN_yes hF, decN_yes hF, decN_yes hF, decN_yes hF, decN_yes hF, decX_yes hF, at5_0, at5_1, at5_2, at5_3, at5_4]; try rfl, MM7.below⟩)
    · skip
      have hF : ¬ IsF X := fun q => hm q.2
      refine wp_seq (rg_c FF4 MM4 [(0, b_ 0), (0, t_ (.bool false))] 5 [26] [] (⟨rfl, rfl, (callP_of en_may (may_any ((X.getD 0 0 : Nat) : Int) ((X.getD 1 0 : Nat) : Int) ((X.getD 2 0 : Nat) : Int) (leS (X.drop 3) 8) (X.drop 11) false (iff_of_false hm (by decide))) _), fun _ _ FF8 MM8 => then_n ?_⟩))
      refine wp_cond_true (FF8.ev 0 rfl) ?_
      refine wp_seq (rg_c FF8 MM8 [(0, t_ (aG #[iN 0, iN 0, iN 0, iW 0, sB []])), (0, b_ 1)] 5 [] [] (⟨(by kernel_rfl), rfl, rfl, rfl, (by kernel_rfl), rfl, fun _ _ FF9 MM9 => then_n ?_⟩))
      refine wp_ret ?_
      repeat first | refine then_ret ?_ | refine inb_ret ?_
      exact (ret_ct FF9 MM9 (k := 5) (i := 1) (j := 2) (m := 0) Try.results11 rfl rfl rfl Try.underlying24 rfl (by kernel_rfl) rfl ⟨by rw [decN_no hF, decN_no hF, decN_no hF, decN_no hF, decN_no hF, decX_no hF]; try rfl, MM9.below⟩)
theorem dec_told {Y : List Nat} {a t k : Int} {r : Nat} {X : List Nat} (e : Y = encF a t k r X) (h : mayF a t k X) (hr : r < 18446744073709551616) (hY : ∀ i, Y.getD i 0 < 256) (hl : Y.length ≤ 1000000) (w : World) :
    Calls Try.prog 11 #[sB Y] w fun e w' => e = .returned (.tuple #[.agg #[.int .i64 a, .int .i64 t, .int .i64 k, iW r, sB X], iN 0]) ∧ Below w.heap.size w w' := by
  refine (dec_any Y hY hl w).mono fun e' w' ⟨h1, h2⟩ => ⟨h1.trans ?_, h2⟩
  obtain ⟨q0, q1, q2, q3, q4, q5⟩ := dec_encF h hr
  subst e
  simp only [iN, iW, sB]
  rw [q0, q1, q2, q3, q4, q5]
end Go.Proofs.Ytiekpglkkfllfaa
namespace Go.Proofs.Ytiekpglkkfllfaa
open Go.RowKit
theorem en_wakes : Enters Try.prog 8 := fun args w => by simp [go_sem]
theorem may1 : mayF ((1 : Nat) : Int) ((4 : Nat) : Int) ((1 : Nat) : Int) [] := by decide
theorem enc1 : encF ((1 : Nat) : Int) ((4 : Nat) : Int) ((1 : Nat) : Int) 1 [] = [1, 4, 1, 1, 0, 0, 0, 0, 0, 0, 0] := by decide
theorem may0 : ¬ mayF ((0 : Nat) : Int) ((0 : Nat) : Int) ((0 : Nat) : Int) [] := by decide
set_option maxRecDepth 100000 in
theorem wakes_any  (w0 : World) :
    Calls Try.prog 8 #[] w0 fun e w' => e = .returned (.bool true) ∧ Below w0.heap.size w0 w' := by
  refine enter_fr Try.func8 rfl Try.ntmps8 (by simp) fun ac (FF : Fr 54 ac []) => ?_
  have MM := MemS.start w0
  refine wp_seq (rg_c FF MM [] 1 [] [] (fun _ _ FF1 MM1 => then_n ?_))
  refine wp_seq (rg_c FF1 MM1 [(0, t_ (aG #[iN 1, iN 4, iN 1, iW 1, sB []])), (1, b_ 0)] 2 [] [] (⟨(by kernel_rfl), fun b1 => ⟨rfl, rfl, rfl, (by kernel_rfl), rfl, fun _ _ FF2 MM2 => then_n ?_⟩⟩))
  refine wp_seq (rg_c FF2 MM2 [(0, b_ 0), (0, t_ (.tuple #[sB ([1, 4, 1, 1, 0, 0, 0, 0, 0, 0, 0]), iN 0]))] 4 [] [] (⟨rfl, rfl, (callP_of en_enc (fun w => by have h0 := enc_any ((1 : Nat) : Int) ((4 : Nat) : Int) ((1 : Nat) : Int) 1 [] (by decide) w; rw [encR_yes may1, enc1] at h0; exact h0) _), fun _ _ FF3 MM3 => then_n ?_⟩))
  refine wp_seq (rg_c FF3 MM3 [(1, t_ (.tuple #[aG #[iN 1, iN 4, iN 1, iW 1, sB []], iN 0])), (4, b_ 0)] 6 [] [] (⟨(callP_of en_dec (dec_told enc1.symm may1 (by decide) (lit_lt (by kernel_rfl)) (by decide)) _), fun b2 => ⟨rfl, rfl, rfl, (by kernel_rfl), rfl, fun _ _ FF4 MM4 => then_n ?_⟩⟩))
  refine wp_seq (rg_c FF4 MM4 [(0, t_ (.tuple #[iN 0, .bool true]))] 8 [] [] (⟨(callP_of en_user (by have h0 := user_any ((4 : Nat) : Int); rw [usrZ_yes (by decide), show decide (4 ≤ ((4 : Nat) : Int) ∧ ((4 : Nat) : Int) < 10) = true from decide_eq_true (by decide)] at h0; exact h0) _), fun _ _ FF5 MM5 => then_n ?_⟩))
  refine wp_seq (rg_c FF5 MM5 [(1, w_ 2), (2, w_ 2), (2, b_ 1), (0, b_ 0), (0, f_ (.bool true)), (3, w_ 2), (3, w_ 2), (5, b_ 1), (0, t_ (.bool true)), (2, t_ (aG #[iN 0, iN 0, iN 0, iW 0, sB []])), (0, t_ (.bool false))] 3 [4] [] (⟨by decide, by decide, rfl, rfl, rfl, rfl, (eqF_ok (t := 24) (t' := 24) (x := (.tmp 30)) (y := (.tmp 31)) (p := (((1 : Nat) : Int) = ((1 : Nat) : Int) ∧ ((4 : Nat) : Int) = ((4 : Nat) : Int) ∧ ((1 : Nat) : Int) = ((1 : Nat) : Int) ∧ ((1 : Nat) : Int) = ((1 : Nat) : Int) ∧ bs [] = bs [] ∧ True)) (by kernel_rfl) Try.underlying24 (by kernel_rfl) (by kernel_rfl) rfl rfl (by kernel_rfl) (iff_of_true ⟨rfl, rfl, rfl, rfl, rfl, trivial⟩ rfl)), rfl, by decide, rfl, rfl, (callP_of en_may (may_any ((1 : Nat) : Int) ((4 : Nat) : Int) ((1 : Nat) : Int) 1 [] true (iff_of_true may1 rfl)) _), (by kernel_rfl), (callP_of en_may (may_any ((0 : Nat) : Int) ((0 : Nat) : Int) ((0 : Nat) : Int) 0 [] false (iff_of_false may0 (by decide))) _), fun _ _ FF6 MM6 => then_n ?_⟩))
  refine wp_ret ?_
  repeat first | refine then_ret ?_ | refine inb_ret ?_
  exact (ret_fr FF6 0 Try.results8 rfl ⟨rfl, MM6.below⟩)
end Go.Proofs.Ytiekpglkkfllfaa
namespace Go.Proofs.Ytiekpglkkfllfaa
open Go.RowKit
theorem repb_lt {b : Nat} (hb : b < 256) (k : Nat) : ∀ i, (List.replicate k b).getD i 0 < 256 := fun i => by
  rw [List.getD_eq_getElem?_getD, List.getElem?_replicate]
  split
  · exact hb
  · decide
theorem rb_len (b : Nat) {i N : Nat} (h : i ≤ N) : (List.replicate i b ++ List.replicate (N - i) 0).length = N := by rw [List.length_append, List.length_replicate, List.length_replicate]; omega
theorem rep_set (b : Nat) {i N : Nat} (h : i < N) : (List.replicate i b ++ List.replicate (N - i) 0).set i b = List.replicate (i + 1) b ++ List.replicate (N - (i + 1)) 0 := by
  rw [List.set_append_right _ _ (by rw [List.length_replicate]; exact Nat.le_refl _), List.length_replicate, Nat.sub_self, show N - i = N - (i + 1) + 1 by omega, List.replicate_succ, List.set_cons_zero, List.replicate_succ', List.append_assoc]
  rfl
set_option maxHeartbeats 1000000 in
set_option maxRecDepth 100000 in
theorem long_any (f t k n b : Nat) (hf : f < 256) (ht : t < 256) (hk : k < 256) (hn : n < 256) (hb : b < 256) (w0 : World) :
    Calls Try.prog 7 #[.agg #[iB f, iB t, iB k, iB n, iB b]] w0 fun e w' => e = .returned (.bool true) ∧ Below w0.heap.size w0 w' := by
  refine enter_fr Try.func7 rfl Try.ntmps7 (by simp) fun ac (FF : Fr 97 ac [(0, aG #[iB f, iB t, iB k, iB n, iB b])]) => ?_
  have MM := MemS.start w0
  refine wp_seq (rg_c FF MM [] 3 [] [0] (fun bi => fun _ _ FF1 MM1 => then_n ?_))
  refine wp_seq (rg_dc 15 FF1 MM1 [(1, l_ 0 (iB f)), (1, l_ 0 (iB t)), (1, l_ 0 (iB k)), (1, l_ 0 (iB n)), (1, l_ 0 (iB b))] [] 8 [] [1] (⟨rfl, rfl, rfl, rfl, rfl, rfl, rfl, rfl, rfl, rfl, fun _ _ FF2 MM2 => then_n ?_⟩))
  obtain ⟨a, ha⟩ : ∃ a, 1 + f % 3 = a := ⟨_, rfl⟩
  obtain ⟨c, hc⟩ : ∃ c, 4 + t % 6 = c := ⟨_, rfl⟩
  obtain ⟨d, hd⟩ : ∃ d, 1 + k % 6 = d := ⟨_, rfl⟩
  refine wp_seq (rg_c FF2 MM2 [(1, w_ 1), (1, t_ (iN a)), (1, w_ 1), (1, t_ (iN c)), (1, w_ 1), (1, t_ (iN d)), (0, t_ (aG #[iN a, iN c, iN d, iW 0, sB []])), (1, b_ 0)] 3 [7, 6, 8] [] (⟨(by have := hf; omega), by decide, (by have := hf; omega), (vI ha), (by have := ht; omega), by decide, (by have := ht; omega), (vI hc), (by have := hk; omega), by decide, (by have := hk; omega), (vI hd), (by kernel_rfl), fun bf => ⟨rfl, rfl, rfl, (by kernel_rfl), rfl, fun _ _ FF3 MM3 => then_n ?_⟩⟩))
  obtain ⟨N, hN⟩ : ∃ N, 16382 + n % 5 = N := ⟨_, rfl⟩
  have hN1 : N ≤ 16386 := by omega
  refine wp_seq (rg_c FF3 MM3 [(1, w_ 1), (1, t_ (iN N)), (0, n_ (.slice none N N) (.cells (cn .u8 (List.replicate N 0)) 5))] 9 [9] [6] (⟨(by have := hn; omega), by decide, (by have := hn; omega), (vI hN), (make_ok (t := 41) (e := 5) (p := (.tmp 41)) (q := (.tmp 41)) (by kernel_rfl) rfl rfl Try.underlying41 (by kernel_rfl) (by omega)), fun bd => fun _ wd4 FF4 MM4 => then_n ?_⟩))
  have MMr11 : MemS (fun k => k < w0.heap.size) w0 wd4 [(bd, .cells (cn .u8 (List.replicate 0 b ++ List.replicate (N - 0) 0)) 5), (bf, oC #[iN a, iN c, iN d, iW 0, sB []] 24), (bi, oC #[iB f, iB t, iB k, iB n, iB b] 45)] [] := by rw [show List.replicate 0 b ++ List.replicate (N - 0) 0 = List.replicate N 0 from rfl]; exact MM4
  refine wp_seq ?_
  refine wp_seq (rg_c FF4 MMr11 [] 11 [] [] (fun _ _ FF5 MM5 => then_n ?_))
  refine wp_for2 (fun a' w' => ∃ i : Nat, i ≤ N ∧ Fr 97 a' [(10, iN i), (9, .slice (some ⟨bd, 0, none⟩) N N), (8, pT bf), (7, iB b), (2, .bool false)] ∧ MemS (fun k => k < w0.heap.size) w0 w' [(bd, .cells (cn .u8 (List.replicate i b ++ List.replicate (N - i) 0)) 5), (bf, oC #[iN a, iN c, iN d, iW 0, sB []] 24), (bi, oC #[iB f, iB t, iB k, iB n, iB b] 45)] []) (fun a' _ => (N - cnt 10 a').toNat) ⟨0, Nat.zero_le _, FF5.pick [0, 1, 2, 3, 4], MM5⟩ ?_
  rintro ac6 wd6 ⟨i, hi, FF6, MM6⟩
  have hc1 := cnt_of (FF6.get 0 rfl)
  refine rg_c FF6 MM6 [] 11 [46] [] (fun _ _ FF7 MM7 => ?_)
  by_cases hlt : i < N
  · skip
    refine then_n (.inl ⟨(FF7.ev 0 rfl).trans (dec_t hlt), ?_⟩)
    refine rg_c FF7 MM7 [(3, w_ 1), (0, s_ 0 (.cells (cn .u8 (List.replicate (i + 1) b ++ List.replicate (N - (i + 1)) 0)) 5))] 11 [] [] (⟨by omega, rfl, (by rw [cn_size, (rb_len b hi)]; have := hlt; omega), (.inl rfl), ((cn_set _ _ _ _).trans (congrArg _ (rep_set b hlt))), fun _ _ FF8 MM8 => ?_⟩)
    refine inb_n (then_n ?_)
    refine rg_c FF8 MM8 [] 11 [] [] (⟨by omega, fun _ _ FF9 MM9 => ?_⟩)
    have hd1 := cnt_of (FF9.get 0 rfl)
    refine then_n ⟨⟨i + 1, by omega, FF9.pick [0, 1, 2, 3, 4], MM9⟩, ?_⟩
    rw [hc1, hd1]; omega
  · skip
    refine then_n (.inr ⟨(FF7.ev 0 rfl).trans (dec_f hlt), ?_⟩)
    obtain rfl : N = i := by omega
    refine then_n ?_
    refine wp_seq (rg_c FF7 MM7 [(1, l_ 0 (sB (List.replicate N b))), (1, s_ 1 (oC #[iN a, iN c, iN d, iW 0, sB (List.replicate N b)] 24))] 11 [] [] (⟨rfl, (by rw [Nat.sub_self, List.replicate_zero, List.append_nil]; exact str_all (List.length_replicate ..) (repb_lt hb N)), rfl, (by simp), (.inl rfl), rfl, fun _ _ FF10 MM10 => then_n ?_⟩))
    by_cases hL : N ≤ 16384
    · skip
      have hm : mayF ((a : Nat) : Int) ((c : Nat) : Int) ((d : Nat) : Int) (List.replicate N b) := ⟨by omega, by omega, by omega, by rw [List.length_replicate]; omega⟩
      have hel := encF_len ((a : Nat) : Int) ((c : Nat) : Int) ((d : Nat) : Int) 0 (List.replicate N b)
      rw [List.length_replicate] at hel
      refine wp_seq (rg_c FF10 MM10 [(0, b_ 1), (0, t_ (.tuple #[sB (encF ((a : Nat) : Int) ((c : Nat) : Int) ((d : Nat) : Int) 0 (List.replicate N b)), iN 0]))] 13 [] [] (⟨rfl, rfl, (callP_of en_enc (fun w => by have h0 := enc_any ((a : Nat) : Int) ((c : Nat) : Int) ((d : Nat) : Int) 0 (List.replicate N b) (by decide) w; rw [encR_yes hm] at h0; exact h0) _), fun _ _ FF11 MM11 => then_n ?_⟩))
      refine wp_seq ?_
      refine wp_seq (rg_c FF11 MM11 [(2, w_ 3)] 13 [63] [] (⟨by omega, fun _ _ FF12 MM12 => then_n ?_⟩))
      refine wp_cond_false (FF12.ev 0 rfl) ?_
      refine wp_skip ?_
      refine then_n ?_
      refine wp_seq (rg_c FF12 MM12 [(1, t_ (.tuple #[aG #[iN a, iN c, iN d, iW 0, sB (List.replicate N b)], iN 0])), (4, b_ 0)] 15 [] [] (⟨(callP_of en_dec (dec_told rfl hm (by decide) (encF_lt hm 0 (repb_lt hb N)) (by omega)) _), fun bg => ⟨rfl, rfl, rfl, (by kernel_rfl), rfl, fun _ _ FF13 MM13 => then_n ?_⟩⟩))
      refine wp_seq (rg_c FF13 MM13 [(1, w_ 2), (2, w_ 2), (2, b_ 0), (0, b_ 2), (0, f_ (.bool true)), (2, t_ (.bool true))] 14 [] [] (⟨by decide, by decide, rfl, rfl, rfl, rfl, (eqF_ok (t := 24) (t' := 24) (x := (.tmp 90)) (y := (.tmp 91)) (p := (((a : Nat) : Int) = ((a : Nat) : Int) ∧ ((c : Nat) : Int) = ((c : Nat) : Int) ∧ ((d : Nat) : Int) = ((d : Nat) : Int) ∧ ((0 : Nat) : Int) = ((0 : Nat) : Int) ∧ bs (List.replicate N b) = bs (List.replicate N b) ∧ True)) (by kernel_rfl) Try.underlying24 (by kernel_rfl) (by kernel_rfl) rfl rfl (by kernel_rfl) (iff_of_true ⟨rfl, rfl, rfl, rfl, rfl, trivial⟩ rfl)), (callP_of en_wakes wakes_any _), fun _ _ FF14 MM14 => then_n ?_⟩))
      refine wp_ret ?_
      repeat first | refine then_ret ?_ | refine inb_ret ?_
      exact (ret_fr FF14 0 Try.results7 rfl ⟨rfl, MM14.below⟩)
    · skip
      have hm : ¬ mayF ((a : Nat) : Int) ((c : Nat) : Int) ((d : Nat) : Int) (List.replicate N b) := fun q => by have := q.2.2.2; rw [List.length_replicate] at this; omega
      refine wp_seq (rg_c FF10 MM10 [(0, b_ 1), (0, t_ (.tuple #[sB [], iN 5]))] 13 [] [] (⟨rfl, rfl, (callP_of en_enc (fun w => by have h0 := enc_any ((a : Nat) : Int) ((c : Nat) : Int) ((d : Nat) : Int) 0 (List.replicate N b) (by decide) w; rw [encR_no hm] at h0; exact h0) _), fun _ _ FF15 MM15 => then_n ?_⟩))
      refine wp_seq ?_
      refine wp_seq (rg_c FF15 MM15 [(2, w_ 2)] 13 [63] [] (⟨by omega, fun _ _ FF16 MM16 => then_n ?_⟩))
      refine wp_cond_true (FF16.ev 0 rfl) ?_
      refine wp_seq (rg_c FF16 MM16 [(1, w_ 2), (2, w_ 2), (2, b_ 1), (0, t_ (.bool false)), (3, t_ (.bool true))] 13 [] [] (⟨by decide, rfl, rfl, rfl, (callP_of en_may (may_any ((a : Nat) : Int) ((c : Nat) : Int) ((d : Nat) : Int) 0 (List.replicate N b) false (iff_of_false hm (by decide))) _), (callP_of en_wakes wakes_any _), fun _ _ FF17 MM17 => then_n ?_⟩))
      refine wp_ret ?_
      repeat first | refine then_ret ?_ | refine inb_ret ?_
      exact (ret_fr FF17 0 Try.results7 rfl ⟨rfl, MM17.below⟩)
end Go.Proofs.Ytiekpglkkfllfaa
