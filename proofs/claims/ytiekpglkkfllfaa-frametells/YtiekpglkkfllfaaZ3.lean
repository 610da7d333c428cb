/- Several texts in one: Package frame: User, May; the document's. derive.Round; the document's. Package frame: Encode; the document's. Package frame: Decode; the document's. The laws of frames: wakes. The law FrameTells. -/
import Derived.Test.YtiekpglkkfllfaaZ2
import Derived.Laws.Small
namespace Go.Proofs.Ytiekpglkkfllfaa
open Go.RowKit
theorem en_lclone : Enters Try.prog 23 := fun args w => by simp [go_sem]
theorem en_clone : Enters Try.prog 19 := fun args w => by simp [go_sem]
theorem en_user : Enters Try.prog 13 := fun args w => by simp [go_sem]
theorem en_may : Enters Try.prog 14 := fun args w => by simp [go_sem]
theorem en_enc : Enters Try.prog 9 := fun args w => by simp [go_sem]
theorem en_dec : Enters Try.prog 11 := fun args w => by simp [go_sem]
theorem en_number : Enters Try.prog 18 := fun args w => by simp [go_sem]
theorem en_near : Enters Try.prog 24 := fun args w => by simp [go_sem]
theorem en_within : Enters Try.prog 20 := fun args w => by simp [go_sem]
theorem en_lowest : Enters Try.prog 22 := fun args w => by simp [go_sem]
theorem en_round : Enters Try.prog 16 := fun args w => by simp [go_sem]
theorem en_radd : Enters Try.prog 21 := fun args w => by simp [go_sem]
theorem en_rmay : Enters Try.prog 15 := fun args w => by simp [go_sem]
theorem en_renc : Enters Try.prog 10 := fun args w => by simp [go_sem]
theorem en_rdec : Enters Try.prog 12 := fun args w => by simp [go_sem]
theorem en_rround : Enters Try.prog 17 := fun args w => by simp [go_sem]
set_option maxRecDepth 100000 in
theorem lclone_any (X : List Nat) (hX : ∀ i, X.getD i 0 < 256) (hl : X.length ≤ 1000000) (w0 : World) :
    Calls Try.prog 23 #[sB X] w0 fun e w' => e = .returned (sB X) ∧ Below w0.heap.size w0 w' := by
  refine enter_fr Try.func23 rfl Try.ntmps23 (by simp) fun ac (FF : Fr 18 ac [(0, sB X)]) => ?_
  have MM := MemS.start w0
  refine wp_seq (rg_c FF MM [(0, t_ (sB []))] 3 [] [] (⟨(by kernel_rfl), fun _ _ FF1 MM1 => then_n ?_⟩))
  refine wp_seq ?_
  refine wp_seq (rg_c FF1 MM1 [(1, t_ (iN X.length))] 3 [6] [] (⟨(vI (bs_size _)), fun _ _ FF2 MM2 => then_n ?_⟩))
  by_cases hs6 : X.length = 0
  · refine wp_cond_true ((FF2.ev 0 rfl).trans (dec_t hs6)) ?_
    obtain rfl : X = [] := List.eq_nil_of_length_eq_zero hs6
    refine wp_seq (rg_c FF2 MM2 [(0, t_ (sB []))] 3 [] [] (⟨(by kernel_rfl), fun _ _ FF3 MM3 => then_n ?_⟩))
    refine wp_ret ?_
    repeat first | refine then_ret ?_ | refine inb_ret ?_
    exact (ret_fr FF3 0 Try.results23 rfl ⟨rfl, MM3.below⟩)
  · refine wp_cond_false ((FF2.ev 0 rfl).trans (dec_f hs6)) ?_
    refine wp_skip ?_
    refine then_n ?_
    refine wp_seq (rg_c FF2 MM2 [(1, t_ (iN X.length)), (0, n_ (.slice none X.length X.length) (.cells (cn .u8 (List.replicate X.length 0)) 5))] 4 [] [] (⟨(vI (bs_size _)), (make_ok (t := 41) (e := 5) (p := (.tmp 8)) (q := (.tmp 8)) (by kernel_rfl) rfl rfl Try.underlying41 (by kernel_rfl) (by omega)), fun bl => fun _ _ FF4 MM4 => then_n ?_⟩))
    refine wp_seq (rg_c FF4 MM4 [(2, r_ (iN (min X.length X.length)) [(0, .cells (cn .u8 X) 5)])] 4 [] [] (⟨(copyStr_ok (p := .tmp 10) (q := .tmp 11) (t := 41) (tq := 9) (e := 5) (T := 5) (off := 0) (len := X.length) (X := X) (cs := cn .u8 (List.replicate X.length 0)) (i := 0) (by kernel_rfl) rfl rfl hX Try.underlying41 (by kernel_rfl) rfl (by rw [cn_size, List.length_replicate, Nat.zero_add]; exact Nat.le_refl _) (by rw [List.take_length]; exact setFrom_new8 (by rw [List.length_replicate]))), fun _ _ FF5 MM5 => then_n ?_⟩))
    refine wp_seq (rg_c FF5 MM5 [(1, w_ 1), (2, r_ (sB X) [(0, .cells (cn .u8 X) 5 (0, X.length))])] 4 [] [] (⟨by omega, (usRow_ok (t := 56) (u := 3) (e := 5) (i := 0) (x := .tmp 14) (y := .tmp 16) (by kernel_rfl) rfl rfl Try.underlying56 (by kernel_rfl) rfl (by omega) hX (by rw [cn_size]; exact Nat.le_refl _) (by omega) (fun j hj => cn_get _ _ _ hj)), fun _ _ FF6 MM6 => then_n ?_⟩))
    refine wp_ret ?_
    repeat first | refine then_ret ?_ | refine inb_ret ?_
    exact (ret_fr FF6 0 Try.results23 rfl ⟨rfl, MM6.below⟩)
set_option maxRecDepth 100000 in
theorem clone_any (X : List Nat) (hX : ∀ i, X.getD i 0 < 256) (hl : X.length ≤ 1000000) (w0 : World) :
    Calls Try.prog 19 #[sB X] w0 fun e w' => e = .returned (sB X) ∧ Below w0.heap.size w0 w' := by
  refine enter_fr Try.func19 rfl Try.ntmps19 (by simp) fun ac (FF : Fr 5 ac [(0, sB X)]) => ?_
  have MM := MemS.start w0
  refine wp_seq (rg_c FF MM [(0, t_ (sB []))] 3 [] [] (⟨(by kernel_rfl), fun _ _ FF1 MM1 => then_n ?_⟩))
  refine wp_seq (rg_c FF1 MM1 [(1, t_ (sB X))] 0 [2] [] (⟨(callP_of en_lclone (lclone_any X hX hl) _), fun _ _ FF2 MM2 => then_n ?_⟩))
  refine wp_ret ?_
  repeat first | refine then_ret ?_ | refine inb_ret ?_
  exact (ret_fr FF2 0 Try.results19 rfl ⟨rfl, MM2.below⟩)
set_option maxRecDepth 100000 in
theorem user_any (z : Int) (w0 : World) :
    Calls Try.prog 13 #[.int .i64 z] w0 fun e w' => e = .returned (.tuple #[.int .i64 (usrZ z), .bool (decide (4 ≤ z ∧ z < 10))]) ∧ Below w0.heap.size w0 w' := by
  refine enter_fr Try.func13 rfl Try.ntmps13 (by simp) fun ac (FF : Fr 12 ac [(0, .int .i64 (z : Int))]) => ?_
  have MM := MemS.start w0
  refine wp_seq (rg_c FF MM [] 4 [] [] (fun _ _ FF1 MM1 => then_n ?_))
  refine wp_seq ?_
  by_cases h4 : z < 4
  · skip
    refine wp_seq (rg_c FF1 MM1 [(1, w_ 6)] 4 [9] [] (⟨h4, fun _ _ FF2 MM2 => then_n ?_⟩))
    refine wp_cond_true (FF2.ev 0 rfl) ?_
    refine wp_seq (rg_c FF2 MM2 [] 4 [] [] (fun _ _ FF3 MM3 => then_n ?_))
    refine wp_ret ?_
    repeat first | refine then_ret ?_ | refine inb_ret ?_
    exact (ret_tup2 FF3 1 0 Try.results13 rfl rfl ⟨by rw [usrZ_no (by omega), show decide (4 ≤ z ∧ z < 10) = false from decide_eq_false (by omega)]; rfl, MM3.below⟩)
  by_cases h10 : z ≥ 10
  · skip
    refine wp_seq (rg_c FF1 MM1 [(1, u_ 4 (.bool false)), (2, w_ 6)] 4 [9] [] (⟨(dec_f h4), h10, fun _ _ FF4 MM4 => then_n ?_⟩))
    refine wp_cond_true (FF4.ev 0 rfl) ?_
    refine wp_seq (rg_c FF4 MM4 [] 4 [] [] (fun _ _ FF5 MM5 => then_n ?_))
    refine wp_ret ?_
    repeat first | refine then_ret ?_ | refine inb_ret ?_
    exact (ret_tup2 FF5 1 0 Try.results13 rfl rfl ⟨by rw [usrZ_no (by omega), show decide (4 ≤ z ∧ z < 10) = false from decide_eq_false (by omega)]; rfl, MM5.below⟩)
  refine wp_seq (rg_c FF1 MM1 [(1, u_ 4 (.bool false)), (2, u_ 4 (.bool false))] 4 [9] [] (⟨(dec_f h4), (dec_f h10), fun _ _ FF6 MM6 => then_n ?_⟩))
  refine wp_cond_false (FF6.ev 0 rfl) ?_
  refine wp_skip ?_
  refine then_n ?_
  refine wp_seq (rg_c FF6 MM6 [(1, w_ 4)] 4 [] [] (⟨by omega, by omega, fun _ _ FF7 MM7 => then_n ?_⟩))
  refine wp_ret ?_
  repeat first | refine then_ret ?_ | refine inb_ret ?_
  exact (ret_tup2 FF7 1 0 Try.results13 rfl rfl ⟨by rw [usrZ_yes (by omega), show decide (4 ≤ z ∧ z < 10) = true from decide_eq_true (by omega)]; rfl, MM7.below⟩)
set_option maxRecDepth 100000 in
theorem radd_any (z : Int) (b : Bool) (hb : (1 ≤ z ∧ z < 10) ↔ b = true) (w0 : World) :
    Calls Try.prog 21 #[.int .i64 z] w0 fun e w' => e = .returned (.bool b) ∧ Below w0.heap.size w0 w' := by
  refine enter_fr Try.func21 rfl Try.ntmps21 (by simp) fun ac (FF : Fr 17 ac [(0, .int .i64 (z : Int))]) => ?_
  have MM := MemS.start w0
  refine wp_seq (rg_c FF MM [] 3 [] [] (fun _ _ FF1 MM1 => then_n ?_))
  by_cases h1 : z < 1
  · skip
    refine wp_seq (rg_c FF1 MM1 [(1, u_ 4 (.bool false)), (6, u_ 4 (.bool false))] 0 [2] [] (⟨(dec_f (by omega)), (dec_f (by omega)), fun _ _ FF2 MM2 => then_n ?_⟩))
    refine wp_ret ?_
    repeat first | refine then_ret ?_ | refine inb_ret ?_
    exact (ret_fr FF2 0 Try.results21 rfl ⟨by rw [show b = false from Bool.eq_false_iff.2 fun h => absurd (hb.2 h) (by omega)], MM2.below⟩)
  by_cases h3 : z ≤ 3
  · skip
    refine wp_seq (rg_c FF1 MM1 [(1, w_ 6), (2, w_ 6)] 0 [2] [] (⟨by omega, h3, fun _ _ FF3 MM3 => then_n ?_⟩))
    refine wp_ret ?_
    repeat first | refine then_ret ?_ | refine inb_ret ?_
    exact (ret_fr FF3 0 Try.results21 rfl ⟨by rw [show b = true from hb.1 (by omega)], MM3.below⟩)
  by_cases h4 : z < 4
  · skip
    refine wp_seq (rg_c FF1 MM1 [(1, w_ 6), (2, u_ 4 (.bool false)), (3, u_ 4 (.bool false))] 0 [2] [] (⟨by omega, (dec_f h3), (dec_f (by omega)), fun _ _ FF4 MM4 => then_n ?_⟩))
    refine wp_ret ?_
    repeat first | refine then_ret ?_ | refine inb_ret ?_
    exact (ret_fr FF4 0 Try.results21 rfl ⟨by rw [show b = false from Bool.eq_false_iff.2 fun h => absurd (hb.2 h) (by omega)], MM4.below⟩)
  by_cases h10 : z < 10
  · skip
    refine wp_seq (rg_c FF1 MM1 [(1, w_ 6), (2, u_ 4 (.bool false)), (3, w_ 6), (2, w_ 6)] 0 [2] [] (⟨by omega, (dec_f h3), by omega, h10, fun _ _ FF5 MM5 => then_n ?_⟩))
    refine wp_ret ?_
    repeat first | refine then_ret ?_ | refine inb_ret ?_
    exact (ret_fr FF5 0 Try.results21 rfl ⟨by rw [show b = true from hb.1 (by omega)], MM5.below⟩)
  refine wp_seq (rg_c FF1 MM1 [(1, w_ 6), (2, u_ 4 (.bool false)), (3, w_ 6), (2, u_ 4 (.bool false))] 0 [2] [] (⟨by omega, (dec_f h3), by omega, (dec_f h10), fun _ _ FF6 MM6 => then_n ?_⟩))
  refine wp_ret ?_
  repeat first | refine then_ret ?_ | refine inb_ret ?_
  exact (ret_fr FF6 0 Try.results21 rfl ⟨by rw [show b = false from Bool.eq_false_iff.2 fun h => absurd (hb.2 h) (by omega)], MM6.below⟩)
set_option maxRecDepth 100000 in
theorem near_any (z : Int) (w0 : World) :
    Calls Try.prog 24 #[.int .i64 z] w0 fun e w' => e = .returned (.int .i64 (nearZ z)) ∧ Below w0.heap.size w0 w' := by
  refine enter_fr Try.func24 rfl Try.ntmps24 (by simp) fun ac (FF : Fr 15 ac [(0, .int .i64 (z : Int))]) => ?_
  have MM := MemS.start w0
  refine wp_seq (rg_c FF MM [] 3 [] [] (fun _ _ FF1 MM1 => then_n ?_))
  refine wp_seq ?_
  by_cases hU : 4 ≤ z ∧ z < 10
  · skip
    refine wp_seq (rg_c FF1 MM1 [(1, t_ (.tuple #[.int .i64 (z - 4 : Int), .bool true]))] 3 [4] [] (⟨(callP_of en_user (by have h0 := user_any z; rw [usrZ_yes hU, show decide (4 ≤ z ∧ z < 10) = true from decide_eq_true hU] at h0; exact h0) _), fun _ _ FF2 MM2 => then_n ?_⟩))
    refine wp_seq (rg_c FF2 MM2 [] 3 [10] [] (fun _ _ FF3 MM3 => then_n ?_))
    refine wp_cond_true (FF3.ev 0 rfl) ?_
    refine wp_seq (rg_c FF3 MM3 [] 3 [] [] (fun _ _ FF4 MM4 => then_n ?_))
    refine wp_ret ?_
    repeat first | refine then_ret ?_ | refine inb_ret ?_
    exact (ret_fr FF4 0 Try.results24 rfl ⟨by rw [nearZ_yes hU], MM4.below⟩)
  · skip
    refine wp_seq (rg_c FF1 MM1 [(1, t_ (.tuple #[.int .i64 (0 : Int), .bool false]))] 3 [4] [] (⟨(callP_of en_user (by have h0 := user_any z; rw [usrZ_no hU, show decide (4 ≤ z ∧ z < 10) = false from decide_eq_false hU] at h0; exact h0) _), fun _ _ FF5 MM5 => then_n ?_⟩))
    refine wp_seq (rg_c FF5 MM5 [] 3 [10] [] (fun _ _ FF6 MM6 => then_n ?_))
    refine wp_cond_false (FF6.ev 0 rfl) ?_
    refine wp_skip ?_
    refine then_n ?_
    refine wp_seq (rg_c FF6 MM6 [(1, f_ (.int .i64 (max z 1 : Int))), (0, f_ (.int .i64 (min (max z 1) 3 : Int)))] 3 [] [] (⟨(maxZ_ok (t := 3) (u := 3) (x := .tmp 12) (y := .const (.int .i64 1)) (by kernel_rfl) rfl rfl rfl), (minZ_ok (t := 3) (u := 3) (x := .tmp 13) (y := .const (.int .i64 3)) (by kernel_rfl) rfl rfl rfl), fun _ _ FF7 MM7 => then_n ?_⟩))
    refine wp_ret ?_
    repeat first | refine then_ret ?_ | refine inb_ret ?_
    exact (ret_fr FF7 0 Try.results24 rfl ⟨by rw [nearZ_no hU], MM7.below⟩)
set_option maxRecDepth 100000 in
theorem within_any (a t k : Int) (r : Nat) (X : List Nat) (w0 : World) :
    Calls Try.prog 20 #[.agg #[.int .i64 a, .int .i64 t, .int .i64 k, iW r, sB X]] w0 fun e w' => e = .returned (.agg #[.int .i64 (nearZ a), .int .i64 (nearZ t), .int .i64 (min (max k 1) 6), iW r, sB (X.take 16384)]) ∧ Below w0.heap.size w0 w' := by
  refine enter_fr Try.func20 rfl Try.ntmps20 (by simp) fun ac (FF : Fr 25 ac [(0, aG #[.int .i64 (a : Int), .int .i64 (t : Int), .int .i64 (k : Int), iW r, sB X])]) => ?_
  have MM := MemS.start w0
  refine wp_seq (rg_c FF MM [] 3 [] [0] (fun bf => fun bz => fun _ _ FF1 MM1 => then_n ?_))
  refine wp_seq (rg_c FF1 MM1 [(1, l_ 1 (.int .i64 (a : Int))), (0, t_ (.int .i64 (nearZ a : Int))), (1, s_ 1 (oC #[.int .i64 (nearZ a : Int), .int .i64 (t : Int), .int .i64 (k : Int), iW r, sB X] 24))] 3 [] [] (⟨rfl, rfl, (callP_of en_near (near_any a) _), rfl, (by simp), (.inl rfl), rfl, fun _ _ FF2 MM2 => then_n ?_⟩))
  refine wp_seq (rg_c FF2 MM2 [(1, l_ 1 (.int .i64 (t : Int))), (0, t_ (.int .i64 (nearZ t : Int))), (1, s_ 1 (oC #[.int .i64 (nearZ a : Int), .int .i64 (nearZ t : Int), .int .i64 (k : Int), iW r, sB X] 24))] 3 [] [] (⟨rfl, rfl, (callP_of en_near (near_any t) _), rfl, (by simp), (.inl rfl), rfl, fun _ _ FF3 MM3 => then_n ?_⟩))
  refine wp_seq (rg_c FF3 MM3 [(1, l_ 1 (.int .i64 (k : Int))), (0, f_ (.int .i64 (max k 1 : Int))), (0, f_ (.int .i64 (min (max k 1) 6 : Int))), (1, s_ 1 (oC #[.int .i64 (nearZ a : Int), .int .i64 (nearZ t : Int), .int .i64 (min (max k 1) 6 : Int), iW r, sB X] 24))] 3 [] [] (⟨rfl, rfl, (maxZ_ok (t := 3) (u := 3) (x := .tmp 12) (y := .const (.int .i64 1)) (by kernel_rfl) rfl rfl rfl), (minZ_ok (t := 3) (u := 3) (x := .tmp 13) (y := .const (.int .i64 6)) (by kernel_rfl) rfl rfl rfl), rfl, (by simp), (.inl rfl), rfl, fun _ _ FF4 MM4 => then_n ?_⟩))
  refine wp_seq (rg_c FF4 MM4 [(1, l_ 1 (sB X)), (1, l_ 1 (sB X)), (0, t_ (iN X.length)), (0, f_ (iN (min X.length 16384))), (0, t_ (sB (X.take 16384))), (1, s_ 1 (oC #[.int .i64 (nearZ a : Int), .int .i64 (nearZ t : Int), .int .i64 (min (max k 1) 6 : Int), iW r, sB (X.take 16384)] 24))] 3 [] [] (⟨rfl, rfl, rfl, rfl, (vI (bs_size _)), (min_ok (t := 3) (u := 3) (x := (.tmp 20)) (y := (.const (iN 16384))) (k := .i64) (m := X.length) (n := 16384) (r := min X.length 16384) (by kernel_rfl) rfl rfl rfl), (Nat.zero_le _), (by simp only [bs_size]; omega), (vS2 ((bs_extract _ _ _).trans (congrArg bs (take_min X)))), rfl, (by simp), (.inl rfl), rfl, fun _ _ FF5 MM5 => then_n ?_⟩))
  refine wp_seq (rg_c FF5 MM5 [(0, b_ 1), (0, b_ 0)] 3 [] [] (⟨rfl, rfl, rfl, rfl, rfl, (by kernel_rfl), rfl, fun _ _ FF6 MM6 => then_n ?_⟩))
  refine wp_ret ?_
  repeat first | refine then_ret ?_ | refine inb_ret ?_
  exact (retc FF6 MM6 (k := 5) (i := 0) (j := 0) Try.results20 rfl rfl Try.underlying24 rfl (by kernel_rfl) rfl ⟨rfl, MM6.below⟩)
set_option maxRecDepth 100000 in
theorem may_any (a t k : Int) (r : Nat) (X : List Nat) (b : Bool) (hb : mayF a t k X ↔ b = true) (w0 : World) :
    Calls Try.prog 14 #[.agg #[.int .i64 a, .int .i64 t, .int .i64 k, iW r, sB X]] w0 fun e w' => e = .returned (.bool b) ∧ Below w0.heap.size w0 w' := by
  refine enter_fr Try.func14 rfl Try.ntmps14 (by simp) fun ac (FF : Fr 7 ac [(0, aG #[.int .i64 (a : Int), .int .i64 (t : Int), .int .i64 (k : Int), iW r, sB X])]) => ?_
  have MM := MemS.start w0
  refine wp_seq (rg_c FF MM [] 3 [] [0] (fun bf => fun _ _ FF1 MM1 => then_n ?_))
  by_cases hm : mayF a t k X
  · skip
    refine wp_seq (rg_dc 5 FF1 MM1 [(0, b_ 0), (0, t_ (aG #[.int .i64 (nearZ a : Int), .int .i64 (nearZ t : Int), .int .i64 (min (max k 1) 6 : Int), iW r, sB (X.take 16384)])), (0, b_ 0), (0, f_ (.bool true))] [] 0 [2] [] (⟨rfl, rfl, (callP_of en_within (within_any a t k r X) _), rfl, rfl, (eqF_ok (t := 24) (t' := 24) (x := (.tmp 4)) (y := (.tmp 5)) (p := ((nearZ a : Int) = (a : Int) ∧ (nearZ t : Int) = (t : Int) ∧ (min (max k 1) 6 : Int) = (k : Int) ∧ ((r : Nat) : Int) = ((r : Nat) : Int) ∧ bs (X.take 16384) = bs X ∧ True)) (by kernel_rfl) Try.underlying24 (by kernel_rfl) (by kernel_rfl) rfl rfl (by kernel_rfl) (iff_of_true ((mayC a t k r X).1 hm) rfl)), fun _ _ FF2 MM2 => then_n ?_⟩))
    refine wp_ret ?_
    repeat first | refine then_ret ?_ | refine inb_ret ?_
    exact (ret_fr FF2 0 Try.results14 rfl ⟨by rw [show b = true from hb.1 hm], MM2.below⟩)
  · skip
    refine wp_seq (rg_dc 5 FF1 MM1 [(0, b_ 0), (0, t_ (aG #[.int .i64 (nearZ a : Int), .int .i64 (nearZ t : Int), .int .i64 (min (max k 1) 6 : Int), iW r, sB (X.take 16384)])), (0, b_ 0), (0, f_ (.bool false))] [] 0 [2] [] (⟨rfl, rfl, (callP_of en_within (within_any a t k r X) _), rfl, rfl, (eqF_ok (t := 24) (t' := 24) (x := (.tmp 4)) (y := (.tmp 5)) (p := ((nearZ a : Int) = (a : Int) ∧ (nearZ t : Int) = (t : Int) ∧ (min (max k 1) 6 : Int) = (k : Int) ∧ ((r : Nat) : Int) = ((r : Nat) : Int) ∧ bs (X.take 16384) = bs X ∧ True)) (by kernel_rfl) Try.underlying24 (by kernel_rfl) (by kernel_rfl) rfl rfl (by kernel_rfl) (iff_of_false (fun h => hm ((mayC a t k r X).2 h)) (by decide))), fun _ _ FF3 MM3 => then_n ?_⟩))
    refine wp_ret ?_
    repeat first | refine then_ret ?_ | refine inb_ret ?_
    exact (ret_fr FF3 0 Try.results14 rfl ⟨by rw [show b = false from Bool.eq_false_iff.2 fun h => hm (hb.2 h)], MM3.below⟩)
set_option maxRecDepth 100000 in
theorem rmay_any (a t k : Int) (r : Nat) (X : List Nat) (b : Bool) (hb : mayF a t k X ↔ b = true) (w0 : World) :
    Calls Try.prog 15 #[.agg #[.int .i64 a, .int .i64 t, .int .i64 k, iW r, sB X]] w0 fun e w' => e = .returned (.bool b) ∧ Below w0.heap.size w0 w' := by
  refine enter_fr Try.func15 rfl Try.ntmps15 (by simp) fun ac (FF : Fr 27 ac [(0, aG #[.int .i64 (a : Int), .int .i64 (t : Int), .int .i64 (k : Int), iW r, sB X])]) => ?_
  have MM := MemS.start w0
  refine wp_seq (rg_c FF MM [] 3 [] [0] (fun bf => fun _ _ FF1 MM1 => then_n ?_))
  by_cases hA : ¬ (1 ≤ a ∧ a < 10)
  · skip
    refine wp_seq (rg_c FF1 MM1 [(1, l_ 0 (.int .i64 (a : Int))), (0, t_ (.bool false))] 0 [2] [] (⟨rfl, rfl, (callP_of en_radd (radd_any a false (iff_of_false hA (by decide))) _), fun _ _ FF2 MM2 => then_n ?_⟩))
    refine wp_ret ?_
    repeat first | refine then_ret ?_ | refine inb_ret ?_
    exact (ret_fr FF2 0 Try.results15 rfl ⟨by rw [show b = false from Bool.eq_false_iff.2 fun h => by have q := hb.2 h; obtain ⟨q1, q2, q3, q4⟩ := q; first | exact hA q1 | exact hT q2 | omega], MM2.below⟩)
  by_cases hT : ¬ (1 ≤ t ∧ t < 10)
  · skip
    refine wp_seq (rg_c FF1 MM1 [(1, l_ 0 (.int .i64 (a : Int))), (0, t_ (.bool true)), (2, l_ 0 (.int .i64 (t : Int))), (0, t_ (.bool false))] 0 [2] [] (⟨rfl, rfl, (callP_of en_radd (radd_any a true (iff_of_true (Decidable.of_not_not hA) rfl)) _), rfl, rfl, (callP_of en_radd (radd_any t false (iff_of_false hT (by decide))) _), fun _ _ FF3 MM3 => then_n ?_⟩))
    refine wp_ret ?_
    repeat first | refine then_ret ?_ | refine inb_ret ?_
    exact (ret_fr FF3 0 Try.results15 rfl ⟨by rw [show b = false from Bool.eq_false_iff.2 fun h => by have q := hb.2 h; obtain ⟨q1, q2, q3, q4⟩ := q; first | exact hA q1 | exact hT q2 | omega], MM3.below⟩)
  by_cases h1 : k < 1
  · skip
    refine wp_seq (rg_c FF1 MM1 [(1, l_ 0 (.int .i64 (a : Int))), (0, t_ (.bool true)), (2, l_ 0 (.int .i64 (t : Int))), (0, t_ (.bool true)), (3, l_ 0 (.int .i64 (k : Int))), (0, u_ 4 (.bool false))] 0 [2] [] (⟨rfl, rfl, (callP_of en_radd (radd_any a true (iff_of_true (Decidable.of_not_not hA) rfl)) _), rfl, rfl, (callP_of en_radd (radd_any t true (iff_of_true (Decidable.of_not_not hT) rfl)) _), rfl, rfl, (dec_f (by omega)), fun _ _ FF4 MM4 => then_n ?_⟩))
    refine wp_ret ?_
    repeat first | refine then_ret ?_ | refine inb_ret ?_
    exact (ret_fr FF4 0 Try.results15 rfl ⟨by rw [show b = false from Bool.eq_false_iff.2 fun h => by have q := hb.2 h; obtain ⟨q1, q2, q3, q4⟩ := q; first | exact hA q1 | exact hT q2 | omega], MM4.below⟩)
  by_cases h6 : k > 6
  · skip
    refine wp_seq (rg_c FF1 MM1 [(1, l_ 0 (.int .i64 (a : Int))), (0, t_ (.bool true)), (2, l_ 0 (.int .i64 (t : Int))), (0, t_ (.bool true)), (3, l_ 0 (.int .i64 (k : Int))), (0, w_ 6), (3, l_ 0 (.int .i64 (k : Int))), (0, u_ 4 (.bool false))] 0 [2] [] (⟨rfl, rfl, (callP_of en_radd (radd_any a true (iff_of_true (Decidable.of_not_not hA) rfl)) _), rfl, rfl, (callP_of en_radd (radd_any t true (iff_of_true (Decidable.of_not_not hT) rfl)) _), rfl, rfl, by omega, rfl, rfl, (dec_f (by omega)), fun _ _ FF5 MM5 => then_n ?_⟩))
    refine wp_ret ?_
    repeat first | refine then_ret ?_ | refine inb_ret ?_
    exact (ret_fr FF5 0 Try.results15 rfl ⟨by rw [show b = false from Bool.eq_false_iff.2 fun h => by have q := hb.2 h; obtain ⟨q1, q2, q3, q4⟩ := q; first | exact hA q1 | exact hT q2 | omega], MM5.below⟩)
  by_cases hX : X.length > 16384
  · skip
    refine wp_seq (rg_c FF1 MM1 [(1, l_ 0 (.int .i64 (a : Int))), (0, t_ (.bool true)), (2, l_ 0 (.int .i64 (t : Int))), (0, t_ (.bool true)), (3, l_ 0 (.int .i64 (k : Int))), (0, w_ 6), (3, l_ 0 (.int .i64 (k : Int))), (0, w_ 6), (3, l_ 0 (sB X)), (0, t_ (iN X.length)), (0, w_ 3)] 0 [2] [] (⟨rfl, rfl, (callP_of en_radd (radd_any a true (iff_of_true (Decidable.of_not_not hA) rfl)) _), rfl, rfl, (callP_of en_radd (radd_any t true (iff_of_true (Decidable.of_not_not hT) rfl)) _), rfl, rfl, by omega, rfl, rfl, by omega, rfl, rfl, (vI (bs_size _)), by omega, fun _ _ FF6 MM6 => then_n ?_⟩))
    refine wp_ret ?_
    repeat first | refine then_ret ?_ | refine inb_ret ?_
    exact (ret_fr FF6 0 Try.results15 rfl ⟨by rw [show b = false from Bool.eq_false_iff.2 fun h => by have q := hb.2 h; obtain ⟨q1, q2, q3, q4⟩ := q; first | exact hA q1 | exact hT q2 | omega], MM6.below⟩)
  refine wp_seq (rg_c FF1 MM1 [(1, l_ 0 (.int .i64 (a : Int))), (0, t_ (.bool true)), (2, l_ 0 (.int .i64 (t : Int))), (0, t_ (.bool true)), (3, l_ 0 (.int .i64 (k : Int))), (0, w_ 6), (3, l_ 0 (.int .i64 (k : Int))), (0, w_ 6), (3, l_ 0 (sB X)), (0, t_ (iN X.length)), (0, w_ 2)] 0 [2] [] (⟨rfl, rfl, (callP_of en_radd (radd_any a true (iff_of_true (Decidable.of_not_not hA) rfl)) _), rfl, rfl, (callP_of en_radd (radd_any t true (iff_of_true (Decidable.of_not_not hT) rfl)) _), rfl, rfl, by omega, rfl, rfl, by omega, rfl, rfl, (vI (bs_size _)), by omega, fun _ _ FF7 MM7 => then_n ?_⟩))
  refine wp_ret ?_
  repeat first | refine then_ret ?_ | refine inb_ret ?_
  exact (ret_fr FF7 0 Try.results15 rfl ⟨by rw [show b = true from hb.1 ⟨Decidable.of_not_not hA, Decidable.of_not_not hT, by omega, by omega⟩], MM7.below⟩)
end Go.Proofs.Ytiekpglkkfllfaa
namespace Go.Proofs.Ytiekpglkkfllfaa
open Go.RowKit
set_option maxRecDepth 100000 in
theorem lowest_any (n k : Nat) (hn : n < 18446744073709551616) (hk : k ≤ 8) (w0 : World) :
    Calls Try.prog 22 #[iW n, iN k] w0 fun e w' => e = .returned (sB (leN k n)) ∧ Below w0.heap.size w0 w' := by
  refine enter_fr Try.func22 rfl Try.ntmps22 (by simp) fun ac (FF : Fr 25 ac [(0, iW n), (1, iN k)]) => ?_
  have MM := MemS.start w0
  refine wp_seq (rg_c FF MM [(0, t_ (sB []))] 5 [] [] (⟨(by kernel_rfl), fun _ _ FF1 MM1 => then_n ?_⟩))
  refine wp_seq (rg_c FF1 MM1 [(1, n_ (.slice none k k) (.cells (cn .u8 (List.replicate k 0)) 5))] 6 [] [1] (⟨(make_ok (t := 41) (e := 5) (p := (.tmp 7)) (q := (.tmp 7)) (by kernel_rfl) rfl rfl Try.underlying41 (by kernel_rfl) (by have := hk; omega)), fun bl => fun _ wd2 FF2 MM2 => then_n ?_⟩))
  have MMr4 : MemS (fun k => k < w0.heap.size) w0 wd2 [(bl, .cells (cn .u8 (genL k (leF n) 0)) 5)] [] := by rw [← genL_zero k (leF n)]; exact MM2
  refine wp_seq ?_
  refine wp_seq (rg_c FF2 MMr4 [] 12 [] [9] (fun _ _ FF3 MM3 => then_n ?_))
  refine wp_for (fun a' w' => ∃ i : Nat, i ≤ k ∧ Fr 25 a' [(11, iN i), (10, iN k), (5, .slice (some ⟨bl, 0, none⟩) k k), (4, sB []), (0, iW n)] ∧ MemS (fun k => k < w0.heap.size) w0 w' [(bl, .cells (cn .u8 (genL k (leF n) i)) 5)] []) (fun a' _ => (k - cnt 11 a').toNat) ⟨0, Nat.zero_le _, FF3.pick [0, 1, 2, 3, 4], MM3⟩ ?_
  rintro ac4 wd4 ⟨i, hi, FF4, MM4⟩
  have hc := cnt_of (FF4.get 0 rfl)
  refine rg_c FF4 MM4 [] 13 [] [] (fun _ _ FF5 MM5 => ?_)
  by_cases hlt : i < k
  · skip
    refine then_n (.inl ⟨(FF5.ev 0 rfl).trans (dec_t hlt), ?_⟩)
    refine wp_seq (rg_c FF5 MM5 [] 12 [] [] (fun _ _ FF6 MM6 => then_n ?_))
    refine rg_c FF6 MM6 [(6, t_ (iB (leF n i))), (0, w_ 1), (0, s_ 0 (.cells (cn .u8 (genL k (leF n) (i + 1))) 5))] 12 [] [] (⟨by omega, (by show _ ≤ 64; have := hn; omega), rfl, by omega, rfl, (by rw [cn_size, (genL_len _ _ _)]; have := hlt; omega), (.inl rfl), ((cn_set _ _ _ _).trans (congrArg _ (genL_step _ _ i hlt rfl))), fun _ _ FF7 MM7 => ?_⟩)
    refine inb_n (then_n ?_)
    refine rg_c FF7 MM7 [] 12 [] [] (⟨by omega, fun _ _ FF8 MM8 => ?_⟩)
    have hd := cnt_of (FF8.get 0 rfl)
    refine then_n ⟨⟨i + 1, by omega, FF8.pick [0, 2, 3, 4, 5], MM8⟩, ?_⟩
    rw [hc, hd]; omega
  · skip
    refine then_n (.inr ⟨(FF5.ev 0 rfl).trans (dec_f hlt), ?_⟩)
    obtain rfl : i = k := by omega
    refine then_n ?_
    refine wp_seq (rg_c FF5 MM5 [(1, l_ 0 (sB (genL i (leF n) i)))] 12 [] [] (⟨rfl, (str_all (genL_len _ _ _) (genL_lt (by decide) (leF_lt n) i)), fun _ _ FF9 MM9 => then_n ?_⟩))
    refine wp_ret ?_
    repeat first | refine then_ret ?_ | refine inb_ret ?_
    exact (ret_fr FF9 0 Try.results22 rfl ⟨rfl, MM9.below⟩)
set_option maxRecDepth 100000 in
theorem round_any (n : Nat) (hn : n < 18446744073709551616) (w0 : World) :
    Calls Try.prog 16 #[iW n] w0 fun e w' => e = .returned (sB (leN 8 n)) ∧ Below w0.heap.size w0 w' := by
  refine enter_fr Try.func16 rfl Try.ntmps16 (by simp) fun ac (FF : Fr 5 ac [(0, iW n)]) => ?_
  have MM := MemS.start w0
  refine wp_seq (rg_c FF MM [(0, t_ (sB []))] 3 [] [] (⟨(by kernel_rfl), fun _ _ FF1 MM1 => then_n ?_⟩))
  refine wp_seq (rg_c FF1 MM1 [(1, t_ (sB (leN 8 n)))] 0 [2] [] (⟨(callP_of en_lowest (lowest_any n 8 (by have := hn; omega) (by decide)) _), fun _ _ FF2 MM2 => then_n ?_⟩))
  refine wp_ret ?_
  repeat first | refine then_ret ?_ | refine inb_ret ?_
  exact (ret_fr FF2 0 Try.results16 rfl ⟨rfl, MM2.below⟩)
set_option maxRecDepth 100000 in
theorem rround_any (n : Nat) (hn : n < 18446744073709551616) (w0 : World) :
    Calls Try.prog 17 #[iW n] w0 fun e w' => e = .returned (sB (leN 8 n)) ∧ Below w0.heap.size w0 w' := by
  refine enter_fr Try.func17 rfl Try.ntmps17 (by simp) fun ac (FF : Fr 19 ac [(0, iW n)]) => ?_
  have MM := MemS.start w0
  refine wp_seq (rg_c FF MM [(0, t_ (sB []))] 3 [] [] (⟨(by kernel_rfl), fun _ _ FF1 MM1 => then_n ?_⟩))
  refine wp_seq (rg_c FF1 MM1 [(0, t_ (.agg (cn .u8 (List.replicate 8 0)))), (0, s_ 0 (.cells (cn .u8 (List.replicate 8 0)) 54)), (0, b_ 0)] 4 [] [] (⟨(by kernel_rfl), (by kernel_rfl), fun bo => ⟨rfl, ((cn_size _ _).trans (List.length_replicate ..)), ((cn_size _ _).trans (List.length_replicate ..)), (cn_one _ _), rfl, fun _ wd2 FF2 MM2 => then_n ?_⟩⟩))
  have MMr4 : MemS (fun k => k < w0.heap.size) w0 wd2 [(bo, .cells (cn .u8 (genL 8 (leF n) 0)) 54)] [] := by rw [← genL_zero 8 (leF n)]; exact MM2
  refine wp_seq ?_
  refine wp_seq (rg_c FF2 MMr4 [] 5 [] [] (fun _ _ FF3 MM3 => then_n ?_))
  refine wp_for2 (fun a' w' => ∃ i : Nat, i ≤ 8 ∧ Fr 19 a' [(4, iN i), (3, pT bo), (2, sB []), (0, iW n)] ∧ MemS (fun k => k < w0.heap.size) w0 w' [(bo, .cells (cn .u8 (genL 8 (leF n) i)) 54)] []) (fun a' _ => (8 - cnt 4 a').toNat) ⟨0, by omega, FF3.pick [0, 1, 2, 3], MM3⟩ ?_
  rintro ac4 wd4 ⟨i, hi, FF4, MM4⟩
  have hci := cnt_of (FF4.get 0 rfl)
  refine rg_c FF4 MM4 [] 5 [7] [] (fun _ _ FF5 MM5 => ?_)
  by_cases hlti : i < 8
  · skip
    refine then_n (.inl ⟨(FF5.ev 0 rfl).trans (dec_t hlti), ?_⟩)
    refine rg_c FF5 MM5 [(5, t_ (iB (leF n i))), (0, w_ 1), (0, s_ 0 (.cells (cn .u8 (genL 8 (leF n) (i + 1))) 54))] 5 [] [] (⟨by omega, (by show _ ≤ 64; have := hn; omega), rfl, by omega, rfl, (by rw [cn_size, (genL_len _ _ _)]; omega), (.inl rfl), ((cn_set _ _ _ _).trans (congrArg _ (genL_step _ _ i hlti rfl))), fun _ _ FF6 MM6 => ?_⟩)
    refine inb_n (then_n ?_)
    refine rg_c FF6 MM6 [] 5 [] [] (⟨by omega, fun _ _ FF7 MM7 => ?_⟩)
    have hdi := cnt_of (FF7.get 0 rfl)
    refine then_n ⟨⟨i + 1, by omega, FF7.pick [0, 1, 2, 3], MM7⟩, ?_⟩
    rw [hci, hdi]; omega
  · skip
    refine then_n (.inr ⟨(FF5.ev 0 rfl).trans (dec_f hlti), ?_⟩)
    obtain rfl : i = 8 := by omega
    refine then_n ?_
    refine wp_seq (rg_c FF5 MM5 [(1, l_ 0 (sB (genL 8 (leF n) 8)))] 5 [] [] (⟨by decide, by decide, by decide, rfl, (str_all (genL_len _ _ _) (genL_lt (by decide) (leF_lt n) 8)), fun _ _ FF8 MM8 => then_n ?_⟩))
    refine wp_ret ?_
    repeat first | refine then_ret ?_ | refine inb_ret ?_
    exact (ret_fr FF8 0 Try.results17 rfl ⟨rfl, MM8.below⟩)
end Go.Proofs.Ytiekpglkkfllfaa
namespace Go.Proofs.Ytiekpglkkfllfaa
open Go.RowKit
set_option maxRecDepth 100000 in
theorem enc_yes (a t k r : Nat) (X : List Nat) (hr : r < 18446744073709551616) (h : mayF (a : Nat) (t : Nat) (k : Nat) X) (w0 : World) :
    Calls Try.prog 9 #[.agg #[iN a, iN t, iN k, iW r, sB X]] w0 fun e w' => e = .returned (.tuple #[.string (bs (encR (a : Nat) (t : Nat) (k : Nat) r X).1), iN ((encR (a : Nat) (t : Nat) (k : Nat) r X).2)]) ∧ Below w0.heap.size w0 w' := by
  refine enter_fr Try.func9 rfl Try.ntmps9 (by simp) fun ac (FF : Fr 27 ac [(0, aG #[iN a, iN t, iN k, iW r, sB X])]) => ?_
  have MM := MemS.start w0
  obtain ⟨hA, hT, hK, hL⟩ := id h
  have h3b : ∀ i, [a, t, k].getD i 0 < 256 := cons_lt (by omega) (cons_lt (by omega) (cons_lt (by omega) (lit_lt (by kernel_rfl))))
  refine wp_seq (rg_c FF MM [(1, t_ (sB []))] 4 [] [0] (fun bf => ⟨(by kernel_rfl), fun _ _ FF1 MM1 => then_n ?_⟩))
  refine wp_seq ?_
  refine wp_seq (rg_c FF1 MM1 [(0, b_ 0), (0, t_ (.bool true))] 4 [7] [] (⟨rfl, rfl, (callP_of en_may (may_any ((a : Nat) : Int) ((t : Nat) : Int) ((k : Nat) : Int) r X true (iff_of_true h rfl)) _), fun _ _ FF2 MM2 => then_n ?_⟩))
  refine wp_cond_false (FF2.ev 0 rfl) ?_
  refine wp_skip ?_
  refine then_n ?_
  refine wp_seq (rg_c FF2 MM2 [(1, l_ 0 (iN a)), (0, t_ (iB a)), (1, l_ 0 (iN t)), (0, t_ (iB t)), (1, l_ 0 (iN k)), (0, t_ (iB k)), (0, s_ 0 (.cells (cn .u8 ([a, t, k])) 5)), (0, l_ 0 (sB ([a, t, k])))] 5 [] [] (⟨rfl, rfl, (vI (Nat.mod_eq_of_lt (by omega))), rfl, rfl, (vI (Nat.mod_eq_of_lt (by omega))), rfl, rfl, (vI (Nat.mod_eq_of_lt (by omega))), (by kernel_rfl), fun bl => ⟨rfl, (str_all rfl h3b), fun _ _ FF3 MM3 => then_n ?_⟩⟩))
  refine wp_seq (rg_dc 10 FF3 MM3 [(2, l_ 1 (iW r)), (0, t_ (sB (leN 8 r))), (0, t_ (sB ([a, t, k] ++ leN 8 r))), (1, l_ 1 (sB X)), (0, t_ (sB (encF (a : Nat) (t : Nat) (k : Nat) r X)))] [] 4 [] [] (⟨rfl, rfl, (callP_of en_round (round_any r hr) _), (by simp only [bs_size, leN_len, List.length_cons, List.length_nil]; omega), (vS2 (bs_app _ _)), rfl, rfl, (by simp only [bs_size, List.length_append, leN_len, List.length_cons, List.length_nil]; omega), (vS2 ((bs_app _ _).trans (congrArg bs (enc3 _ _ _ _ _)))), fun _ _ FF4 MM4 => then_n ?_⟩))
  refine wp_ret ?_
  repeat first | refine then_ret ?_ | refine inb_ret ?_
  exact (ret_tup2 FF4 1 0 Try.results9 rfl rfl ⟨by rw [encR_yes h], MM4.below⟩)
set_option maxRecDepth 100000 in
theorem enc_no (a t k : Int) (r : Nat) (X : List Nat) (h : ¬ mayF a t k X) (w0 : World) :
    Calls Try.prog 9 #[.agg #[.int .i64 a, .int .i64 t, .int .i64 k, iW r, sB X]] w0 fun e w' => e = .returned (.tuple #[.string (bs (encR a t k r X).1), iN ((encR a t k r X).2)]) ∧ Below w0.heap.size w0 w' := by
  refine enter_fr Try.func9 rfl Try.ntmps9 (by simp) fun ac (FF : Fr 27 ac [(0, aG #[.int .i64 (a : Int), .int .i64 (t : Int), .int .i64 (k : Int), iW r, sB X])]) => ?_
  have MM := MemS.start w0
  refine wp_seq (rg_c FF MM [(1, t_ (sB []))] 4 [] [0] (fun bf => ⟨(by kernel_rfl), fun _ _ FF1 MM1 => then_n ?_⟩))
  refine wp_seq ?_
  refine wp_seq (rg_c FF1 MM1 [(0, b_ 0), (0, t_ (.bool false))] 4 [7] [] (⟨rfl, rfl, (callP_of en_may (may_any a t k r X false (iff_of_false h (by decide))) _), fun _ _ FF2 MM2 => then_n ?_⟩))
  refine wp_cond_true (FF2.ev 0 rfl) ?_
  refine wp_seq (rg_c FF2 MM2 [(0, t_ (sB []))] 4 [] [] (⟨(by kernel_rfl), fun _ _ FF3 MM3 => then_n ?_⟩))
  refine wp_ret ?_
  repeat first | refine then_ret ?_ | refine inb_ret ?_
  exact (ret_tup2 FF3 1 0 Try.results9 rfl rfl ⟨by rw [encR_no h], MM3.below⟩)
theorem enc_any (a t k : Int) (r : Nat) (X : List Nat) (hr : r < 18446744073709551616) (w : World) : Calls Try.prog 9 #[.agg #[.int .i64 a, .int .i64 t, .int .i64 k, iW r, sB X]] w fun e w' => e = .returned (.tuple #[.string (bs (encR a t k r X).1), iN ((encR a t k r X).2)]) ∧ Below w.heap.size w w' := by
  by_cases h : mayF a t k X
  · obtain ⟨h1, h2, h3, _⟩ := id h
    obtain ⟨a, rfl⟩ := Int.eq_ofNat_of_zero_le (a := a) (by omega)
    obtain ⟨t, rfl⟩ := Int.eq_ofNat_of_zero_le (a := t) (by omega)
    obtain ⟨k, rfl⟩ := Int.eq_ofNat_of_zero_le (a := k) (by omega)
    exact enc_yes a t k r X hr h w
  · exact enc_no a t k r X h w
set_option maxRecDepth 100000 in
theorem renc_yes (a t k r : Nat) (X : List Nat) (hr : r < 18446744073709551616) (h : mayF (a : Nat) (t : Nat) (k : Nat) X) (w0 : World) :
    Calls Try.prog 10 #[.agg #[iN a, iN t, iN k, iW r, sB X]] w0 fun e w' => e = .returned (.tuple #[.string (bs (encR (a : Nat) (t : Nat) (k : Nat) r X).1), iN ((encR (a : Nat) (t : Nat) (k : Nat) r X).2)]) ∧ Below w0.heap.size w0 w' := by
  refine enter_fr Try.func10 rfl Try.ntmps10 (by simp) fun ac (FF : Fr 25 ac [(0, aG #[iN a, iN t, iN k, iW r, sB X])]) => ?_
  have MM := MemS.start w0
  obtain ⟨hA, hT, hK, hL⟩ := id h
  have h3b : ∀ i, [a, t, k].getD i 0 < 256 := cons_lt (by omega) (cons_lt (by omega) (cons_lt (by omega) (lit_lt (by kernel_rfl))))
  refine wp_seq (rg_c FF MM [(1, t_ (sB []))] 4 [] [0] (fun bf => ⟨(by kernel_rfl), fun _ _ FF1 MM1 => then_n ?_⟩))
  refine wp_seq ?_
  refine wp_seq (rg_c FF1 MM1 [(0, b_ 0), (0, t_ (.bool true))] 4 [6] [] (⟨rfl, rfl, (callP_of en_rmay (rmay_any ((a : Nat) : Int) ((t : Nat) : Int) ((k : Nat) : Int) r X true (iff_of_true h rfl)) _), fun _ _ FF2 MM2 => then_n ?_⟩))
  refine wp_cond_false (FF2.ev 0 rfl) ?_
  refine wp_skip ?_
  refine then_n ?_
  refine wp_seq (rg_draw FF2 MM2 [.inl (pT bf), .inl (iN a), .inl (iB a), .inl (.pointer (some ⟨bf, 1, none⟩)), .inl (iN t), .inl (iB t), .inl (.pointer (some ⟨bf, 2, none⟩)), .inl (iN k), .inl (iB k), .inr (.cells (cn .u8 ([a, t, k])) 5, fun b => .slice (some ⟨b, 0, none⟩) 3 3), .inl (sB ([a, t, k])), .inl (.pointer (some ⟨bf, 3, none⟩)), .inl (iW r), .inl (sB (leN 8 r)), .inl (sB ([a, t, k] ++ leN 8 r)), .inl (.pointer (some ⟨bf, 4, none⟩)), .inl (sB X), .inl (sB (encF (a : Nat) (t : Nat) (k : Nat) r X)), .inl (sB (encF (a : Nat) (t : Nat) (k : Nat) r X)), .inl (iN 0)] [] [o_, l_ 0 (iN a), t_ (iB a), o_, l_ 0 (iN t), t_ (iB t), o_, l_ 0 (iN k), t_ (iB k), o_, l_ 0 (sB ([a, t, k])), o_, l_ 0 (iW r), t_ (sB (leN 8 r)), t_ (sB ([a, t, k] ++ leN 8 r)), o_, l_ 0 (sB X), t_ (sB (encF (a : Nat) (t : Nat) (k : Nat) r X)), o_, o_] [] [3, 2, 1] (fun nb => [bf = bf, (#[iN a, iN t, iN k, iW r, sB X] : Array Value)[0]? = some (iN a), iB (a % 256) = iB a, bf = bf, (#[iN a, iN t, iN k, iW r, sB X] : Array Value)[1]? = some (iN t), iB (t % 256) = iB t, bf = bf, (#[iN a, iN t, iN k, iW r, sB X] : Array Value)[2]? = some (iN k), iB (k % 256) = iB k, (nb 9) = (nb 9), StrAt (cn .u8 ([a, t, k])) 0 3 (bs ([a, t, k])), bf = bf, (#[iN a, iN t, iN k, iW r, sB X] : Array Value)[3]? = some (iW r), CallP Try.prog 17 [iW r] [] (sB (leN 8 r)), (bs ([a, t, k])).size + (bs (leN 8 r)).size ≤ 9223372036854775807, Value.string (bs ([a, t, k]) ++ bs (leN 8 r)) = sB ([a, t, k] ++ leN 8 r), bf = bf, (#[iN a, iN t, iN k, iW r, sB X] : Array Value)[4]? = some (sB X), (bs ([a, t, k] ++ leN 8 r)).size + (bs X).size ≤ 9223372036854775807, Value.string (bs ([a, t, k] ++ leN 8 r) ++ bs X) = sB (encF (a : Nat) (t : Nat) (k : Nat) r X)]) (fun nb Kt => Kt [(3, iN 0), (2, sB (encF (a : Nat) (t : Nat) (k : Nat) r X)), (1, pT bf)] [(bf, oC #[iN a, iN t, iN k, iW r, sB X] 31)]) (by kernel_rfl) (by kernel_rfl) (by kernel_rfl) (fun _ => by kernel_rfl) (fun _ _ => by kernel_rfl) trivial (fun nb => ⟨rfl, rfl, (vI (Nat.mod_eq_of_lt (by omega))), rfl, rfl, (vI (Nat.mod_eq_of_lt (by omega))), rfl, rfl, (vI (Nat.mod_eq_of_lt (by omega))), rfl, (str_all rfl h3b), rfl, rfl, (callP_of en_rround (rround_any r hr) _), (by simp only [bs_size, leN_len, List.length_cons, List.length_nil]; omega), (vS2 (bs_app _ _)), rfl, rfl, (by simp only [bs_size, List.length_append, leN_len, List.length_cons, List.length_nil]; omega), (vS2 ((bs_app _ _).trans (congrArg bs (enc3 _ _ _ _ _)))), trivial⟩) (fun nb => fun _ _ FF3 MM3 => then_n ?_))
  refine wp_ret ?_
  repeat first | refine then_ret ?_ | refine inb_ret ?_
  exact (ret_tup2 FF3 1 0 Try.results10 rfl rfl ⟨by rw [encR_yes h], MM3.below⟩)
set_option maxRecDepth 100000 in
theorem renc_no (a t k : Int) (r : Nat) (X : List Nat) (h : ¬ mayF a t k X) (w0 : World) :
    Calls Try.prog 10 #[.agg #[.int .i64 a, .int .i64 t, .int .i64 k, iW r, sB X]] w0 fun e w' => e = .returned (.tuple #[.string (bs (encR a t k r X).1), iN ((encR a t k r X).2)]) ∧ Below w0.heap.size w0 w' := by
  refine enter_fr Try.func10 rfl Try.ntmps10 (by simp) fun ac (FF : Fr 25 ac [(0, aG #[.int .i64 (a : Int), .int .i64 (t : Int), .int .i64 (k : Int), iW r, sB X])]) => ?_
  have MM := MemS.start w0
  refine wp_seq (rg_c FF MM [(1, t_ (sB []))] 4 [] [0] (fun bf => ⟨(by kernel_rfl), fun _ _ FF1 MM1 => then_n ?_⟩))
  refine wp_seq ?_
  refine wp_seq (rg_c FF1 MM1 [(0, b_ 0), (0, t_ (.bool false))] 4 [6] [] (⟨rfl, rfl, (callP_of en_rmay (rmay_any a t k r X false (iff_of_false h (by decide))) _), fun _ _ FF2 MM2 => then_n ?_⟩))
  refine wp_cond_true (FF2.ev 0 rfl) ?_
  refine wp_seq (rg_c FF2 MM2 [(0, t_ (sB []))] 4 [] [] (⟨(by kernel_rfl), fun _ _ FF3 MM3 => then_n ?_⟩))
  refine wp_ret ?_
  repeat first | refine then_ret ?_ | refine inb_ret ?_
  exact (ret_tup2 FF3 1 0 Try.results10 rfl rfl ⟨by rw [encR_no h], MM3.below⟩)
theorem renc_any (a t k : Int) (r : Nat) (X : List Nat) (hr : r < 18446744073709551616) (w : World) : Calls Try.prog 10 #[.agg #[.int .i64 a, .int .i64 t, .int .i64 k, iW r, sB X]] w fun e w' => e = .returned (.tuple #[.string (bs (encR a t k r X).1), iN ((encR a t k r X).2)]) ∧ Below w.heap.size w w' := by
  by_cases h : mayF a t k X
  · obtain ⟨h1, h2, h3, _⟩ := id h
    obtain ⟨a, rfl⟩ := Int.eq_ofNat_of_zero_le (a := a) (by omega)
    obtain ⟨t, rfl⟩ := Int.eq_ofNat_of_zero_le (a := t) (by omega)
    obtain ⟨k, rfl⟩ := Int.eq_ofNat_of_zero_le (a := k) (by omega)
    exact renc_yes a t k r X hr h w
  · exact renc_no a t k r X h w
end Go.Proofs.Ytiekpglkkfllfaa
namespace Go.Proofs.Ytiekpglkkfllfaa
open Go.RowKit
set_option maxRecDepth 100000 in
theorem number_any (X : List Nat) (hX : ∀ i, X.getD i 0 < 256) (hl : X.length = 8) (w0 : World) :
    Calls Try.prog 18 #[sB X] w0 fun e w' => e = .returned (iW (leS X 8)) ∧ Below w0.heap.size w0 w' := by
  refine enter_fr Try.func18 rfl Try.ntmps18 (by simp) fun ac (FF : Fr 21 ac [(0, sB X)]) => ?_
  have MM := MemS.start w0
  refine wp_seq (rg_c FF MM [] 3 [] [] (fun _ _ FF1 MM1 => then_n ?_))
  refine wp_seq (rg_c FF1 MM1 [] 4 [] [] (fun _ _ FF2 MM2 => then_n ?_))
  refine wp_seq ?_
  refine wp_seq (rg_c FF2 MM2 [(1, t_ (iN X.length))] 8 [] [5] (⟨(vI (bs_size _)), fun _ _ FF3 MM3 => then_n ?_⟩))
  refine wp_for (fun a' w' => ∃ i : Nat, i ≤ 8 ∧ Fr 21 a' [(7, iN i), (6, iN X.length), (3, iW (leS X i)), (2, iW 0), (0, sB X)] ∧ MemS (fun k => k < w0.heap.size) w0 w' [] []) (fun a' _ => (8 - cnt 7 a').toNat) ⟨0, Nat.zero_le _, FF3.pick [0, 1, 2, 3, 4], MM3⟩ ?_
  rintro ac4 wd4 ⟨i, hi, FF4, MM4⟩
  have hc := cnt_of (FF4.get 0 rfl)
  refine rg_c FF4 MM4 [] 9 [] [] (fun _ _ FF5 MM5 => ?_)
  by_cases hlt : i < X.length
  · skip
    refine then_n (.inl ⟨(FF5.ev 0 rfl).trans (dec_t hlt), ?_⟩)
    refine wp_seq (rg_c FF5 MM5 [] 8 [] [] (fun _ _ FF6 MM6 => then_n ?_))
    refine rg_c FF6 MM6 [(3, t_ (iB (X.getD i 0))), (0, w_ 1), (2, t_ (iW (X.getD i 0 * 2 ^ (8 * i)))), (0, t_ (iW (leS X (i + 1))))] 8 [] [] (⟨(by simp only [bs_size]; omega), (byte_bs hX _), (by have := hX i; omega), by omega, (vI (Nat.mod_eq_of_lt (leS_fit hX (by omega)))), (leS_low hX hi), (leS_fit hX (by omega)), (vI (leS_or hX i)), fun _ _ FF7 MM7 => ?_⟩)
    refine inb_n (then_n ?_)
    refine rg_c FF7 MM7 [] 8 [] [] (⟨by omega, fun _ _ FF8 MM8 => ?_⟩)
    have hd := cnt_of (FF8.get 0 rfl)
    refine then_n ⟨⟨i + 1, by omega, FF8.pick [0, 3, 1, 4, 5], MM8⟩, ?_⟩
    rw [hc, hd]; omega
  · skip
    refine then_n (.inr ⟨(FF5.ev 0 rfl).trans (dec_f hlt), ?_⟩)
    obtain rfl : i = 8 := by omega
    refine then_n ?_
    refine wp_seq (rg_c FF5 MM5 [] 8 [] [] (fun _ _ FF9 MM9 => then_n ?_))
    refine wp_ret ?_
    repeat first | refine then_ret ?_ | refine inb_ret ?_
    exact (ret_fr FF9 0 Try.results18 rfl ⟨rfl, MM9.below⟩)
set_option maxRecDepth 100000 in
theorem dec_any (X : List Nat) (hX : ∀ i, X.getD i 0 < 256) (hl : X.length ≤ 1000000) (w0 : World) :
    Calls Try.prog 11 #[sB X] w0 fun e w' => e = .returned (.tuple #[.agg #[iN (decN X 0), iN (decN X 1), iN (decN X 2), iW (decN X 3), sB (decX X)], iN (decN X 4)]) ∧ Below w0.heap.size w0 w' := by
  refine enter_fr Try.func11 rfl Try.ntmps11 (by simp) fun ac (FF : Fr 33 ac [(0, sB X)]) => ?_
  have MM := MemS.start w0
  refine wp_seq (rg_c FF MM [] 4 [] [] (fun br => fun _ _ FF1 MM1 => then_n ?_))
  refine wp_seq ?_
  refine wp_seq (rg_c FF1 MM1 [(1, t_ (iN X.length))] 4 [7] [] (⟨(vI (bs_size _)), fun _ _ FF2 MM2 => then_n ?_⟩))
  by_cases hs7 : X.length < 11
  · refine wp_cond_true ((FF2.ev 0 rfl).trans (dec_t hs7)) ?_
    have hF : ¬ IsF X := fun q => by have := q.1; omega
    refine wp_seq (rg_c FF2 MM2 [(0, t_ (aG #[iN 0, iN 0, iN 0, iW 0, sB []])), (0, b_ 0)] 4 [] [] (⟨(by kernel_rfl), rfl, rfl, rfl, (by kernel_rfl), rfl, fun _ _ FF3 MM3 => then_n ?_⟩))
    refine wp_ret ?_
    repeat first | refine then_ret ?_ | refine inb_ret ?_
    exact (ret_ct FF3 MM3 (k := 5) (i := 0) (j := 1) (m := 0) Try.results11 rfl rfl rfl Try.underlying24 rfl (by kernel_rfl) rfl ⟨by rw [decN_no hF, decN_no hF, decN_no hF, decN_no hF, decN_no hF, decX_no hF]; try rfl, MM3.below⟩)
  · refine wp_cond_false ((FF2.ev 0 rfl).trans (dec_f hs7)) ?_
    refine wp_skip ?_
    refine then_n ?_
    have hlt11 : ∀ i, ((X.take 11).drop 3).getD i 0 < 256 := drop_lt (take_lt hX)
    have hl8 : ((X.take 11).drop 3).length = 8 := by rw [List.length_drop, List.length_take]; omega
    refine wp_seq (rg_draw FF2 MM2 [.inl (sB X), .inl (iB (X.getD 0 0)), .inl (iN (X.getD 0 0)), .inl (sB X), .inl (iB (X.getD 1 0)), .inl (iN (X.getD 1 0)), .inl (sB X), .inl (iB (X.getD 2 0)), .inl (iN (X.getD 2 0)), .inl (sB X), .inl (sB ((X.take 11).drop 3)), .inl (iW (leS (X.drop 3) 8)), .inl (sB X), .inl (sB (X.drop 11)), .inl (aG #[iN (X.getD 0 0), iN (X.getD 1 0), iN (X.getD 2 0), iW (leS (X.drop 3) 8), sB (X.drop 11)]), .inr (oC #[iN 0, iN 0, iN 0, iW 0, sB []] 24, fun b => pT b)] [15] [o_, t_ (iB (X.getD 0 0)), w_ 1, o_, t_ (iB (X.getD 1 0)), w_ 1, o_, t_ (iB (X.getD 2 0)), w_ 1, o_, t_ (sB ((X.take 11).drop 3)), t_ (iW (leS (X.drop 3) 8)), o_, t_ (sB (X.drop 11)), o_, o_] [b_ 0] [3, 2, 0, 4] (fun nb => [0 < (bs X).size, (nl (bs X)).getD 0 0 = X.getD 0 0, (X.getD 0 0) < 9223372036854775808, 1 < (bs X).size, (nl (bs X)).getD 1 0 = X.getD 1 0, (X.getD 1 0) < 9223372036854775808, 2 < (bs X).size, (nl (bs X)).getD 2 0 = X.getD 2 0, (X.getD 2 0) < 9223372036854775808, 3 ≤ 11, 11 ≤ (bs X).size, Value.string ((bs X).extract 3 11) = sB ((X.take 11).drop 3), CallP Try.prog 18 [sB ((X.take 11).drop 3)] [] (iW (leS (X.drop 3) 8)), 11 ≤ (bs X).size, 0 ≤ (bs X).size, Value.string ((bs X).extract 11 (bs X).size) = sB (X.drop 11)]) (fun nb Kt => (nb 15) = (nb 15) ∧ (#[iN 0, iN 0, iN 0, iW 0, sB []] : Array Value).size = 5 ∧ (#[iN (X.getD 0 0), iN (X.getD 1 0), iN (X.getD 2 0), iW (leS (X.drop 3) 8), sB (X.drop 11)] : Array Value).size = 5 ∧ (#[iN (X.getD 0 0), iN (X.getD 1 0), iN (X.getD 2 0), iW (leS (X.drop 3) 8), sB (X.drop 11)] : Array Value).all (·.oneCell') = true ∧ (0, 0).2 = 0 ∧ Kt [(4, pT (nb 15)), (3, iN 0), (2, pT br), (0, sB X)] [((nb 15), oC #[iN (X.getD 0 0), iN (X.getD 1 0), iN (X.getD 2 0), iW (leS (X.drop 3) 8), sB (X.drop 11)] 24), (br, oC #[iN 0, iN 0, iN 0, iW 0, sB []] 24)]) (by kernel_rfl) (by kernel_rfl) (by kernel_rfl) (fun _ => by kernel_rfl) (fun _ _ => by kernel_rfl) ⟨⟨_, rfl⟩, rfl, trivial⟩ (fun nb => ⟨(by simp only [bs_size]; omega), (byte_bs hX _), (by have := hX 0; omega), (by simp only [bs_size]; omega), (byte_bs hX _), (by have := hX 1; omega), (by simp only [bs_size]; omega), (byte_bs hX _), (by have := hX 2; omega), by omega, (by simp only [bs_size]; omega), (vS2 (bs_extract _ _ _)), (callP_of en_number (fun w => by have h0 := number_any ((X.take 11).drop 3) hlt11 hl8 w; rw [cut8 X] at h0; exact h0) _), (by simp only [bs_size]; omega), (Nat.zero_le _), (vS2 (bs_from _ _)), trivial⟩) (fun nb => ⟨rfl, rfl, rfl, (by kernel_rfl), rfl, fun _ _ FF4 MM4 => then_n ?_⟩))
    generalize nb 15 = bf at *
    refine wp_seq ?_
    by_cases hm : mayF (X.getD 0 0 : Nat) (X.getD 1 0 : Nat) (X.getD 2 0 : Nat) (X.drop 11)
    · skip
      have hF : IsF X := ⟨by omega, hm⟩
      refine wp_seq (rg_c FF4 MM4 [(0, b_ 0), (0, t_ (.bool true))] 5 [26] [] (⟨rfl, rfl, (callP_of en_may (may_any ((X.getD 0 0 : Nat) : Int) ((X.getD 1 0 : Nat) : Int) ((X.getD 2 0 : Nat) : Int) (leS (X.drop 3) 8) (X.drop 11) true (iff_of_true hm rfl)) _), fun _ _ FF5 MM5 => then_n ?_⟩))
      refine wp_cond_false (FF5.ev 0 rfl) ?_
      refine wp_skip ?_
      refine then_n ?_
      refine wp_seq (rg_c FF5 MM5 [(1, l_ 0 (sB (X.drop 11))), (0, t_ (sB (X.drop 11))), (1, s_ 0 (oC #[iN (X.getD 0 0), iN (X.getD 1 0), iN (X.getD 2 0), iW (leS (X.drop 3) 8), sB (X.drop 11)] 24))] 5 [] [] (⟨rfl, rfl, (callP_of en_clone (clone_any (X.drop 11) (drop_lt hX) (by rw [List.length_drop]; omega)) _), rfl, (by simp), (.inl rfl), rfl, fun _ _ FF6 MM6 => then_n ?_⟩))
      refine wp_seq (rg_c FF6 MM6 [(0, b_ 0), (0, b_ 1)] 5 [] [] (⟨rfl, rfl, rfl, rfl, rfl, (by kernel_rfl), rfl, fun _ _ FF7 MM7 => then_n ?_⟩))
      refine wp_ret ?_
      repeat first | refine then_ret ?_ | refine inb_ret ?_
      exact (ret_ct FF7 MM7 (k := 5) (i := 1) (j := 2) (m := 0) Try.results11 rfl rfl rfl Try.underlying24 rfl (by kernel_rfl) rfl ⟨by rw [decN_yes hF, decN_yes hF, decN_yes hF, decN_yes hF, decN_yes hF, decX_yes hF, at5_0, at5_1, at5_2, at5_3, at5_4]; try rfl, MM7.below⟩)
    · skip
      have hF : ¬ IsF X := fun q => hm q.2
      refine wp_seq (rg_c FF4 MM4 [(0, b_ 0), (0, t_ (.bool false))] 5 [26] [] (⟨rfl, rfl, (callP_of en_may (may_any ((X.getD 0 0 : Nat) : Int) ((X.getD 1 0 : Nat) : Int) ((X.getD 2 0 : Nat) : Int) (leS (X.drop 3) 8) (X.drop 11) false (iff_of_false hm (by decide))) _), fun _ _ FF8 MM8 => then_n ?_⟩))
      refine wp_cond_true (FF8.ev 0 rfl) ?_
      refine wp_seq (rg_c FF8 MM8 [(0, t_ (aG #[iN 0, iN 0, iN 0, iW 0, sB []])), (0, b_ 1)] 5 [] [] (⟨(by kernel_rfl), rfl, rfl, rfl, (by kernel_rfl), rfl, fun _ _ FF9 MM9 => then_n ?_⟩))
      refine wp_ret ?_
      repeat first | refine then_ret ?_ | refine inb_ret ?_
      exact (ret_ct FF9 MM9 (k := 5) (i := 1) (j := 2) (m := 0) Try.results11 rfl rfl rfl Try.underlying24 rfl (by kernel_rfl) rfl ⟨by rw [decN_no hF, decN_no hF, decN_no hF, decN_no hF, decN_no hF, decX_no hF]; try rfl, MM9.below⟩)
theorem dec_told {Y : List Nat} {a t k : Int} {r : Nat} {X : List Nat} (e : Y = encF a t k r X) (h : mayF a t k X) (hr : r < 18446744073709551616) (hY : ∀ i, Y.getD i 0 < 256) (hl : Y.length ≤ 1000000) (w : World) :
    Calls Try.prog 11 #[sB Y] w fun e w' => e = .returned (.tuple #[.agg #[.int .i64 a, .int .i64 t, .int .i64 k, iW r, sB X], iN 0]) ∧ Below w.heap.size w w' := by
  refine (dec_any Y hY hl w).mono fun e' w' ⟨h1, h2⟩ => ⟨h1.trans ?_, h2⟩
  obtain ⟨q0, q1, q2, q3, q4, q5⟩ := dec_encF h hr
  subst e
  simp only [iN, iW, sB]
  rw [q0, q1, q2, q3, q4, q5]
set_option maxRecDepth 100000 in
theorem rdec_any (X : List Nat) (hX : ∀ i, X.getD i 0 < 256) (hl : X.length ≤ 1000000) (w0 : World) :
    Calls Try.prog 12 #[sB X] w0 fun e w' => e = .returned (.tuple #[.agg #[iN (decN X 0), iN (decN X 1), iN (decN X 2), iW (decN X 3), sB (decX X)], iN (decN X 4)]) ∧ Below w0.heap.size w0 w' := by
  refine enter_fr Try.func12 rfl Try.ntmps12 (by simp) fun ac (FF : Fr 41 ac [(0, sB X)]) => ?_
  have MM := MemS.start w0
  have h3 : ∀ i, (X.drop 3).getD i 0 < 256 := drop_lt hX
  refine wp_seq (rg_c FF MM [] 4 [] [] (fun br => fun _ _ FF1 MM1 => then_n ?_))
  refine wp_seq ?_
  refine wp_seq (rg_c FF1 MM1 [(1, t_ (iN X.length))] 4 [8] [] (⟨(vI (bs_size _)), fun _ _ FF2 MM2 => then_n ?_⟩))
  by_cases hs8 : X.length < 11
  · refine wp_cond_true ((FF2.ev 0 rfl).trans (dec_t hs8)) ?_
    have hF : ¬ IsF X := fun q => by have := q.1; omega
    refine wp_seq (rg_c FF2 MM2 [(0, t_ (aG #[iN 0, iN 0, iN 0, iW 0, sB []])), (0, b_ 0)] 4 [] [] (⟨(by kernel_rfl), rfl, rfl, rfl, (by kernel_rfl), rfl, fun _ _ FF3 MM3 => then_n ?_⟩))
    refine wp_ret ?_
    repeat first | refine then_ret ?_ | refine inb_ret ?_
    exact (ret_ct FF3 MM3 (k := 5) (i := 0) (j := 1) (m := 0) Try.results12 rfl rfl rfl Try.underlying31 rfl (by kernel_rfl) rfl ⟨by rw [decN_no hF, decN_no hF, decN_no hF, decN_no hF, decN_no hF, decX_no hF]; try rfl, MM3.below⟩)
  · refine wp_cond_false ((FF2.ev 0 rfl).trans (dec_f hs8)) ?_
    refine wp_skip ?_
    refine then_n ?_
    refine wp_seq (rg_draw FF2 MM2 [.inl (sB X), .inl (iB (X.getD 0 0)), .inl (iN (X.getD 0 0)), .inl (sB X), .inl (iB (X.getD 1 0)), .inl (iN (X.getD 1 0)), .inl (sB X), .inl (iB (X.getD 2 0)), .inl (iN (X.getD 2 0)), .inl (sB X), .inl (sB (X.drop 11)), .inl (aG #[iN (X.getD 0 0), iN (X.getD 1 0), iN (X.getD 2 0), iW 0, sB (X.drop 11)]), .inr (oC #[iN 0, iN 0, iN 0, iW 0, sB []] 31, fun b => pT b)] [12] [o_, t_ (iB (X.getD 0 0)), w_ 1, o_, t_ (iB (X.getD 1 0)), w_ 1, o_, t_ (iB (X.getD 2 0)), w_ 1, o_, t_ (sB (X.drop 11)), o_, o_] [b_ 0] [3, 2, 0, 4] (fun nb => [0 < (bs X).size, (nl (bs X)).getD 0 0 = X.getD 0 0, (X.getD 0 0) < 9223372036854775808, 1 < (bs X).size, (nl (bs X)).getD 1 0 = X.getD 1 0, (X.getD 1 0) < 9223372036854775808, 2 < (bs X).size, (nl (bs X)).getD 2 0 = X.getD 2 0, (X.getD 2 0) < 9223372036854775808, 11 ≤ (bs X).size, 0 ≤ (bs X).size, Value.string ((bs X).extract 11 (bs X).size) = sB (X.drop 11)]) (fun nb Kt => (nb 12) = (nb 12) ∧ (#[iN 0, iN 0, iN 0, iW 0, sB []] : Array Value).size = 5 ∧ (#[iN (X.getD 0 0), iN (X.getD 1 0), iN (X.getD 2 0), iW 0, sB (X.drop 11)] : Array Value).size = 5 ∧ (#[iN (X.getD 0 0), iN (X.getD 1 0), iN (X.getD 2 0), iW 0, sB (X.drop 11)] : Array Value).all (·.oneCell') = true ∧ (0, 0).2 = 0 ∧ Kt [(4, pT (nb 12)), (3, iN 0), (2, pT br), (0, sB X)] [((nb 12), oC #[iN (X.getD 0 0), iN (X.getD 1 0), iN (X.getD 2 0), iW 0, sB (X.drop 11)] 31), (br, oC #[iN 0, iN 0, iN 0, iW 0, sB []] 31)]) (by kernel_rfl) (by kernel_rfl) (by kernel_rfl) (fun _ => by kernel_rfl) (fun _ _ => by kernel_rfl) ⟨⟨_, rfl⟩, rfl, trivial⟩ (fun nb => ⟨(by simp only [bs_size]; omega), (byte_bs hX _), (by have := hX 0; omega), (by simp only [bs_size]; omega), (byte_bs hX _), (by have := hX 1; omega), (by simp only [bs_size]; omega), (byte_bs hX _), (by have := hX 2; omega), (by simp only [bs_size]; omega), (Nat.zero_le _), (vS2 (bs_from _ _)), trivial⟩) (fun nb => ⟨rfl, rfl, rfl, (by kernel_rfl), rfl, fun _ _ FF4 MM4 => then_n ?_⟩))
    generalize nb 12 = bf at *
    refine wp_seq ?_
    refine wp_seq (rg_c FF4 MM4 [] 6 [] [] (fun _ _ FF5 MM5 => then_n ?_))
    refine wp_for2 (fun a' w' => ∃ j : Nat, j ≤ 8 ∧ Fr 41 a' [(5, .int .i64 (((j : Nat) : Int) - 1 : Int)), (4, pT bf), (3, iN 0), (2, pT br), (0, sB X)] ∧ MemS (fun k => k < w0.heap.size) w0 w' [(bf, oC #[iN (X.getD 0 0), iN (X.getD 1 0), iN (X.getD 2 0), iW (leH (X.drop 3) (8 - j)), sB (X.drop 11)] 31), (br, oC #[iN 0, iN 0, iN 0, iW 0, sB []] 31)] []) (fun a' _ => (cnt 5 a' + 1).toNat) ⟨8, Nat.le_refl _, FF5.pick [0, 1, 2, 3, 4], MM5⟩ ?_
    rintro ac6 wd6 ⟨j, hj, FF6, MM6⟩
    have hc := cnt_of (FF6.get 0 rfl)
    refine rg_c FF6 MM6 [(1, w_ 4)] 6 [23] [] (fun _ wd7 FF7 MM7 => ?_)
    by_cases hlt : (((j : Nat) : Int) - 1) ≥ ((0 : Nat) : Int)
    · skip
      refine then_n (.inl ⟨(FF7.ev 0 rfl).trans (dec_t hlt), ?_⟩)
      obtain ⟨j, rfl⟩ : ∃ z, j = z + 1 := ⟨j - 1, by omega⟩
      refine rg_dc 10 FF7 MM7 [(1, l_ 0 (iW (leH (X.drop 3) (8 - (j + 1))))), (0, t_ (iW (leH (X.drop 3) (8 - (j + 1)) * 256))), (2, u_ 4 (iN (3 + j))), (0, t_ (iB ((X.drop 3).getD j 0))), (0, w_ 1), (0, t_ (iW (leH (X.drop 3) (8 - j))))] [(0, s_ 0 (oC #[iN (X.getD 0 0), iN (X.getD 1 0), iN (X.getD 2 0), iW (leH (X.drop 3) (8 - j)), sB (X.drop 11)] 31))] 6 [] [] (⟨rfl, rfl, (vI (Nat.mod_eq_of_lt (leH_fit h3 (by omega)))), by omega, by omega, (vZ (by omega)), (by simp only [bs_size]; omega), ((byte_bs hX _).trans (dropD X 3 j).symm), (by have := h3 j; omega), (leH_fit h3 (by omega)), (Nat.lt_of_lt_of_le (h3 j) (by decide)), (vI (leH_step h3 (by omega))), rfl, (by simp), (.inl rfl), rfl, fun _ _ FF8 MM8 => ?_⟩)
      refine inb_n (then_n ?_)
      refine rg_c FF8 MM8 [(1, u_ 4 (.int .i64 (((j : Nat) : Int) - 1 : Int)))] 6 [] [] (⟨by omega, by omega, (vZ (by omega)), fun _ _ FF9 MM9 => ?_⟩)
      have hd := cnt_of (FF9.get 0 rfl)
      refine then_n ⟨⟨j, by omega, FF9.pick [0, 1, 2, 3, 4], MM9⟩, ?_⟩
      rw [hc, hd]; omega
    · skip
      refine then_n (.inr ⟨(FF7.ev 0 rfl).trans (dec_f hlt), ?_⟩)
      obtain rfl : j = 0 := by omega
      have MMr37 : MemS (fun k => k < w0.heap.size) w0 wd7 [(bf, oC #[iN (X.getD 0 0), iN (X.getD 1 0), iN (X.getD 2 0), iW (leS (X.drop 3) 8), sB (X.drop 11)] 31), (br, oC #[iN 0, iN 0, iN 0, iW 0, sB []] 31)] [] := by rw [← leH_eq]; exact MM7
      refine then_n ?_
      refine wp_seq ?_
      by_cases hm : mayF (X.getD 0 0 : Nat) (X.getD 1 0 : Nat) (X.getD 2 0 : Nat) (X.drop 11)
      · skip
        have hF : IsF X := ⟨by omega, hm⟩
        refine wp_seq (rg_c FF7 MMr37 [(0, b_ 0), (0, t_ (.bool true))] 6 [38] [] (⟨rfl, rfl, (callP_of en_rmay (rmay_any ((X.getD 0 0 : Nat) : Int) ((X.getD 1 0 : Nat) : Int) ((X.getD 2 0 : Nat) : Int) (leS (X.drop 3) 8) (X.drop 11) true (iff_of_true hm rfl)) _), fun _ _ FF10 MM10 => then_n ?_⟩))
        refine wp_cond_false (FF10.ev 0 rfl) ?_
        refine wp_skip ?_
        refine then_n ?_
        refine wp_seq (rg_c FF10 MM10 [(0, b_ 0), (0, b_ 1)] 6 [] [] (⟨rfl, rfl, rfl, rfl, rfl, (by kernel_rfl), rfl, fun _ _ FF11 MM11 => then_n ?_⟩))
        refine wp_ret ?_
        repeat first | refine then_ret ?_ | refine inb_ret ?_
        exact (ret_ct FF11 MM11 (k := 5) (i := 1) (j := 3) (m := 0) Try.results12 rfl rfl rfl Try.underlying31 rfl (by kernel_rfl) rfl ⟨by rw [decN_yes hF, decN_yes hF, decN_yes hF, decN_yes hF, decN_yes hF, decX_yes hF, at5_0, at5_1, at5_2, at5_3, at5_4]; try rfl, MM11.below⟩)
      · skip
        have hF : ¬ IsF X := fun q => hm q.2
        refine wp_seq (rg_c FF7 MMr37 [(0, b_ 0), (0, t_ (.bool false))] 6 [38] [] (⟨rfl, rfl, (callP_of en_rmay (rmay_any ((X.getD 0 0 : Nat) : Int) ((X.getD 1 0 : Nat) : Int) ((X.getD 2 0 : Nat) : Int) (leS (X.drop 3) 8) (X.drop 11) false (iff_of_false hm (by decide))) _), fun _ _ FF12 MM12 => then_n ?_⟩))
        refine wp_cond_true (FF12.ev 0 rfl) ?_
        refine wp_seq (rg_c FF12 MM12 [(0, t_ (aG #[iN 0, iN 0, iN 0, iW 0, sB []])), (0, b_ 1)] 6 [] [] (⟨(by kernel_rfl), rfl, rfl, rfl, (by kernel_rfl), rfl, fun _ _ FF13 MM13 => then_n ?_⟩))
        refine wp_ret ?_
        repeat first | refine then_ret ?_ | refine inb_ret ?_
        exact (ret_ct FF13 MM13 (k := 5) (i := 1) (j := 3) (m := 0) Try.results12 rfl rfl rfl Try.underlying31 rfl (by kernel_rfl) rfl ⟨by rw [decN_no hF, decN_no hF, decN_no hF, decN_no hF, decN_no hF, decX_no hF]; try rfl, MM13.below⟩)
end Go.Proofs.Ytiekpglkkfllfaa
namespace Go.Proofs.Ytiekpglkkfllfaa
open Go.RowKit
theorem en_wakes : Enters Try.prog 8 := fun args w => by simp [go_sem]
theorem eqB_same {P : Program} {l : Slots} {L : Blks} {o : Oper} {p : Bool} (h : RunV P l L o (.bool (p == p))) : RunV P l L o (.bool true) := by rwa [beq_self_eq_true] at h
theorem may1 : mayF ((1 : Nat) : Int) ((4 : Nat) : Int) ((1 : Nat) : Int) [] := by decide
theorem enc1 : encF ((1 : Nat) : Int) ((4 : Nat) : Int) ((1 : Nat) : Int) 1 [] = [1, 4, 1, 1, 0, 0, 0, 0, 0, 0, 0] := by decide
theorem may0 : ¬ mayF ((0 : Nat) : Int) ((0 : Nat) : Int) ((0 : Nat) : Int) [] := by decide
set_option maxRecDepth 100000 in
theorem wakes_any  (w0 : World) :
    Calls Try.prog 8 #[] w0 fun e w' => e = .returned (.bool true) ∧ Below w0.heap.size w0 w' := by
  refine enter_fr Try.func8 rfl Try.ntmps8 (by simp) fun ac (FF : Fr 54 ac []) => ?_
  have MM := MemS.start w0
  refine wp_seq (rg_c FF MM [] 1 [] [] (fun _ _ FF1 MM1 => then_n ?_))
  refine wp_seq (rg_c FF1 MM1 [(0, t_ (aG #[iN 1, iN 4, iN 1, iW 1, sB []])), (1, b_ 0)] 2 [] [] (⟨(by kernel_rfl), fun b1 => ⟨rfl, rfl, rfl, (by kernel_rfl), rfl, fun _ _ FF2 MM2 => then_n ?_⟩⟩))
  refine wp_seq (rg_c FF2 MM2 [(0, b_ 0), (0, t_ (.tuple #[sB ([1, 4, 1, 1, 0, 0, 0, 0, 0, 0, 0]), iN 0]))] 4 [] [] (⟨rfl, rfl, (callP_of en_enc (fun w => by have h0 := enc_any ((1 : Nat) : Int) ((4 : Nat) : Int) ((1 : Nat) : Int) 1 [] (by decide) w; rw [encR_yes may1, enc1] at h0; exact h0) _), fun _ _ FF3 MM3 => then_n ?_⟩))
  refine wp_seq (rg_c FF3 MM3 [(1, t_ (.tuple #[aG #[iN 1, iN 4, iN 1, iW 1, sB []], iN 0])), (4, b_ 0)] 6 [] [] (⟨(callP_of en_dec (dec_told enc1.symm may1 (by decide) (lit_lt (by kernel_rfl)) (by decide)) _), fun b2 => ⟨rfl, rfl, rfl, (by kernel_rfl), rfl, fun _ _ FF4 MM4 => then_n ?_⟩⟩))
  refine wp_seq (rg_c FF4 MM4 [(0, t_ (.tuple #[iN 0, .bool true]))] 8 [] [] (⟨(callP_of en_user (by have h0 := user_any ((4 : Nat) : Int); rw [usrZ_yes (by decide), show decide (4 ≤ ((4 : Nat) : Int) ∧ ((4 : Nat) : Int) < 10) = true from decide_eq_true (by decide)] at h0; exact h0) _), fun _ _ FF5 MM5 => then_n ?_⟩))
  refine wp_seq (rg_c FF5 MM5 [(1, w_ 2), (2, w_ 2), (2, b_ 1), (0, b_ 0), (0, f_ (.bool true)), (3, w_ 2), (3, w_ 2), (5, b_ 1), (0, t_ (.bool true)), (2, t_ (aG #[iN 0, iN 0, iN 0, iW 0, sB []])), (0, t_ (.bool false))] 3 [4] [] (⟨by decide, by decide, rfl, rfl, rfl, rfl, (eqF_ok (t := 24) (t' := 24) (x := (.tmp 30)) (y := (.tmp 31)) (p := (((1 : Nat) : Int) = ((1 : Nat) : Int) ∧ ((4 : Nat) : Int) = ((4 : Nat) : Int) ∧ ((1 : Nat) : Int) = ((1 : Nat) : Int) ∧ ((1 : Nat) : Int) = ((1 : Nat) : Int) ∧ bs [] = bs [] ∧ True)) (by kernel_rfl) Try.underlying24 (by kernel_rfl) (by kernel_rfl) rfl rfl (by kernel_rfl) (iff_of_true ⟨rfl, rfl, rfl, rfl, rfl, trivial⟩ rfl)), rfl, by decide, rfl, rfl, (callP_of en_may (may_any ((1 : Nat) : Int) ((4 : Nat) : Int) ((1 : Nat) : Int) 1 [] true (iff_of_true may1 rfl)) _), (by kernel_rfl), (callP_of en_may (may_any ((0 : Nat) : Int) ((0 : Nat) : Int) ((0 : Nat) : Int) 0 [] false (iff_of_false may0 (by decide))) _), fun _ _ FF6 MM6 => then_n ?_⟩))
  refine wp_ret ?_
  repeat first | refine then_ret ?_ | refine inb_ret ?_
  exact (ret_fr FF6 0 Try.results8 rfl ⟨rfl, MM6.below⟩)
end Go.Proofs.Ytiekpglkkfllfaa
namespace Go.Proofs.Ytiekpglkkfllfaa
open Go.RowKit
set_option maxHeartbeats 1000000 in
set_option maxRecDepth 100000 in
theorem tells_any (a t k : Int) (r : Nat) (hr : r < 18446744073709551616) (X : List Nat) (_hX : ∀ i, X.getD i 0 < 256) (Y : List Nat) (hY : ∀ i, Y.getD i 0 < 256) (z : Int) (w0 : World) :
    Calls Try.prog 3 #[.agg #[.int .i64 a, .int .i64 t, .int .i64 k, iW r, sB X], sB Y, .int .i64 z] w0 fun e w' => e = .returned (.bool true) ∧ Below w0.heap.size w0 w' := by
  refine enter_fr Try.func3 rfl Try.ntmps3 (by simp) fun ac (FF : Fr 107 ac [(0, aG #[.int .i64 (a : Int), .int .i64 (t : Int), .int .i64 (k : Int), iW r, sB X]), (1, sB Y), (2, .int .i64 (z : Int))]) => ?_
  have MM := MemS.start w0
  refine wp_seq (rg_c FF MM [] 7 [] [0] (fun bf => fun _ _ FF1 MM1 => then_n ?_))
  refine wp_seq ?_
  by_cases a1 : X.length > 400
  · skip
    refine wp_seq (rg_c FF1 MM1 [(1, l_ 0 (sB X)), (0, t_ (iN X.length)), (0, w_ 2)] 7 [26] [] (⟨rfl, rfl, (vI (bs_size _)), a1, fun _ _ FF2 MM2 => then_n ?_⟩))
    refine wp_cond_true (FF2.ev 0 rfl) ?_
    refine wp_seq (rg_c FF2 MM2 [(0, t_ (.bool true))] 7 [] [] (⟨(callP_of en_wakes wakes_any _), fun _ _ FF3 MM3 => then_n ?_⟩))
    refine wp_ret ?_
    repeat first | refine then_ret ?_ | refine inb_ret ?_
    exact (ret_fr FF3 0 Try.results3 rfl ⟨rfl, MM3.below⟩)
  by_cases a2 : Y.length > 400
  · skip
    refine wp_seq (rg_c FF1 MM1 [(1, l_ 0 (sB X)), (0, t_ (iN X.length)), (0, w_ 3), (2, t_ (iN Y.length)), (0, w_ 2)] 7 [26] [] (⟨rfl, rfl, (vI (bs_size _)), a1, (vI (bs_size _)), a2, fun _ _ FF4 MM4 => then_n ?_⟩))
    refine wp_cond_true (FF4.ev 0 rfl) ?_
    refine wp_seq (rg_c FF4 MM4 [(0, t_ (.bool true))] 7 [] [] (⟨(callP_of en_wakes wakes_any _), fun _ _ FF5 MM5 => then_n ?_⟩))
    refine wp_ret ?_
    repeat first | refine then_ret ?_ | refine inb_ret ?_
    exact (ret_fr FF5 0 Try.results3 rfl ⟨rfl, MM5.below⟩)
  refine wp_seq (rg_c FF1 MM1 [(1, l_ 0 (sB X)), (0, t_ (iN X.length)), (0, w_ 3), (2, t_ (iN Y.length)), (0, w_ 3)] 7 [26] [] (⟨rfl, rfl, (vI (bs_size _)), a1, (vI (bs_size _)), a2, fun _ _ FF6 MM6 => then_n ?_⟩))
  refine wp_cond_false (FF6.ev 0 rfl) ?_
  refine wp_skip ?_
  refine then_n ?_
  refine wp_seq (rg_c FF6 MM6 [(0, b_ 0), (0, t_ (.tuple #[sB ((encR a t k r X).1), iN ((encR a t k r X).2)]))] 9 [] [] (⟨rfl, rfl, (callP_of en_enc (enc_any a t k r X (by have := hr; omega)) _), fun _ _ FF7 MM7 => then_n ?_⟩))
  refine wp_seq (rg_c FF7 MM7 [(0, b_ 0), (0, t_ (.tuple #[sB ((encR a t k r X).1), iN ((encR a t k r X).2)]))] 11 [] [] (⟨rfl, rfl, (callP_of en_renc (renc_any a t k r X (by have := hr; omega)) _), fun _ _ FF8 MM8 => then_n ?_⟩))
  refine wp_seq (rg_c FF8 MM8 [(1, t_ (.tuple #[aG #[iN (decN Y 0), iN (decN Y 1), iN (decN Y 2), iW (decN Y 3), sB (decX Y)], iN (decN Y 4)])), (4, b_ 0)] 13 [] [] (⟨(callP_of en_dec (dec_any Y hY (by omega)) _), fun bg => ⟨rfl, rfl, rfl, (by kernel_rfl), rfl, fun _ _ FF9 MM9 => then_n ?_⟩⟩))
  refine wp_seq (rg_c FF9 MM9 [(1, t_ (.tuple #[aG #[iN (decN Y 0), iN (decN Y 1), iN (decN Y 2), iW (decN Y 3), sB (decX Y)], iN (decN Y 4)])), (4, b_ 0)] 15 [] [] (⟨(callP_of en_rdec (rdec_any Y hY (by omega)) _), fun bh => ⟨rfl, rfl, rfl, (by kernel_rfl), rfl, fun _ _ FF10 MM10 => then_n ?_⟩⟩))
  by_cases hU : 4 ≤ z ∧ z < 10
  · skip
    refine wp_seq (rg_c FF10 MM10 [(1, t_ (.tuple #[.int .i64 (z - 4 : Int), .bool true]))] 17 [] [] (⟨(callP_of en_user (by have h0 := user_any z; rw [usrZ_yes hU, show decide (4 ≤ z ∧ z < 10) = true from decide_eq_true hU] at h0; exact h0) _), fun _ _ FF11 MM11 => then_n ?_⟩))
    refine wp_seq (rg_c FF11 MM11 [(1, w_ 6), (2, w_ 6)] 18 [] [] (⟨hU.1, hU.2, fun _ _ FF12 MM12 => then_n ?_⟩))
    refine wp_seq ?_
    refine wp_seq (rg_c FF12 MM12 [(2, f_ (.bool false)), (5, w_ 4), (0, u_ 4 (.bool false))] 15 [78] [] (⟨(neqB_ok (t := 4) (t' := 4) (x := (.tmp 59)) (y := (.tmp 60)) (p := true) (q := true) (by kernel_rfl) Try.underlying4 rfl rfl), by omega, by omega, (dec_f (fun h => h rfl)), fun _ _ FF13 MM13 => then_n ?_⟩))
    refine wp_cond_false (FF13.ev 0 rfl) ?_
    refine wp_skip ?_
    refine then_n ?_
    refine wp_seq (rg_dc 29 FF13 MM13 [(0, b_ 2), (0, t_ (.bool (decide (mayF a t k X)))), (0, b_ 2), (0, t_ (.bool (decide (mayF a t k X)))), (0, f_ (.bool true)), (3, w_ 2), (4, w_ 2), (2, b_ 1), (0, b_ 0), (0, f_ (.bool true)), (4, w_ 2), (2, t_ (.bool true))] [] 7 [13, 11] [] (⟨rfl, rfl, (callP_of en_may (may_any a t k r X (decide (mayF a t k X)) eqH) _), rfl, rfl, (callP_of en_rmay (rmay_any a t k r X (decide (mayF a t k X)) eqH) _), (eqB_same (eqB_ok (t := 4) (t' := 4) (x := (.tmp 80)) (y := (.tmp 82)) (p := decide (mayF a t k X)) (q := decide (mayF a t k X)) (by kernel_rfl) Try.underlying4 rfl rfl)), rfl, rfl, rfl, rfl, rfl, rfl, (eqF_ok (t := 24) (t' := 24) (x := (.tmp 95)) (y := (.tmp 96)) (p := (((decN Y 0 : Nat) : Int) = ((decN Y 0 : Nat) : Int) ∧ ((decN Y 1 : Nat) : Int) = ((decN Y 1 : Nat) : Int) ∧ ((decN Y 2 : Nat) : Int) = ((decN Y 2 : Nat) : Int) ∧ ((decN Y 3 : Nat) : Int) = ((decN Y 3 : Nat) : Int) ∧ bs (decX Y) = bs (decX Y) ∧ True)) (by kernel_rfl) Try.underlying24 (by kernel_rfl) (by kernel_rfl) rfl rfl (by kernel_rfl) (iff_of_true ⟨rfl, rfl, rfl, rfl, rfl, trivial⟩ rfl)), rfl, (callP_of en_wakes wakes_any _), fun _ _ FF14 MM14 => then_n ?_⟩))
    refine wp_ret ?_
    repeat first | refine then_ret ?_ | refine inb_ret ?_
    exact (ret_fr FF14 0 Try.results3 rfl ⟨rfl, MM14.below⟩)
  · skip
    refine wp_seq (rg_c FF10 MM10 [(1, t_ (.tuple #[.int .i64 (0 : Int), .bool false]))] 17 [] [] (⟨(callP_of en_user (by have h0 := user_any z; rw [usrZ_no hU, show decide (4 ≤ z ∧ z < 10) = false from decide_eq_false hU] at h0; exact h0) _), fun _ _ FF15 MM15 => then_n ?_⟩))
    by_cases a3 : z < 4
    · skip
      refine wp_seq (rg_c FF15 MM15 [(1, u_ 4 (.bool false))] 18 [] [] (⟨(dec_f (by omega)), fun _ _ FF16 MM16 => then_n ?_⟩))
      refine wp_seq ?_
      refine wp_seq (rg_c FF16 MM16 [(2, f_ (.bool false)), (14, u_ 4 (.bool false))] 15 [78] [] (⟨(neqB_ok (t := 4) (t' := 4) (x := (.tmp 59)) (y := (.tmp 60)) (p := false) (q := false) (by kernel_rfl) Try.underlying4 rfl rfl), (dec_f (fun h => h rfl)), fun _ _ FF17 MM17 => then_n ?_⟩))
      refine wp_cond_false (FF17.ev 0 rfl) ?_
      refine wp_skip ?_
      refine then_n ?_
      refine wp_seq (rg_dc 29 FF17 MM17 [(0, b_ 2), (0, t_ (.bool (decide (mayF a t k X)))), (0, b_ 2), (0, t_ (.bool (decide (mayF a t k X)))), (0, f_ (.bool true)), (3, w_ 2), (4, w_ 2), (2, b_ 1), (0, b_ 0), (0, f_ (.bool true)), (4, w_ 2), (2, t_ (.bool true))] [] 7 [13, 11] [] (⟨rfl, rfl, (callP_of en_may (may_any a t k r X (decide (mayF a t k X)) eqH) _), rfl, rfl, (callP_of en_rmay (rmay_any a t k r X (decide (mayF a t k X)) eqH) _), (eqB_same (eqB_ok (t := 4) (t' := 4) (x := (.tmp 80)) (y := (.tmp 82)) (p := decide (mayF a t k X)) (q := decide (mayF a t k X)) (by kernel_rfl) Try.underlying4 rfl rfl)), rfl, rfl, rfl, rfl, rfl, rfl, (eqF_ok (t := 24) (t' := 24) (x := (.tmp 95)) (y := (.tmp 96)) (p := (((decN Y 0 : Nat) : Int) = ((decN Y 0 : Nat) : Int) ∧ ((decN Y 1 : Nat) : Int) = ((decN Y 1 : Nat) : Int) ∧ ((decN Y 2 : Nat) : Int) = ((decN Y 2 : Nat) : Int) ∧ ((decN Y 3 : Nat) : Int) = ((decN Y 3 : Nat) : Int) ∧ bs (decX Y) = bs (decX Y) ∧ True)) (by kernel_rfl) Try.underlying24 (by kernel_rfl) (by kernel_rfl) rfl rfl (by kernel_rfl) (iff_of_true ⟨rfl, rfl, rfl, rfl, rfl, trivial⟩ rfl)), rfl, (callP_of en_wakes wakes_any _), fun _ _ FF18 MM18 => then_n ?_⟩))
      refine wp_ret ?_
      repeat first | refine then_ret ?_ | refine inb_ret ?_
      exact (ret_fr FF18 0 Try.results3 rfl ⟨rfl, MM18.below⟩)
    refine wp_seq (rg_c FF15 MM15 [(1, w_ 6), (2, u_ 4 (.bool false))] 18 [] [] (⟨by omega, (dec_f (by omega)), fun _ _ FF19 MM19 => then_n ?_⟩))
    refine wp_seq ?_
    refine wp_seq (rg_c FF19 MM19 [(2, f_ (.bool false)), (14, u_ 4 (.bool false))] 15 [78] [] (⟨(neqB_ok (t := 4) (t' := 4) (x := (.tmp 59)) (y := (.tmp 60)) (p := false) (q := false) (by kernel_rfl) Try.underlying4 rfl rfl), (dec_f (fun h => h rfl)), fun _ _ FF20 MM20 => then_n ?_⟩))
    refine wp_cond_false (FF20.ev 0 rfl) ?_
    refine wp_skip ?_
    refine then_n ?_
    refine wp_seq (rg_dc 29 FF20 MM20 [(0, b_ 2), (0, t_ (.bool (decide (mayF a t k X)))), (0, b_ 2), (0, t_ (.bool (decide (mayF a t k X)))), (0, f_ (.bool true)), (3, w_ 2), (4, w_ 2), (2, b_ 1), (0, b_ 0), (0, f_ (.bool true)), (4, w_ 2), (2, t_ (.bool true))] [] 7 [13, 11] [] (⟨rfl, rfl, (callP_of en_may (may_any a t k r X (decide (mayF a t k X)) eqH) _), rfl, rfl, (callP_of en_rmay (rmay_any a t k r X (decide (mayF a t k X)) eqH) _), (eqB_same (eqB_ok (t := 4) (t' := 4) (x := (.tmp 80)) (y := (.tmp 82)) (p := decide (mayF a t k X)) (q := decide (mayF a t k X)) (by kernel_rfl) Try.underlying4 rfl rfl)), rfl, rfl, rfl, rfl, rfl, rfl, (eqF_ok (t := 24) (t' := 24) (x := (.tmp 95)) (y := (.tmp 96)) (p := (((decN Y 0 : Nat) : Int) = ((decN Y 0 : Nat) : Int) ∧ ((decN Y 1 : Nat) : Int) = ((decN Y 1 : Nat) : Int) ∧ ((decN Y 2 : Nat) : Int) = ((decN Y 2 : Nat) : Int) ∧ ((decN Y 3 : Nat) : Int) = ((decN Y 3 : Nat) : Int) ∧ bs (decX Y) = bs (decX Y) ∧ True)) (by kernel_rfl) Try.underlying24 (by kernel_rfl) (by kernel_rfl) rfl rfl (by kernel_rfl) (iff_of_true ⟨rfl, rfl, rfl, rfl, rfl, trivial⟩ rfl)), rfl, (callP_of en_wakes wakes_any _), fun _ _ FF21 MM21 => then_n ?_⟩))
    refine wp_ret ?_
    repeat first | refine then_ret ?_ | refine inb_ret ?_
    exact (ret_fr FF21 0 Try.results3 rfl ⟨rfl, MM21.below⟩)
end Go.Proofs.Ytiekpglkkfllfaa
