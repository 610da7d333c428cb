/- Several texts in one: Package tape: what is taken. The document's tape: what is taken. ChaCha20: turns, the quarter round, words, what is laid. ChaCha20: the rounds. ChaCha20: a block. ChaCha20: bytes turned by a block. ChaCha20: the mask. Package aead: the walks. The answer of the document for layer 4: sums, products. -/
import Derived.Test.YtniplfjnpjihoaaZ4
import Derived.Laws.Small
import Derived.Test.YtniplfjnpjihoaaZ3
namespace Go.Proofs.Ytniplfjnpjihoaa
open Go.RowKit
theorem en_tnew : Enters Try.prog 10 := fun args w => by simp [go_sem]
theorem en_take : Enters Try.prog 45 := fun args w => by simp [go_sem]
theorem en_tkey : Enters Try.prog 32 := fun args w => by simp [go_sem]
theorem en_tid : Enters Try.prog 35 := fun args w => by simp [go_sem]
/-- A tape: the bytes that are left, how many were taken. -/
abbrev TB (X : List Nat) (u : Nat) : Obj := .cells #[sB X, iN u] 84
set_option maxRecDepth 100000 in
theorem take_any (g n : Nat) (X : List Nat) (u : Nat) (hX : ∀ i, X.getD i 0 < 256) (hu : u < 4611686018427387904) (hn : n ≤ 65536) (w0 : World) (hg : w0.heap[g]? = some (TB X u)) :
    Calls Try.prog 45 #[pT g, iN n] w0 fun e w' => e = .returned (sB (takN n X)) ∧ Turn g (TB (X.drop n) (u + n)) w0 w' := by
  refine enter_fr Try.func45 rfl Try.ntmps45 (by simp) fun ac (FF : Fr 42 ac [(0, pT g), (1, iN n)]) => ?_
  have MM : MemS (fun k => k < w0.heap.size ∧ ∀ x ∈ (g, oC #[sB X, iN u] 84) :: ([] : Blks), x.1 ≠ k) w0 w0 ((g, oC #[sB X, iN u] 84) :: ([] : Blks)) [] := MemS.startN (one_has hg) ⟨fun y hy => (nomatch hy), trivial⟩
  refine wp_seq (rg_c FF MM [(0, t_ (sB []))] 5 [] [] (⟨(by kernel_rfl), fun _ _ FF1 MM1 => then_n ?_⟩))
  refine wp_seq ?_
  refine wp_seq (rg_c FF1 MM1 [(1, f_ (.bool false)), (2, w_ 3), (3, w_ 3)] 5 [15] [] (⟨(ptrSome_ok (t := 27) (t' := 27) (x := (.tmp 6)) (y := (.const (.pointer none))) (by kernel_rfl) rfl rfl Try.underlying27), (by have := hn; omega), (by have := hn; omega), fun _ _ FF2 MM2 => then_n ?_⟩))
  refine wp_cond_false (FF2.ev 0 rfl) ?_
  refine wp_skip ?_
  refine then_n ?_
  refine wp_seq (rg_c FF2 MM2 [(1, n_ (.slice none n n) (.cells (cn .u8 (List.replicate n 0)) 5))] 6 [] [] (⟨(make_ok (t := 73) (e := 5) (p := (.tmp 16)) (q := (.tmp 16)) (by kernel_rfl) rfl rfl Try.underlying73 (by kernel_rfl) (by have := hn; omega)), fun bo => fun _ _ FF3 MM3 => then_n ?_⟩))
  refine wp_mid (fun a' w' => Fr 42 a' [(5, .slice (some ⟨bo, 0, none⟩) n n), (4, sB []), (0, pT g), (1, iN n)] ∧ MemS (fun k => k < w0.heap.size ∧ ∀ x ∈ (g, oC #[sB X, iN u] 84) :: ([] : Blks), x.1 ≠ k) w0 w' ((bo, .cells (cn .u8 (takN n X)) 5) :: (g, oC #[sB (X.drop n), iN u] 84) :: ([] : Blks)) []) ?_ ?_
  · skip
    refine draw_open (N := 15) (by kernel_rfl) (by kernel_rfl) MM3 fun wq4 (MM5 : MemS (fun k => k < w0.heap.size ∧ ∀ x ∈ (g, oC #[sB X, iN u] 84) :: ([] : Blks), x.1 ≠ k) w0 wq4 ((bo, .cells (cn .u8 (List.replicate n 0)) 5) :: (g, oC #[sB X, iN u] 84) :: ([] : Blks)) []) => ?_
    refine take_op FF3 (i := 0) (oi := (opAt Try.f45 4 0)) (v := (pT g)) (d := 18) (by kernel_rfl) (by kernel_rfl) (by kernel_rfl) (by kernel_rfl) (fun _ _ _ _ _ h => h) (by kernel_rfl) (by decide) (by kernel_rfl) (mvV (x := (.tmp 0)) (by kernel_rfl) rfl) fun _ FF6 => ?_
    refine take_op FF6 (i := 1) (oi := (opAt Try.f45 4 1)) (v := (pT g)) (d := 19) (by kernel_rfl) (by kernel_rfl) (by kernel_rfl) (by kernel_rfl) (fun _ _ _ _ _ h => h) (by kernel_rfl) (by decide) (by kernel_rfl) (mvV (x := (.tmp 0)) (by kernel_rfl) rfl) fun _ FF7 => ?_
    refine take_op FF7 (i := 2) (oi := (opAt Try.f45 4 2)) (v := (pT g)) (d := 20) (by kernel_rfl) (by kernel_rfl) (by kernel_rfl) (by kernel_rfl) (fun _ _ _ _ _ h => h) (by kernel_rfl) (by decide) (by kernel_rfl) (nilV (x := (.tmp 19)) (by kernel_rfl) rfl) fun _ FF8 => ?_
    refine take_op FF8 (i := 3) (oi := (opAt Try.f45 4 3)) (v := (pT g)) (d := 21) (by kernel_rfl) (by kernel_rfl) (by kernel_rfl) (by kernel_rfl) (fun _ _ _ _ _ h => h) (by kernel_rfl) (by decide) (by kernel_rfl) (fldV (x := (.tmp 20)) (t := 84) (k := 0) (cs := []) (by kernel_rfl) rfl (by kernel_rfl)) fun _ FF9 => ?_
    refine take_op FF9 (i := 5) (oi := (opAt Try.f45 4 5)) (v := (.slice (some ⟨bo, 0, none⟩) n n)) (d := 23) (by kernel_rfl) (by kernel_rfl) (by kernel_rfl) (by kernel_rfl) (fun _ _ _ _ _ h => h) (by kernel_rfl) (by decide) (by kernel_rfl) (mvV (x := (.tmp 5)) (by kernel_rfl) rfl) fun _ FF10 => ?_
    refine take_op FF10 (i := 6) (oi := (opAt Try.f45 4 6)) (v := (pT g)) (d := 24) (by kernel_rfl) (by kernel_rfl) (by kernel_rfl) (by kernel_rfl) (fun _ _ _ _ _ h => h) (by kernel_rfl) (by decide) (by kernel_rfl) (mvV (x := (.tmp 0)) (by kernel_rfl) rfl) fun _ FF11 => ?_
    refine take_op FF11 (i := 7) (oi := (opAt Try.f45 4 7)) (v := (pT g)) (d := 25) (by kernel_rfl) (by kernel_rfl) (by kernel_rfl) (by kernel_rfl) (fun _ _ _ _ _ h => h) (by kernel_rfl) (by decide) (by kernel_rfl) (nilV (x := (.tmp 24)) (by kernel_rfl) rfl) fun _ FF12 => ?_
    refine take_op FF12 (i := 8) (oi := (opAt Try.f45 4 8)) (v := (pT g)) (d := 26) (by kernel_rfl) (by kernel_rfl) (by kernel_rfl) (by kernel_rfl) (fun _ _ _ _ _ h => h) (by kernel_rfl) (by decide) (by kernel_rfl) (fldV (x := (.tmp 25)) (t := 84) (k := 0) (cs := []) (by kernel_rfl) rfl (by kernel_rfl)) fun _ FF13 => ?_
    refine any_two (i := 4) (oi := (opAt Try.f45 4 4)) (j := 9) (oj := (opAt Try.f45 4 9)) (by kernel_rfl) (by kernel_rfl) (by kernel_rfl) ?_ ?_
    · skip
      refine rp_c 1 FF13 MM5 [(0, l_ 1 (sB X))] 19 [26, 23, 22] [] (⟨rfl, rfl, fun _ _ FF14 MM14 => ?_⟩)
      refine wpl_nil (onN_n ?_)
      refine any_one (i := 9) (o := (opAt Try.f45 4 9)) (by kernel_rfl) (by kernel_rfl) ?_
      refine rp_c 1 FF14 MM14 [(0, l_ 1 (sB X))] 24 [27] [] (⟨rfl, rfl, fun _ _ FF15 MM15 => ?_⟩)
      refine wpl_nil (onN_n ?_)
      refine any_one (i := 10) (o := (opAt Try.f45 4 10)) (by kernel_rfl) (by kernel_rfl) ?_
      refine rp_c 1 FF15 MM15 [(0, r_ (iN (min X.length n)) [(0, .cells (cn .u8 (takN n X)) 5)])] 23 [28] [] (⟨(copyStr_ok (p := .tmp 23) (q := .tmp 27) (t := 73) (tq := 9) (e := 5) (T := 5) (off := 0) (len := n) (X := X) (cs := cn .u8 (List.replicate n 0)) (i := 0) (by kernel_rfl) rfl rfl hX Try.underlying73 (by kernel_rfl) rfl (by rw [cn_size, List.length_replicate, Nat.zero_add]; exact Nat.le_refl _) (tak_cells n X)), fun _ _ FF16 MM16 => ?_⟩)
      refine wpl_nil (onN_n ?_)
      refine any_one (i := 11) (o := (opAt Try.f45 4 11)) (by kernel_rfl) (by kernel_rfl) ?_
      refine rp_c 1 FF16 MM16 [(0, t_ (sB (X.drop n)))] 19 [29] [] (⟨(by simp only [bs_size]; omega), (Nat.zero_le _), (vS2 ((bs_from _ _).trans (congrArg bs (dropX_min X n)))), fun _ _ FF17 MM17 => ?_⟩)
      refine wpl_nil (onN_n ?_)
      refine take_op FF17 (i := 12) (oi := (opAt Try.f45 4 12)) (v := (pT g)) (d := 30) (by kernel_rfl) (by kernel_rfl) (by kernel_rfl) (by kernel_rfl) (fun _ _ _ _ _ h => h) (by kernel_rfl) (by decide) (by kernel_rfl) (nilV (x := (.tmp 18)) (by kernel_rfl) rfl) fun _ FF18 => ?_
      refine take_op FF18 (i := 13) (oi := (opAt Try.f45 4 13)) (v := (pT g)) (d := 31) (by kernel_rfl) (by kernel_rfl) (by kernel_rfl) (by kernel_rfl) (fun _ _ _ _ _ h => h) (by kernel_rfl) (by decide) (by kernel_rfl) (fldV (x := (.tmp 30)) (t := 84) (k := 0) (cs := []) (by kernel_rfl) rfl (by kernel_rfl)) fun _ FF19 => ?_
      refine any_one (i := 14) (o := (opAt Try.f45 4 14)) (by kernel_rfl) (by kernel_rfl) ?_
      refine rp_c 1 FF19 MM17 [(0, s_ 1 (oC #[sB (X.drop n), iN u] 84))] 6 [] [] (⟨rfl, (by simp), (.inl rfl), rfl, fun _ _ FF20 MM20 => ?_⟩)
      refine wpl_nil (onN_n ?_)
      refine any_none (by kernel_rfl) (then_n ?_)
      exact ⟨FF20.pick [0, 1, 2, 3], MM20⟩
    · skip
      refine rp_c 1 FF13 MM5 [(0, l_ 1 (sB X))] 24 [27] [20, 19] (⟨rfl, rfl, fun _ _ FF21 MM21 => ?_⟩)
      refine wpl_nil (onN_n ?_)
      refine any_two (i := 4) (oi := (opAt Try.f45 4 4)) (j := 10) (oj := (opAt Try.f45 4 10)) (by kernel_rfl) (by kernel_rfl) (by kernel_rfl) ?_ ?_
      · skip
        refine rp_c 1 FF21 MM21 [(0, l_ 1 (sB X))] 28 [] [21] (⟨rfl, rfl, fun _ _ FF22 MM22 => ?_⟩)
        refine wpl_nil (onN_n ?_)
        refine any_one (i := 10) (o := (opAt Try.f45 4 10)) (by kernel_rfl) (by kernel_rfl) ?_
        refine rp_c 1 FF22 MM22 [(0, r_ (iN (min X.length n)) [(0, .cells (cn .u8 (takN n X)) 5)])] 23 [28] [] (⟨(copyStr_ok (p := .tmp 23) (q := .tmp 27) (t := 73) (tq := 9) (e := 5) (T := 5) (off := 0) (len := n) (X := X) (cs := cn .u8 (List.replicate n 0)) (i := 0) (by kernel_rfl) rfl rfl hX Try.underlying73 (by kernel_rfl) rfl (by rw [cn_size, List.length_replicate, Nat.zero_add]; exact Nat.le_refl _) (tak_cells n X)), fun _ _ FF23 MM23 => ?_⟩)
        refine wpl_nil (onN_n ?_)
        refine any_one (i := 11) (o := (opAt Try.f45 4 11)) (by kernel_rfl) (by kernel_rfl) ?_
        refine rp_c 1 FF23 MM23 [(0, t_ (sB (X.drop n)))] 19 [29] [] (⟨(by simp only [bs_size]; omega), (Nat.zero_le _), (vS2 ((bs_from _ _).trans (congrArg bs (dropX_min X n)))), fun _ _ FF24 MM24 => ?_⟩)
        refine wpl_nil (onN_n ?_)
        refine take_op FF24 (i := 12) (oi := (opAt Try.f45 4 12)) (v := (pT g)) (d := 30) (by kernel_rfl) (by kernel_rfl) (by kernel_rfl) (by kernel_rfl) (fun _ _ _ _ _ h => h) (by kernel_rfl) (by decide) (by kernel_rfl) (nilV (x := (.tmp 18)) (by kernel_rfl) rfl) fun _ FF25 => ?_
        refine take_op FF25 (i := 13) (oi := (opAt Try.f45 4 13)) (v := (pT g)) (d := 31) (by kernel_rfl) (by kernel_rfl) (by kernel_rfl) (by kernel_rfl) (fun _ _ _ _ _ h => h) (by kernel_rfl) (by decide) (by kernel_rfl) (fldV (x := (.tmp 30)) (t := 84) (k := 0) (cs := []) (by kernel_rfl) rfl (by kernel_rfl)) fun _ FF26 => ?_
        refine any_one (i := 14) (o := (opAt Try.f45 4 14)) (by kernel_rfl) (by kernel_rfl) ?_
        refine rp_c 1 FF26 MM24 [(0, s_ 1 (oC #[sB (X.drop n), iN u] 84))] 6 [] [] (⟨rfl, (by simp), (.inl rfl), rfl, fun _ _ FF27 MM27 => ?_⟩)
        refine wpl_nil (onN_n ?_)
        refine any_none (by kernel_rfl) (then_n ?_)
        exact ⟨FF27.pick [0, 1, 2, 3], MM27⟩
      · skip
        refine rp_c 1 FF21 MM21 [(0, r_ (iN (min X.length n)) [(0, .cells (cn .u8 (takN n X)) 5)])] 22 [28] [] (⟨(copyStr_ok (p := .tmp 23) (q := .tmp 27) (t := 73) (tq := 9) (e := 5) (T := 5) (off := 0) (len := n) (X := X) (cs := cn .u8 (List.replicate n 0)) (i := 0) (by kernel_rfl) rfl rfl hX Try.underlying73 (by kernel_rfl) rfl (by rw [cn_size, List.length_replicate, Nat.zero_add]; exact Nat.le_refl _) (tak_cells n X)), fun _ _ FF28 MM28 => ?_⟩)
        refine wpl_nil (onN_n ?_)
        refine any_one (i := 4) (o := (opAt Try.f45 4 4)) (by kernel_rfl) (by kernel_rfl) ?_
        refine rp_c 1 FF28 MM28 [(0, l_ 1 (sB X))] 29 [] [21] (⟨rfl, rfl, fun _ _ FF29 MM29 => ?_⟩)
        refine wpl_nil (onN_n ?_)
        refine any_one (i := 11) (o := (opAt Try.f45 4 11)) (by kernel_rfl) (by kernel_rfl) ?_
        refine rp_c 1 FF29 MM29 [(0, t_ (sB (X.drop n)))] 19 [29] [] (⟨(by simp only [bs_size]; omega), (Nat.zero_le _), (vS2 ((bs_from _ _).trans (congrArg bs (dropX_min X n)))), fun _ _ FF30 MM30 => ?_⟩)
        refine wpl_nil (onN_n ?_)
        refine take_op FF30 (i := 12) (oi := (opAt Try.f45 4 12)) (v := (pT g)) (d := 30) (by kernel_rfl) (by kernel_rfl) (by kernel_rfl) (by kernel_rfl) (fun _ _ _ _ _ h => h) (by kernel_rfl) (by decide) (by kernel_rfl) (nilV (x := (.tmp 18)) (by kernel_rfl) rfl) fun _ FF31 => ?_
        refine take_op FF31 (i := 13) (oi := (opAt Try.f45 4 13)) (v := (pT g)) (d := 31) (by kernel_rfl) (by kernel_rfl) (by kernel_rfl) (by kernel_rfl) (fun _ _ _ _ _ h => h) (by kernel_rfl) (by decide) (by kernel_rfl) (fldV (x := (.tmp 30)) (t := 84) (k := 0) (cs := []) (by kernel_rfl) rfl (by kernel_rfl)) fun _ FF32 => ?_
        refine any_one (i := 14) (o := (opAt Try.f45 4 14)) (by kernel_rfl) (by kernel_rfl) ?_
        refine rp_c 1 FF32 MM30 [(0, s_ 1 (oC #[sB (X.drop n), iN u] 84))] 6 [] [] (⟨rfl, (by simp), (.inl rfl), rfl, fun _ _ FF33 MM33 => ?_⟩)
        refine wpl_nil (onN_n ?_)
        refine any_none (by kernel_rfl) (then_n ?_)
        exact ⟨FF33.pick [0, 1, 2, 3], MM33⟩
  · rintro ac34 wd34 ⟨FF34, MM34⟩
    refine wp_seq (rg_c FF34 MM34 [(3, l_ 1 (iN u)), (4, s_ 1 (oC #[sB (X.drop n), iN (u + n)] 84))] 6 [] [] (⟨rfl, rfl, (by have := hn; omega), rfl, (by simp), (.inl rfl), rfl, fun _ _ FF35 MM35 => then_n ?_⟩))
    refine wp_seq (rg_c FF35 MM35 [(1, l_ 0 (sB (takN n X)))] 6 [] [] (⟨rfl, (str_all (takN_len _ _) (takN_lt hX n)), fun _ _ FF36 MM36 => then_n ?_⟩))
    refine wp_ret ?_
    repeat first | refine then_ret ?_ | refine inb_ret ?_
    exact (ret_fr FF36 0 Try.results45 rfl ⟨rfl, MM36.turn (O := []) (fun i x hx => by simp at hx) 1 rfl (fun x hx => (nomatch hx))⟩)
set_option maxRecDepth 100000 in
theorem tkey_any (g : Nat) (X : List Nat) (u : Nat) (hX : ∀ i, X.getD i 0 < 256) (hu : u < 4611686018427387904)  (w0 : World) (hg : w0.heap[g]? = some (TB X u)) :
    Calls Try.prog 32 #[pT g] w0 fun e w' => e = .returned (.agg (cn .u8 (takN 32 X))) ∧ Turn g (TB (X.drop 32) (u + 32)) w0 w' := by
  refine enter_fr Try.func32 rfl Try.ntmps32 (by simp) fun ac (FF : Fr 9 ac [(0, pT g)]) => ?_
  have MM : MemS (fun k => k < w0.heap.size ∧ ∀ x ∈ (g, oC #[sB X, iN u] 84) :: ([] : Blks), x.1 ≠ k) w0 w0 ((g, oC #[sB X, iN u] 84) :: ([] : Blks)) [] := MemS.startN (one_has hg) ⟨fun y hy => (nomatch hy), trivial⟩
  refine wp_seq (rg_c FF MM [(0, s_ 0 (.cells (cn .u8 (List.replicate 32 0)) 42))] 3 [] [] (⟨(by kernel_rfl), fun br => fun _ _ FF1 MM1 => then_n ?_⟩))
  refine wp_seq (rg_c FF1 MM1 [(0, s_ 0 (.cells (cn .u8 (List.replicate 32 0)) 42))] 4 [] [] (⟨(by kernel_rfl), fun bk => fun _ _ FF2 MM2 => then_n ?_⟩))
  refine wp_mid (fun a' w' => Fr 9 a' [(3, pT bk), (2, pT br)] ∧ MemS (fun k => k < w0.heap.size ∧ ∀ x ∈ (g, oC #[sB X, iN u] 84) :: ([] : Blks), x.1 ≠ k) w0 w' ((bk, .cells (cn .u8 (takN 32 X)) 42) :: (br, .cells (cn .u8 (List.replicate 32 0)) 42) :: (g, oC #[sB (X.drop 32), iN (u + 32)] 84) :: ([] : Blks)) []) ?_ ?_
  · skip
    refine draw_open (N := 4) (by kernel_rfl) (by kernel_rfl) MM2 fun wq3 (MM4 : MemS (fun k => k < w0.heap.size ∧ ∀ x ∈ (g, oC #[sB X, iN u] 84) :: ([] : Blks), x.1 ≠ k) w0 wq3 ((bk, .cells (cn .u8 (List.replicate 32 0)) 42) :: (br, .cells (cn .u8 (List.replicate 32 0)) 42) :: (g, oC #[sB X, iN u] 84) :: ([] : Blks)) []) => ?_
    refine take_op FF2 (i := 1) (oi := (opAt Try.f32 2 1)) (v := (pT g)) (d := 5) (by kernel_rfl) (by kernel_rfl) (by kernel_rfl) (by kernel_rfl) (fun _ _ _ _ _ h => h) (by kernel_rfl) (by decide) (by kernel_rfl) (mvV (x := (.tmp 0)) (by kernel_rfl) rfl) fun _ FF5 => ?_
    refine any_two (i := 0) (oi := (opAt Try.f32 2 0)) (j := 2) (oj := (opAt Try.f32 2 2)) (by kernel_rfl) (by kernel_rfl) (by kernel_rfl) ?_ ?_
    · skip
      refine rp_c 1 FF5 MM4 [] 6 [] [0] (⟨by decide, by decide, by decide, fun _ _ FF6 MM6 => ?_⟩)
      refine wpl_nil (onN_n ?_)
      refine any_one (i := 2) (o := (opAt Try.f32 2 2)) (by kernel_rfl) (by kernel_rfl) ?_
      refine rp_c 1 FF6 MM6 [(0, c_ (sB (takN 32 X)) [(2, oC #[sB (X.drop 32), iN (u + 32)] 84)])] 5 [6] [] (⟨(callU_turn en_take (g := g) (ob := TB X u) rfl fun w hg => by have h0 := take_any g 32 X u hX (by omega) (by decide) w hg; exact h0), fun _ _ FF7 MM7 => ?_⟩)
      refine wpl_nil (onN_n ?_)
      refine any_one (i := 3) (o := (opAt Try.f32 2 3)) (by kernel_rfl) (by kernel_rfl) ?_
      refine rp_c 1 FF7 MM7 [(0, r_ (iN (min (takN 32 X).length 32)) [(0, .cells (cn .u8 (takN 32 X)) 42)])] 4 [] [] (⟨(copyStr_ok (p := .tmp 4) (q := .tmp 6) (t := 73) (tq := 9) (e := 5) (T := 42) (off := 0) (len := 32) (X := takN 32 X) (cs := cn .u8 (List.replicate 32 0)) (i := 0) (by kernel_rfl) rfl rfl (takN_lt hX 32) Try.underlying73 (by kernel_rfl) rfl (by rw [cn_size, List.length_replicate]; decide) (by rw [List.take_of_length_le (by rw [takN_len]; decide)]; exact setFrom_new8 (by rw [List.length_replicate, takN_len]))), fun _ _ FF8 MM8 => ?_⟩)
      refine wpl_nil (onN_n ?_)
      refine any_none (by kernel_rfl) (then_n ?_)
      exact ⟨FF8.pick [0, 1], MM8⟩
    · skip
      refine rp_c 1 FF5 MM4 [(0, c_ (sB (takN 32 X)) [(2, oC #[sB (X.drop 32), iN (u + 32)] 84)])] 4 [6] [0] (⟨(callU_turn en_take (g := g) (ob := TB X u) rfl fun w hg => by have h0 := take_any g 32 X u hX (by omega) (by decide) w hg; exact h0), fun _ _ FF9 MM9 => ?_⟩)
      refine wpl_nil (onN_n ?_)
      refine any_one (i := 0) (o := (opAt Try.f32 2 0)) (by kernel_rfl) (by kernel_rfl) ?_
      refine rp_c 1 FF9 MM9 [] 7 [] [] (⟨by decide, by decide, by decide, fun _ _ FF10 MM10 => ?_⟩)
      refine wpl_nil (onN_n ?_)
      refine any_one (i := 3) (o := (opAt Try.f32 2 3)) (by kernel_rfl) (by kernel_rfl) ?_
      refine rp_c 1 FF10 MM10 [(0, r_ (iN (min (takN 32 X).length 32)) [(0, .cells (cn .u8 (takN 32 X)) 42)])] 4 [] [] (⟨(copyStr_ok (p := .tmp 4) (q := .tmp 6) (t := 73) (tq := 9) (e := 5) (T := 42) (off := 0) (len := 32) (X := takN 32 X) (cs := cn .u8 (List.replicate 32 0)) (i := 0) (by kernel_rfl) rfl rfl (takN_lt hX 32) Try.underlying73 (by kernel_rfl) rfl (by rw [cn_size, List.length_replicate]; decide) (by rw [List.take_of_length_le (by rw [takN_len]; decide)]; exact setFrom_new8 (by rw [List.length_replicate, takN_len]))), fun _ _ FF11 MM11 => ?_⟩)
      refine wpl_nil (onN_n ?_)
      refine any_none (by kernel_rfl) (then_n ?_)
      exact ⟨FF11.pick [0, 1], MM11⟩
  · rintro ac12 wd12 ⟨FF12, MM12⟩
    refine wp_seq (rg_c FF12 MM12 [(0, b_ 0), (0, b_ 1)] 4 [] [] (⟨rfl, ((cn_size _ _).trans (takN_len _ _)), rfl, ((cn_size _ _).trans (List.length_replicate ..)), ((cn_size _ _).trans (takN_len _ _)), (cn_one _ _), rfl, fun _ _ FF13 MM13 => then_n ?_⟩))
    refine wp_ret ?_
    repeat first | refine then_ret ?_ | refine inb_ret ?_
    exact (retc FF13 MM13 (k := 32) (i := 1) (j := 1) Try.results32 rfl rfl Try.underlying42 rfl (by kernel_rfl) ((cn_size _ _).trans (takN_len _ _)) ⟨rfl, MM13.turn (O := []) (fun i x hx => by simp at hx) 2 rfl (fun x hx => (nomatch hx))⟩)
set_option maxRecDepth 100000 in
theorem tid_any (g : Nat) (X : List Nat) (u : Nat) (hX : ∀ i, X.getD i 0 < 256) (hu : u < 4611686018427387904)  (w0 : World) (hg : w0.heap[g]? = some (TB X u)) :
    Calls Try.prog 35 #[pT g] w0 fun e w' => e = .returned (.agg (cn .u8 (takN 16 X))) ∧ Turn g (TB (X.drop 16) (u + 16)) w0 w' := by
  refine enter_fr Try.func35 rfl Try.ntmps35 (by simp) fun ac (FF : Fr 9 ac [(0, pT g)]) => ?_
  have MM : MemS (fun k => k < w0.heap.size ∧ ∀ x ∈ (g, oC #[sB X, iN u] 84) :: ([] : Blks), x.1 ≠ k) w0 w0 ((g, oC #[sB X, iN u] 84) :: ([] : Blks)) [] := MemS.startN (one_has hg) ⟨fun y hy => (nomatch hy), trivial⟩
  refine wp_seq (rg_c FF MM [(0, s_ 0 (.cells (cn .u8 (List.replicate 16 0)) 51))] 3 [] [] (⟨(by kernel_rfl), fun br => fun _ _ FF1 MM1 => then_n ?_⟩))
  refine wp_seq (rg_c FF1 MM1 [(0, s_ 0 (.cells (cn .u8 (List.replicate 16 0)) 51))] 4 [] [] (⟨(by kernel_rfl), fun bk => fun _ _ FF2 MM2 => then_n ?_⟩))
  refine wp_mid (fun a' w' => Fr 9 a' [(3, pT bk), (2, pT br)] ∧ MemS (fun k => k < w0.heap.size ∧ ∀ x ∈ (g, oC #[sB X, iN u] 84) :: ([] : Blks), x.1 ≠ k) w0 w' ((bk, .cells (cn .u8 (takN 16 X)) 51) :: (br, .cells (cn .u8 (List.replicate 16 0)) 51) :: (g, oC #[sB (X.drop 16), iN (u + 16)] 84) :: ([] : Blks)) []) ?_ ?_
  · skip
    refine draw_open (N := 4) (by kernel_rfl) (by kernel_rfl) MM2 fun wq3 (MM4 : MemS (fun k => k < w0.heap.size ∧ ∀ x ∈ (g, oC #[sB X, iN u] 84) :: ([] : Blks), x.1 ≠ k) w0 wq3 ((bk, .cells (cn .u8 (List.replicate 16 0)) 51) :: (br, .cells (cn .u8 (List.replicate 16 0)) 51) :: (g, oC #[sB X, iN u] 84) :: ([] : Blks)) []) => ?_
    refine take_op FF2 (i := 1) (oi := (opAt Try.f35 2 1)) (v := (pT g)) (d := 5) (by kernel_rfl) (by kernel_rfl) (by kernel_rfl) (by kernel_rfl) (fun _ _ _ _ _ h => h) (by kernel_rfl) (by decide) (by kernel_rfl) (mvV (x := (.tmp 0)) (by kernel_rfl) rfl) fun _ FF5 => ?_
    refine any_two (i := 0) (oi := (opAt Try.f35 2 0)) (j := 2) (oj := (opAt Try.f35 2 2)) (by kernel_rfl) (by kernel_rfl) (by kernel_rfl) ?_ ?_
    · skip
      refine rp_c 1 FF5 MM4 [] 6 [] [0] (⟨by decide, by decide, by decide, fun _ _ FF6 MM6 => ?_⟩)
      refine wpl_nil (onN_n ?_)
      refine any_one (i := 2) (o := (opAt Try.f35 2 2)) (by kernel_rfl) (by kernel_rfl) ?_
      refine rp_c 1 FF6 MM6 [(0, c_ (sB (takN 16 X)) [(2, oC #[sB (X.drop 16), iN (u + 16)] 84)])] 5 [6] [] (⟨(callU_turn en_take (g := g) (ob := TB X u) rfl fun w hg => by have h0 := take_any g 16 X u hX (by omega) (by decide) w hg; exact h0), fun _ _ FF7 MM7 => ?_⟩)
      refine wpl_nil (onN_n ?_)
      refine any_one (i := 3) (o := (opAt Try.f35 2 3)) (by kernel_rfl) (by kernel_rfl) ?_
      refine rp_c 1 FF7 MM7 [(0, r_ (iN (min (takN 16 X).length 16)) [(0, .cells (cn .u8 (takN 16 X)) 51)])] 4 [] [] (⟨(copyStr_ok (p := .tmp 4) (q := .tmp 6) (t := 73) (tq := 9) (e := 5) (T := 51) (off := 0) (len := 16) (X := takN 16 X) (cs := cn .u8 (List.replicate 16 0)) (i := 0) (by kernel_rfl) rfl rfl (takN_lt hX 16) Try.underlying73 (by kernel_rfl) rfl (by rw [cn_size, List.length_replicate]; decide) (by rw [List.take_of_length_le (by rw [takN_len]; decide)]; exact setFrom_new8 (by rw [List.length_replicate, takN_len]))), fun _ _ FF8 MM8 => ?_⟩)
      refine wpl_nil (onN_n ?_)
      refine any_none (by kernel_rfl) (then_n ?_)
      exact ⟨FF8.pick [0, 1], MM8⟩
    · skip
      refine rp_c 1 FF5 MM4 [(0, c_ (sB (takN 16 X)) [(2, oC #[sB (X.drop 16), iN (u + 16)] 84)])] 4 [6] [0] (⟨(callU_turn en_take (g := g) (ob := TB X u) rfl fun w hg => by have h0 := take_any g 16 X u hX (by omega) (by decide) w hg; exact h0), fun _ _ FF9 MM9 => ?_⟩)
      refine wpl_nil (onN_n ?_)
      refine any_one (i := 0) (o := (opAt Try.f35 2 0)) (by kernel_rfl) (by kernel_rfl) ?_
      refine rp_c 1 FF9 MM9 [] 7 [] [] (⟨by decide, by decide, by decide, fun _ _ FF10 MM10 => ?_⟩)
      refine wpl_nil (onN_n ?_)
      refine any_one (i := 3) (o := (opAt Try.f35 2 3)) (by kernel_rfl) (by kernel_rfl) ?_
      refine rp_c 1 FF10 MM10 [(0, r_ (iN (min (takN 16 X).length 16)) [(0, .cells (cn .u8 (takN 16 X)) 51)])] 4 [] [] (⟨(copyStr_ok (p := .tmp 4) (q := .tmp 6) (t := 73) (tq := 9) (e := 5) (T := 51) (off := 0) (len := 16) (X := takN 16 X) (cs := cn .u8 (List.replicate 16 0)) (i := 0) (by kernel_rfl) rfl rfl (takN_lt hX 16) Try.underlying73 (by kernel_rfl) rfl (by rw [cn_size, List.length_replicate]; decide) (by rw [List.take_of_length_le (by rw [takN_len]; decide)]; exact setFrom_new8 (by rw [List.length_replicate, takN_len]))), fun _ _ FF11 MM11 => ?_⟩)
      refine wpl_nil (onN_n ?_)
      refine any_none (by kernel_rfl) (then_n ?_)
      exact ⟨FF11.pick [0, 1], MM11⟩
  · rintro ac12 wd12 ⟨FF12, MM12⟩
    refine wp_seq (rg_c FF12 MM12 [(0, b_ 0), (0, b_ 1)] 4 [] [] (⟨rfl, ((cn_size _ _).trans (takN_len _ _)), rfl, ((cn_size _ _).trans (List.length_replicate ..)), ((cn_size _ _).trans (takN_len _ _)), (cn_one _ _), rfl, fun _ _ FF13 MM13 => then_n ?_⟩))
    refine wp_ret ?_
    repeat first | refine then_ret ?_ | refine inb_ret ?_
    exact (retc FF13 MM13 (k := 16) (i := 1) (j := 1) Try.results35 rfl rfl Try.underlying51 rfl (by kernel_rfl) ((cn_size _ _).trans (takN_len _ _)) ⟨rfl, MM13.turn (O := []) (fun i x hx => by simp at hx) 2 rfl (fun x hx => (nomatch hx))⟩)
end Go.Proofs.Ytniplfjnpjihoaa
namespace Go.Proofs.Ytniplfjnpjihoaa
open Go.RowKit
theorem en_rtake : Enters Try.prog 46 := fun args w => by simp [go_sem]
theorem en_rkey : Enters Try.prog 34 := fun args w => by simp [go_sem]
theorem en_rid_ : Enters Try.prog 36 := fun args w => by simp [go_sem]
/-- The document's tape: its bytes, how many were taken. -/
abbrev RB (X : List Nat) (u : Nat) : Obj := .cells #[sB X, iN u] 32
set_option maxRecDepth 100000 in
theorem rtake_any (g n : Nat) (X : List Nat) (u : Nat) (hX : ∀ i, X.getD i 0 < 256) (hu : u < 4611686018427387904) (hn : n ≤ 65536) (w0 : World) (hg : w0.heap[g]? = some (RB X u)) :
    Calls Try.prog 46 #[pT g, iN n] w0 fun e w' => e = .returned (sB (takN n (X.drop u))) ∧ Turn g (RB X (u + n)) w0 w' := by
  refine enter_fr Try.func46 rfl Try.ntmps46 (by simp) fun ac (FF : Fr 51 ac [(0, pT g), (1, iN n)]) => ?_
  have MM : MemS (fun k => k < w0.heap.size ∧ ∀ x ∈ (g, oC #[sB X, iN u] 32) :: ([] : Blks), x.1 ≠ k) w0 w0 ((g, oC #[sB X, iN u] 32) :: ([] : Blks)) [] := MemS.startN (one_has hg) ⟨fun y hy => (nomatch hy), trivial⟩
  have hgl : ∀ j i, (genL n (fun j => (X.drop u).getD j 0) j).getD i 0 < 256 := fun j => genL_lt (by decide) (fun i => dropX_lt hX u i) j
  refine wp_seq (rg_c FF MM [(0, t_ (sB []))] 5 [] [] (⟨(by kernel_rfl), fun _ _ FF1 MM1 => then_n ?_⟩))
  refine wp_seq ?_
  refine wp_seq (rg_c FF1 MM1 [(1, w_ 3), (2, w_ 3)] 5 [12] [] (⟨(by have := hn; omega), (by have := hn; omega), fun _ _ FF2 MM2 => then_n ?_⟩))
  refine wp_cond_false (FF2.ev 0 rfl) ?_
  refine wp_skip ?_
  refine then_n ?_
  refine wp_seq (rg_c FF2 MM2 [(1, n_ (.slice none n n) (.cells (cn .u8 (List.replicate n 0)) 5))] 6 [] [] (⟨(make_ok (t := 73) (e := 5) (p := (.tmp 13)) (q := (.tmp 13)) (by kernel_rfl) rfl rfl Try.underlying73 (by kernel_rfl) (by have := hn; omega)), fun bo => fun _ wd3 FF3 MM3 => then_n ?_⟩))
  have MMr10 : MemS (fun k => k < w0.heap.size ∧ ∀ x ∈ (g, oC #[sB X, iN u] 32) :: ([] : Blks), x.1 ≠ k) w0 wd3 ((bo, .cells (cn .u8 (genL n (fun j => (X.drop u).getD j 0) 0)) 5) :: (g, oC #[sB X, iN u] 32) :: ([] : Blks)) [] := by rw [← genL_zero n (fun j => (X.drop u).getD j 0)]; exact MM3
  refine wp_seq ?_
  refine wp_seq (rg_c FF3 MMr10 [] 7 [] [] (fun _ _ FF4 MM4 => then_n ?_))
  refine wp_for2 (fun a' w' => ∃ i : Nat, i ≤ n ∧ Fr 51 a' [(6, iN i), (5, .slice (some ⟨bo, 0, none⟩) n n), (4, sB []), (0, pT g), (1, iN n)] ∧ MemS (fun k => k < w0.heap.size ∧ ∀ x ∈ (g, oC #[sB X, iN u] 32) :: ([] : Blks), x.1 ≠ k) w0 w' ((bo, .cells (cn .u8 (genL n (fun j => (X.drop u).getD j 0) i)) 5) :: (g, oC #[sB X, iN (u + i)] 32) :: ([] : Blks)) []) (fun a' _ => (n - cnt 6 a').toNat) ⟨0, Nat.zero_le _, FF4.pick [0, 1, 2, 3, 4], MM4⟩ ?_
  rintro ac5 wd5 ⟨i, hi, FF5, MM5⟩
  have hc := cnt_of (FF5.get 0 rfl)
  refine rg_c FF5 MM5 [] 7 [17] [] (fun _ wd6 FF6 MM6 => ?_)
  by_cases hlt : i < n
  · skip
    refine then_n (.inl ⟨(FF6.ev 0 rfl).trans (dec_t hlt), ?_⟩)
    refine wp_mid (fun a' w' => Fr 51 a' [(6, iN i), (5, .slice (some ⟨bo, 0, none⟩) n n), (4, sB []), (0, pT g), (1, iN n)] ∧ MemS (fun k => k < w0.heap.size ∧ ∀ x ∈ (g, oC #[sB X, iN u] 32) :: ([] : Blks), x.1 ≠ k) w0 w' ((bo, .cells (cn .u8 (genL n (fun j => (X.drop u).getD j 0) (i + 1))) 5) :: (g, oC #[sB X, iN (u + i)] 32) :: ([] : Blks)) []) ?_ ?_
    · skip
      refine wp_seq (rg_dc 10 FF6 MM6 [(3, l_ 1 (iN (u + i))), (3, l_ 1 (sB X)), (0, t_ (iN X.length))] [] 7 [29] [] (⟨rfl, rfl, rfl, rfl, (vI (bs_size _)), fun _ wd7 FF7 MM7 => then_n ?_⟩))
      by_cases hs29 : (u + i) < X.length
      · refine wp_cond_true ((FF7.ev 0 rfl).trans (dec_t hs29)) ?_
        refine rg_dc 12 FF7 MM7 [(5, l_ 1 (sB X)), (3, l_ 1 (iN (u + i))), (0, t_ (iB ((X.drop u).getD i 0))), (0, w_ 1)] [(0, s_ 0 (.cells (cn .u8 (genL n (fun j => (X.drop u).getD j 0) (i + 1))) 5))] 7 [] [] (⟨rfl, rfl, rfl, rfl, (by rw [bs_size]; exact hs29), ((byte_bs hX _).trans (dropD X u i).symm), by omega, rfl, (by rw [cn_size, (genL_len _ _ _)]; omega), (.inl rfl), ((cn_set _ _ _ _).trans (congrArg _ (genL_step _ _ i (by omega) rfl))), fun _ _ FF8 MM8 => ?_⟩)
        refine then_n ?_
        exact ⟨FF8.pick [0, 1, 2, 3, 4], MM8⟩
      · refine wp_cond_false ((FF7.ev 0 rfl).trans (dec_f hs29)) ?_
        have MMr29 : MemS (fun k => k < w0.heap.size ∧ ∀ x ∈ (g, oC #[sB X, iN u] 32) :: ([] : Blks), x.1 ≠ k) w0 wd7 ((bo, .cells (cn .u8 (genL n (fun j => (X.drop u).getD j 0) (i + 1))) 5) :: (g, oC #[sB X, iN (u + i)] 32) :: ([] : Blks)) [] := by rw [tk_zero (X := X.drop u) (by simp; omega) hlt]; exact MM7
        refine wp_skip ?_
        refine then_n ?_
        exact ⟨FF7.pick [1, 2, 3, 4, 5], MMr29⟩
    · rintro ac9 wd9 ⟨FF9, MM9⟩
      refine rg_c FF9 MM9 [(3, l_ 1 (iN (u + i))), (3, s_ 1 (oC #[sB X, iN ((u + i) + 1)] 32))] 7 [] [] (⟨rfl, rfl, by omega, rfl, (by simp), (.inl rfl), rfl, fun _ _ FF10 MM10 => ?_⟩)
      refine inb_n (then_n ?_)
      refine rg_c FF10 MM10 [] 7 [] [] (⟨by omega, fun _ _ FF11 MM11 => ?_⟩)
      have hd := cnt_of (FF11.get 0 rfl)
      refine then_n ⟨⟨i + 1, by omega, FF11.pick [0, 1, 2, 3, 4], MM11⟩, ?_⟩
      rw [hc, hd]; omega
  · skip
    refine then_n (.inr ⟨(FF6.ev 0 rfl).trans (dec_f hlt), ?_⟩)
    obtain rfl : n = i := by omega
    have MMl : MemS (fun k => k < w0.heap.size ∧ ∀ x ∈ (g, oC #[sB X, iN u] 32) :: ([] : Blks), x.1 ≠ k) w0 wd6 ((bo, .cells (cn .u8 (takN n (X.drop u))) 5) :: (g, oC #[sB X, iN (u + n)] 32) :: ([] : Blks)) [] := by rw [← tkI_end n (X.drop u)]; exact MM6
    refine then_n ?_
    refine wp_seq (rg_c FF6 MMl [(1, l_ 0 (sB (takN n (X.drop u))))] 7 [] [] (⟨rfl, (str_all (takN_len _ _) (takN_lt (dropX_lt hX u) n)), fun _ _ FF12 MM12 => then_n ?_⟩))
    refine wp_ret ?_
    repeat first | refine then_ret ?_ | refine inb_ret ?_
    exact (ret_fr FF12 0 Try.results46 rfl ⟨rfl, MM12.turn (O := []) (fun i x hx => by simp at hx) 1 rfl (fun x hx => (nomatch hx))⟩)
set_option maxRecDepth 100000 in
theorem rkey_any (g : Nat) (X : List Nat) (u : Nat) (hX : ∀ i, X.getD i 0 < 256) (hu : u < 4611686018427387904)  (w0 : World) (hg : w0.heap[g]? = some (RB X u)) :
    Calls Try.prog 34 #[pT g] w0 fun e w' => e = .returned (.agg (cn .u8 (takN 32 (X.drop u)))) ∧ Turn g (RB X (u + 32)) w0 w' := by
  refine enter_fr Try.func34 rfl Try.ntmps34 (by simp) fun ac (FF : Fr 10 ac [(0, pT g)]) => ?_
  have MM : MemS (fun k => k < w0.heap.size ∧ ∀ x ∈ (g, oC #[sB X, iN u] 32) :: ([] : Blks), x.1 ≠ k) w0 w0 ((g, oC #[sB X, iN u] 32) :: ([] : Blks)) [] := MemS.startN (one_has hg) ⟨fun y hy => (nomatch hy), trivial⟩
  refine wp_seq (rg_c FF MM [(0, s_ 0 (.cells (cn .u8 (List.replicate 32 0)) 41))] 3 [] [] (⟨(by kernel_rfl), fun br => fun _ _ FF1 MM1 => then_n ?_⟩))
  refine wp_seq (rg_c FF1 MM1 [(0, t_ (.agg (cn .u8 (List.replicate 32 0)))), (0, s_ 0 (.cells (cn .u8 (List.replicate 32 0)) 41)), (0, b_ 0)] 4 [] [] (⟨(by kernel_rfl), (by kernel_rfl), fun bk => ⟨rfl, ((cn_size _ _).trans (List.length_replicate ..)), ((cn_size _ _).trans (List.length_replicate ..)), (cn_one _ _), rfl, fun _ _ FF2 MM2 => then_n ?_⟩⟩))
  refine wp_mid (fun a' w' => Fr 10 a' [(3, pT bk), (2, pT br)] ∧ MemS (fun k => k < w0.heap.size ∧ ∀ x ∈ (g, oC #[sB X, iN u] 32) :: ([] : Blks), x.1 ≠ k) w0 w' ((bk, .cells (cn .u8 (takN 32 (X.drop u))) 41) :: (br, .cells (cn .u8 (List.replicate 32 0)) 41) :: (g, oC #[sB X, iN (u + 32)] 32) :: ([] : Blks)) []) ?_ ?_
  · skip
    refine draw_open (N := 4) (by kernel_rfl) (by kernel_rfl) MM2 fun wq3 (MM4 : MemS (fun k => k < w0.heap.size ∧ ∀ x ∈ (g, oC #[sB X, iN u] 32) :: ([] : Blks), x.1 ≠ k) w0 wq3 ((bk, .cells (cn .u8 (List.replicate 32 0)) 41) :: (br, .cells (cn .u8 (List.replicate 32 0)) 41) :: (g, oC #[sB X, iN u] 32) :: ([] : Blks)) []) => ?_
    refine take_op FF2 (i := 1) (oi := (opAt Try.f34 2 1)) (v := (pT g)) (d := 6) (by kernel_rfl) (by kernel_rfl) (by kernel_rfl) (by kernel_rfl) (fun _ _ _ _ _ h => h) (by kernel_rfl) (by decide) (by kernel_rfl) (mvV (x := (.tmp 0)) (by kernel_rfl) rfl) fun _ FF5 => ?_
    refine any_two (i := 0) (oi := (opAt Try.f34 2 0)) (j := 2) (oj := (opAt Try.f34 2 2)) (by kernel_rfl) (by kernel_rfl) (by kernel_rfl) ?_ ?_
    · skip
      refine rp_c 1 FF5 MM4 [] 7 [] [0] (⟨by decide, by decide, by decide, fun _ _ FF6 MM6 => ?_⟩)
      refine wpl_nil (onN_n ?_)
      refine any_one (i := 2) (o := (opAt Try.f34 2 2)) (by kernel_rfl) (by kernel_rfl) ?_
      refine rp_c 1 FF6 MM6 [(0, c_ (sB (takN 32 (X.drop u))) [(2, oC #[sB X, iN (u + 32)] 32)])] 6 [7] [] (⟨(callU_turn en_rtake (g := g) (ob := RB X u) rfl fun w hg => by have h0 := rtake_any g 32 X u hX (by omega) (by decide) w hg; exact h0), fun _ _ FF7 MM7 => ?_⟩)
      refine wpl_nil (onN_n ?_)
      refine any_one (i := 3) (o := (opAt Try.f34 2 3)) (by kernel_rfl) (by kernel_rfl) ?_
      refine rp_c 1 FF7 MM7 [(0, r_ (iN (min (takN 32 (X.drop u)).length 32)) [(0, .cells (cn .u8 (takN 32 (X.drop u))) 41)])] 4 [] [] (⟨(copyStr_ok (p := .tmp 5) (q := .tmp 7) (t := 73) (tq := 9) (e := 5) (T := 41) (off := 0) (len := 32) (X := takN 32 (X.drop u)) (cs := cn .u8 (List.replicate 32 0)) (i := 0) (by kernel_rfl) rfl rfl (takN_lt (dropX_lt hX u) 32) Try.underlying73 (by kernel_rfl) rfl (by rw [cn_size, List.length_replicate]; decide) (by rw [List.take_of_length_le (by rw [takN_len]; decide)]; exact setFrom_new8 (by rw [List.length_replicate, takN_len]))), fun _ _ FF8 MM8 => ?_⟩)
      refine wpl_nil (onN_n ?_)
      refine any_none (by kernel_rfl) (then_n ?_)
      exact ⟨FF8.pick [0, 1], MM8⟩
    · skip
      refine rp_c 1 FF5 MM4 [(0, c_ (sB (takN 32 (X.drop u))) [(2, oC #[sB X, iN (u + 32)] 32)])] 4 [7] [0] (⟨(callU_turn en_rtake (g := g) (ob := RB X u) rfl fun w hg => by have h0 := rtake_any g 32 X u hX (by omega) (by decide) w hg; exact h0), fun _ _ FF9 MM9 => ?_⟩)
      refine wpl_nil (onN_n ?_)
      refine any_one (i := 0) (o := (opAt Try.f34 2 0)) (by kernel_rfl) (by kernel_rfl) ?_
      refine rp_c 1 FF9 MM9 [] 8 [] [] (⟨by decide, by decide, by decide, fun _ _ FF10 MM10 => ?_⟩)
      refine wpl_nil (onN_n ?_)
      refine any_one (i := 3) (o := (opAt Try.f34 2 3)) (by kernel_rfl) (by kernel_rfl) ?_
      refine rp_c 1 FF10 MM10 [(0, r_ (iN (min (takN 32 (X.drop u)).length 32)) [(0, .cells (cn .u8 (takN 32 (X.drop u))) 41)])] 4 [] [] (⟨(copyStr_ok (p := .tmp 5) (q := .tmp 7) (t := 73) (tq := 9) (e := 5) (T := 41) (off := 0) (len := 32) (X := takN 32 (X.drop u)) (cs := cn .u8 (List.replicate 32 0)) (i := 0) (by kernel_rfl) rfl rfl (takN_lt (dropX_lt hX u) 32) Try.underlying73 (by kernel_rfl) rfl (by rw [cn_size, List.length_replicate]; decide) (by rw [List.take_of_length_le (by rw [takN_len]; decide)]; exact setFrom_new8 (by rw [List.length_replicate, takN_len]))), fun _ _ FF11 MM11 => ?_⟩)
      refine wpl_nil (onN_n ?_)
      refine any_none (by kernel_rfl) (then_n ?_)
      exact ⟨FF11.pick [0, 1], MM11⟩
  · rintro ac12 wd12 ⟨FF12, MM12⟩
    refine wp_seq (rg_c FF12 MM12 [(0, b_ 0), (0, b_ 1)] 4 [] [] (⟨rfl, ((cn_size _ _).trans (takN_len _ _)), rfl, ((cn_size _ _).trans (List.length_replicate ..)), ((cn_size _ _).trans (takN_len _ _)), (cn_one _ _), rfl, fun _ _ FF13 MM13 => then_n ?_⟩))
    refine wp_ret ?_
    repeat first | refine then_ret ?_ | refine inb_ret ?_
    exact (retc FF13 MM13 (k := 32) (i := 1) (j := 1) Try.results34 rfl rfl Try.underlying41 rfl (by kernel_rfl) ((cn_size _ _).trans (takN_len _ _)) ⟨rfl, MM13.turn (O := []) (fun i x hx => by simp at hx) 2 rfl (fun x hx => (nomatch hx))⟩)
set_option maxRecDepth 100000 in
theorem rid__any (g : Nat) (X : List Nat) (u : Nat) (hX : ∀ i, X.getD i 0 < 256) (hu : u < 4611686018427387904)  (w0 : World) (hg : w0.heap[g]? = some (RB X u)) :
    Calls Try.prog 36 #[pT g] w0 fun e w' => e = .returned (.agg (cn .u8 (takN 16 (X.drop u)))) ∧ Turn g (RB X (u + 16)) w0 w' := by
  refine enter_fr Try.func36 rfl Try.ntmps36 (by simp) fun ac (FF : Fr 10 ac [(0, pT g)]) => ?_
  have MM : MemS (fun k => k < w0.heap.size ∧ ∀ x ∈ (g, oC #[sB X, iN u] 32) :: ([] : Blks), x.1 ≠ k) w0 w0 ((g, oC #[sB X, iN u] 32) :: ([] : Blks)) [] := MemS.startN (one_has hg) ⟨fun y hy => (nomatch hy), trivial⟩
  refine wp_seq (rg_c FF MM [(0, s_ 0 (.cells (cn .u8 (List.replicate 16 0)) 50))] 3 [] [] (⟨(by kernel_rfl), fun br => fun _ _ FF1 MM1 => then_n ?_⟩))
  refine wp_seq (rg_c FF1 MM1 [(0, t_ (.agg (cn .u8 (List.replicate 16 0)))), (0, s_ 0 (.cells (cn .u8 (List.replicate 16 0)) 50)), (0, b_ 0)] 4 [] [] (⟨(by kernel_rfl), (by kernel_rfl), fun bk => ⟨rfl, ((cn_size _ _).trans (List.length_replicate ..)), ((cn_size _ _).trans (List.length_replicate ..)), (cn_one _ _), rfl, fun _ _ FF2 MM2 => then_n ?_⟩⟩))
  refine wp_mid (fun a' w' => Fr 10 a' [(3, pT bk), (2, pT br)] ∧ MemS (fun k => k < w0.heap.size ∧ ∀ x ∈ (g, oC #[sB X, iN u] 32) :: ([] : Blks), x.1 ≠ k) w0 w' ((bk, .cells (cn .u8 (takN 16 (X.drop u))) 50) :: (br, .cells (cn .u8 (List.replicate 16 0)) 50) :: (g, oC #[sB X, iN (u + 16)] 32) :: ([] : Blks)) []) ?_ ?_
  · skip
    refine draw_open (N := 4) (by kernel_rfl) (by kernel_rfl) MM2 fun wq3 (MM4 : MemS (fun k => k < w0.heap.size ∧ ∀ x ∈ (g, oC #[sB X, iN u] 32) :: ([] : Blks), x.1 ≠ k) w0 wq3 ((bk, .cells (cn .u8 (List.replicate 16 0)) 50) :: (br, .cells (cn .u8 (List.replicate 16 0)) 50) :: (g, oC #[sB X, iN u] 32) :: ([] : Blks)) []) => ?_
    refine take_op FF2 (i := 1) (oi := (opAt Try.f36 2 1)) (v := (pT g)) (d := 6) (by kernel_rfl) (by kernel_rfl) (by kernel_rfl) (by kernel_rfl) (fun _ _ _ _ _ h => h) (by kernel_rfl) (by decide) (by kernel_rfl) (mvV (x := (.tmp 0)) (by kernel_rfl) rfl) fun _ FF5 => ?_
    refine any_two (i := 0) (oi := (opAt Try.f36 2 0)) (j := 2) (oj := (opAt Try.f36 2 2)) (by kernel_rfl) (by kernel_rfl) (by kernel_rfl) ?_ ?_
    · skip
      refine rp_c 1 FF5 MM4 [] 7 [] [0] (⟨by decide, by decide, by decide, fun _ _ FF6 MM6 => ?_⟩)
      refine wpl_nil (onN_n ?_)
      refine any_one (i := 2) (o := (opAt Try.f36 2 2)) (by kernel_rfl) (by kernel_rfl) ?_
      refine rp_c 1 FF6 MM6 [(0, c_ (sB (takN 16 (X.drop u))) [(2, oC #[sB X, iN (u + 16)] 32)])] 6 [7] [] (⟨(callU_turn en_rtake (g := g) (ob := RB X u) rfl fun w hg => by have h0 := rtake_any g 16 X u hX (by omega) (by decide) w hg; exact h0), fun _ _ FF7 MM7 => ?_⟩)
      refine wpl_nil (onN_n ?_)
      refine any_one (i := 3) (o := (opAt Try.f36 2 3)) (by kernel_rfl) (by kernel_rfl) ?_
      refine rp_c 1 FF7 MM7 [(0, r_ (iN (min (takN 16 (X.drop u)).length 16)) [(0, .cells (cn .u8 (takN 16 (X.drop u))) 50)])] 4 [] [] (⟨(copyStr_ok (p := .tmp 5) (q := .tmp 7) (t := 73) (tq := 9) (e := 5) (T := 50) (off := 0) (len := 16) (X := takN 16 (X.drop u)) (cs := cn .u8 (List.replicate 16 0)) (i := 0) (by kernel_rfl) rfl rfl (takN_lt (dropX_lt hX u) 16) Try.underlying73 (by kernel_rfl) rfl (by rw [cn_size, List.length_replicate]; decide) (by rw [List.take_of_length_le (by rw [takN_len]; decide)]; exact setFrom_new8 (by rw [List.length_replicate, takN_len]))), fun _ _ FF8 MM8 => ?_⟩)
      refine wpl_nil (onN_n ?_)
      refine any_none (by kernel_rfl) (then_n ?_)
      exact ⟨FF8.pick [0, 1], MM8⟩
    · skip
      refine rp_c 1 FF5 MM4 [(0, c_ (sB (takN 16 (X.drop u))) [(2, oC #[sB X, iN (u + 16)] 32)])] 4 [7] [0] (⟨(callU_turn en_rtake (g := g) (ob := RB X u) rfl fun w hg => by have h0 := rtake_any g 16 X u hX (by omega) (by decide) w hg; exact h0), fun _ _ FF9 MM9 => ?_⟩)
      refine wpl_nil (onN_n ?_)
      refine any_one (i := 0) (o := (opAt Try.f36 2 0)) (by kernel_rfl) (by kernel_rfl) ?_
      refine rp_c 1 FF9 MM9 [] 8 [] [] (⟨by decide, by decide, by decide, fun _ _ FF10 MM10 => ?_⟩)
      refine wpl_nil (onN_n ?_)
      refine any_one (i := 3) (o := (opAt Try.f36 2 3)) (by kernel_rfl) (by kernel_rfl) ?_
      refine rp_c 1 FF10 MM10 [(0, r_ (iN (min (takN 16 (X.drop u)).length 16)) [(0, .cells (cn .u8 (takN 16 (X.drop u))) 50)])] 4 [] [] (⟨(copyStr_ok (p := .tmp 5) (q := .tmp 7) (t := 73) (tq := 9) (e := 5) (T := 50) (off := 0) (len := 16) (X := takN 16 (X.drop u)) (cs := cn .u8 (List.replicate 16 0)) (i := 0) (by kernel_rfl) rfl rfl (takN_lt (dropX_lt hX u) 16) Try.underlying73 (by kernel_rfl) rfl (by rw [cn_size, List.length_replicate]; decide) (by rw [List.take_of_length_le (by rw [takN_len]; decide)]; exact setFrom_new8 (by rw [List.length_replicate, takN_len]))), fun _ _ FF11 MM11 => ?_⟩)
      refine wpl_nil (onN_n ?_)
      refine any_none (by kernel_rfl) (then_n ?_)
      exact ⟨FF11.pick [0, 1], MM11⟩
  · rintro ac12 wd12 ⟨FF12, MM12⟩
    refine wp_seq (rg_c FF12 MM12 [(0, b_ 0), (0, b_ 1)] 4 [] [] (⟨rfl, ((cn_size _ _).trans (takN_len _ _)), rfl, ((cn_size _ _).trans (List.length_replicate ..)), ((cn_size _ _).trans (takN_len _ _)), (cn_one _ _), rfl, fun _ _ FF13 MM13 => then_n ?_⟩))
    refine wp_ret ?_
    repeat first | refine then_ret ?_ | refine inb_ret ?_
    exact (retc FF13 MM13 (k := 16) (i := 1) (j := 1) Try.results36 rfl rfl Try.underlying50 rfl (by kernel_rfl) ((cn_size _ _).trans (takN_len _ _)) ⟨rfl, MM13.turn (O := []) (fun i x hx => by simp at hx) 2 rfl (fun x hx => (nomatch hx))⟩)
end Go.Proofs.Ytniplfjnpjihoaa
namespace Go.Proofs.Ytniplfjnpjihoaa
open Go.RowKit
theorem en_crotl : Enters Try.prog 96 := fun args w => by simp [go_sem]
theorem en_quarter : Enters Try.prog 88 := fun args w => by simp [go_sem]
theorem en_cword : Enters Try.prog 72 := fun args w => by simp [go_sem]
theorem en_laid : Enters Try.prog 56 := fun args w => by simp [go_sem]
theorem en_stirred : Enters Try.prog 73 := fun args w => by simp [go_sem]
theorem en_cblk : Enters Try.prog 58 := fun args w => by simp [go_sem]
theorem en_cturn : Enters Try.prog 57 := fun args w => by simp [go_sem]
theorem en_left : Enters Try.prog 94 := fun args w => by simp [go_sem]
theorem en_rquarter : Enters Try.prog 85 := fun args w => by simp [go_sem]
theorem en_four : Enters Try.prog 84 := fun args w => by simp [go_sem]
theorem en_rBlock : Enters Try.prog 68 := fun args w => by simp [go_sem]
theorem en_rMask : Enters Try.prog 54 := fun args w => by simp [go_sem]
set_option maxRecDepth 100000 in
theorem crotl_w (x n : Nat) (hx : x < 4294967296) (h0 : 0 < n) (hn : n < 32) (w0 : World) :
    Calls Try.prog 96 #[.int .u32 (x : Nat), iN n] w0 fun e w' => e = .returned (.int .u32 (rN (2 ^ n) (2 ^ (32 - n)) x : Nat)) ∧ Below w0.heap.size w0 w' := by
  refine enter_fr Try.func96 rfl Try.ntmps96 (by simp) fun ac (FF : Fr 17 ac [(0, .int .u32 (x : Nat)), (1, iN n)]) => ?_
  have MM := MemS.start w0
  refine wp_seq (rg_c FF MM [] 5 [] [] (fun _ _ FF1 MM1 => then_n ?_))
  refine wp_seq (rg_c FF1 MM1 [(2, t_ (iW n))] 6 [] [1] (⟨(by have := h0; have := hn; omega), by decide, (vI ((and_low 5 _).trans (by omega))), fun _ _ FF2 MM2 => then_n ?_⟩))
  refine wp_seq (rg_c FF2 MM2 [(5, u_ 1 (iW (32 - n))), (1, t_ (.int .u32 (rN (2 ^ n) (2 ^ (32 - n)) x : Nat)))] 0 [4] [] (⟨by omega, by omega, rfl, (by show _ ≤ 32; have := hx; omega), (Nat.mod_lt _ (by decide)), (Nat.lt_of_le_of_lt (Nat.div_le_self _ _) hx), rfl, fun _ _ FF3 MM3 => then_n ?_⟩))
  refine wp_ret ?_
  repeat first | refine then_ret ?_ | refine inb_ret ?_
  exact (ret_fr FF3 0 Try.results96 rfl ⟨rfl, MM3.below⟩)
set_option maxRecDepth 100000 in
theorem left_w (x n : Nat) (hx : x < 4294967296) (h0 : 0 < n) (hn : n < 32) (w0 : World) :
    Calls Try.prog 94 #[.int .u32 (x : Nat), .int .u32 (n : Nat)] w0 fun e w' => e = .returned (.int .u32 (rN (2 ^ n) (2 ^ (32 - n)) x : Nat)) ∧ Below w0.heap.size w0 w' := by
  refine enter_fr Try.func94 rfl Try.ntmps94 (by simp) fun ac (FF : Fr 13 ac [(0, .int .u32 (x : Nat)), (1, .int .u32 (n : Nat))]) => ?_
  have MM := MemS.start w0
  refine wp_seq (rg_c FF MM [] 5 [] [] (fun _ _ FF1 MM1 => then_n ?_))
  refine wp_seq (rg_c FF1 MM1 [(5, u_ 1 (.int .u32 (32 - n : Nat))), (1, t_ (.int .u32 (rN (2 ^ n) (2 ^ (32 - n)) x : Nat)))] 0 [4] [] (⟨(by have := h0; have := hn; omega), (by have := h0; have := hn; omega), rfl, (by show _ ≤ 32; have := hx; omega), (Nat.mod_lt _ (by decide)), (Nat.lt_of_le_of_lt (Nat.div_le_self _ _) hx), rfl, fun _ _ FF2 MM2 => then_n ?_⟩))
  refine wp_ret ?_
  repeat first | refine then_ret ?_ | refine inb_ret ?_
  exact (ret_fr FF2 0 Try.results94 rfl ⟨rfl, MM2.below⟩)
theorem crotl_any (x n m d : Nat) (hx : x < 4294967296) (h0 : 0 < n) (hn : n < 32) (hm : 2 ^ n = m) (hd : 2 ^ (32 - n) = d) (w : World) : Calls Try.prog 96 #[.int .u32 (x : Nat), iN n] w fun e w' => e = .returned (.int .u32 (rN m d x : Nat)) ∧ Below w.heap.size w w' := by
  subst hm hd
  exact crotl_w x n hx h0 hn w
theorem left_any (x n m d : Nat) (hx : x < 4294967296) (h0 : 0 < n) (hn : n < 32) (hm : 2 ^ n = m) (hd : 2 ^ (32 - n) = d) (w : World) : Calls Try.prog 94 #[.int .u32 (x : Nat), .int .u32 (n : Nat)] w fun e w' => e = .returned (.int .u32 (rN m d x : Nat)) ∧ Below w.heap.size w w' := by
  subst hm hd
  exact left_w x n hx h0 hn w
set_option maxRecDepth 100000 in
theorem quarter_any (a b c d : Nat) (hb : b < 4294967296) (hd : d < 4294967296) (w0 : World) :
    Calls Try.prog 88 #[.int .u32 (a : Nat), .int .u32 (b : Nat), .int .u32 (c : Nat), .int .u32 (d : Nat)] w0 fun e w' => e = .returned (.tuple #[.int .u32 ((q4 a b c d).a : Nat), .int .u32 ((q4 a b c d).b : Nat), .int .u32 ((q4 a b c d).c : Nat), .int .u32 ((q4 a b c d).d : Nat)]) ∧ Below w0.heap.size w0 w' := by
  refine enter_fr Try.func88 rfl Try.ntmps88 (by simp) fun ac (FF : Fr 44 ac [(0, .int .u32 (a : Nat)), (1, .int .u32 (b : Nat)), (2, .int .u32 (c : Nat)), (3, .int .u32 (d : Nat))]) => ?_
  have MM := MemS.start w0
  refine wp_seq (rg_c FF MM [] 12 [] [] (fun _ _ FF1 MM1 => then_n ?_))
  obtain ⟨a1, ea1⟩ : ∃ z, (a + b) % 4294967296 = z := ⟨_, rfl⟩
  have ha1 : a1 < 4294967296 := ea1 ▸ (Nat.mod_lt _ (by decide))
  refine wp_seq (rg_c FF1 MM1 [(2, t_ (.int .u32 (a1 : Nat)))] 12 [] [] (⟨(vI ea1), fun _ _ FF2 MM2 => then_n ?_⟩))
  obtain ⟨d1, ed1⟩ : ∃ z, rN 65536 65536 (d ^^^ a1) = z := ⟨_, rfl⟩
  have hd1 : d1 < 4294967296 := ed1 ▸ rN_lt 65536 65536 _ (xor_lt hd ha1)
  refine wp_seq (rg_c FF2 MM2 [(3, t_ (.int .u32 (d1 : Nat)))] 12 [] [] (⟨hd, ha1, (by rw [← ed1]; exact (callP_of en_crotl (crotl_any (d ^^^ a1) 16 65536 65536 (xor_lt hd ha1) (by decide) (by decide) rfl rfl) _)), fun _ _ FF3 MM3 => then_n ?_⟩))
  obtain ⟨c1, ec1⟩ : ∃ z, (c + d1) % 4294967296 = z := ⟨_, rfl⟩
  have hc1 : c1 < 4294967296 := ec1 ▸ (Nat.mod_lt _ (by decide))
  refine wp_seq (rg_c FF3 MM3 [(2, t_ (.int .u32 (c1 : Nat)))] 12 [] [] (⟨(vI ec1), fun _ _ FF4 MM4 => then_n ?_⟩))
  obtain ⟨b1, eb1⟩ : ∃ z, rN 4096 1048576 (b ^^^ c1) = z := ⟨_, rfl⟩
  have hb1 : b1 < 4294967296 := eb1 ▸ rN_lt 4096 1048576 _ (xor_lt hb hc1)
  refine wp_seq (rg_c FF4 MM4 [(3, t_ (.int .u32 (b1 : Nat)))] 12 [] [] (⟨hb, hc1, (by rw [← eb1]; exact (callP_of en_crotl (crotl_any (b ^^^ c1) 12 4096 1048576 (xor_lt hb hc1) (by decide) (by decide) rfl rfl) _)), fun _ _ FF5 MM5 => then_n ?_⟩))
  obtain ⟨a2, ea2⟩ : ∃ z, (a1 + b1) % 4294967296 = z := ⟨_, rfl⟩
  have ha2 : a2 < 4294967296 := ea2 ▸ (Nat.mod_lt _ (by decide))
  refine wp_seq (rg_c FF5 MM5 [(2, t_ (.int .u32 (a2 : Nat)))] 12 [] [] (⟨(vI ea2), fun _ _ FF6 MM6 => then_n ?_⟩))
  obtain ⟨d2, ed2⟩ : ∃ z, rN 256 16777216 (d1 ^^^ a2) = z := ⟨_, rfl⟩
  have hd2 : d2 < 4294967296 := ed2 ▸ rN_lt 256 16777216 _ (xor_lt hd1 ha2)
  refine wp_seq (rg_c FF6 MM6 [(3, t_ (.int .u32 (d2 : Nat)))] 12 [] [] (⟨hd1, ha2, (by rw [← ed2]; exact (callP_of en_crotl (crotl_any (d1 ^^^ a2) 8 256 16777216 (xor_lt hd1 ha2) (by decide) (by decide) rfl rfl) _)), fun _ _ FF7 MM7 => then_n ?_⟩))
  obtain ⟨c2, ec2⟩ : ∃ z, (c1 + d2) % 4294967296 = z := ⟨_, rfl⟩
  have hc2 : c2 < 4294967296 := ec2 ▸ (Nat.mod_lt _ (by decide))
  refine wp_seq (rg_c FF7 MM7 [(2, t_ (.int .u32 (c2 : Nat)))] 12 [] [] (⟨(vI ec2), fun _ _ FF8 MM8 => then_n ?_⟩))
  obtain ⟨b2, eb2⟩ : ∃ z, rN 128 33554432 (b1 ^^^ c2) = z := ⟨_, rfl⟩
  have hb2 : b2 < 4294967296 := eb2 ▸ rN_lt 128 33554432 _ (xor_lt hb1 hc2)
  refine wp_seq (rg_c FF8 MM8 [(3, t_ (.int .u32 (b2 : Nat)))] 12 [] [] (⟨hb1, hc2, (by rw [← eb2]; exact (callP_of en_crotl (crotl_any (b1 ^^^ c2) 7 128 33554432 (xor_lt hb1 hc2) (by decide) (by decide) rfl rfl) _)), fun _ _ FF9 MM9 => then_n ?_⟩))
  refine wp_seq (rg_c FF9 MM9 [] 12 [] [] (fun _ _ FF10 MM10 => then_n ?_))
  refine wp_ret ?_
  repeat first | refine then_ret ?_ | refine inb_ret ?_
  exact (ret_tup4 FF10 3 2 1 0 Try.results88 rfl rfl rfl rfl ⟨by subst ea1 ed1 ec1 eb1 ea2 ed2 ec2 eb2; rfl, MM10.below⟩)
set_option maxRecDepth 100000 in
theorem cword_any (X : List Nat) (hl : X.length = 4) (hX : ∀ i, X.getD i 0 < 256) (w0 : World) :
    Calls Try.prog 72 #[.agg (cn .u8 X)] w0 fun e w' => e = .returned (.int .u32 (cwdL X : Nat)) ∧ Below w0.heap.size w0 w' := by
  refine enter_fr Try.func72 rfl Try.ntmps72 (by simp) fun ac (FF : Fr 21 ac [(0, .agg (cn .u8 X))]) => ?_
  have MM := MemS.start w0
  have h0 := hX 0
  have h1 := hX 1
  have h2 := hX 2
  have h3 := hX 3
  refine wp_seq (rg_c FF MM [(0, s_ 0 (.cells (cn .u8 X) 142))] 3 [] [0] (⟨(by kernel_rfl), fun b1 => fun _ _ FF1 MM1 => then_n ?_⟩))
  refine wp_seq (rg_c FF1 MM1 [(0, w_ 1), (0, l_ 0 (iB (X.getD 0 0))), (0, w_ 1), (0, w_ 1), (0, l_ 0 (iB (X.getD 1 0))), (0, w_ 1), (0, t_ (.int .u32 (X.getD 1 0 * 256 : Nat))), (0, t_ (.int .u32 (X.getD 0 0 + X.getD 1 0 * 256 : Nat))), (0, w_ 1), (0, l_ 0 (iB (X.getD 2 0))), (0, w_ 1), (0, t_ (.int .u32 (X.getD 2 0 * 65536 : Nat))), (0, t_ (.int .u32 (X.getD 0 0 + X.getD 1 0 * 256 + X.getD 2 0 * 65536 : Nat))), (0, w_ 1), (0, l_ 0 (iB (X.getD 3 0))), (0, w_ 1), (0, t_ (.int .u32 (X.getD 3 0 * 16777216 : Nat))), (0, t_ (.int .u32 (cwdL X : Nat)))] 0 [2] [] (⟨by decide, rfl, (cn_get _ _ _ (by rw [hl]; decide)), (by have := hX 0; omega), by decide, rfl, (cn_get _ _ _ (by rw [hl]; decide)), (by have := hX 1; omega), (vI (Nat.mod_eq_of_lt (by omega))), by omega, by omega, (vI (or_shl 8 h0)), by decide, rfl, (cn_get _ _ _ (by rw [hl]; decide)), (by have := hX 2; omega), (vI (Nat.mod_eq_of_lt (by omega))), by omega, by omega, (vI (or_shl 16 (by omega))), by decide, rfl, (cn_get _ _ _ (by rw [hl]; decide)), (by have := hX 3; omega), (vI (Nat.mod_eq_of_lt (by omega))), by omega, by omega, (vI (cwdL_or hX)), fun _ _ FF2 MM2 => then_n ?_⟩))
  refine wp_ret ?_
  repeat first | refine then_ret ?_ | refine inb_ret ?_
  exact (ret_fr FF2 0 Try.results72 rfl ⟨rfl, MM2.below⟩)
set_option maxRecDepth 100000 in
theorem four_any (X : List Nat) (hl : X.length = 4) (hX : ∀ i, X.getD i 0 < 256) (w0 : World) :
    Calls Try.prog 84 #[sB X] w0 fun e w' => e = .returned (.int .u32 (cwdL X : Nat)) ∧ Below w0.heap.size w0 w' := by
  refine enter_fr Try.func84 rfl Try.ntmps84 (by simp) fun ac (FF : Fr 21 ac [(0, sB X)]) => ?_
  have MM := MemS.start w0
  have h0 := hX 0
  have h1 := hX 1
  have h2 := hX 2
  have h3 := hX 3
  refine wp_seq (rg_c FF MM [] 3 [] [] (fun _ _ FF1 MM1 => then_n ?_))
  refine wp_seq (rg_dc 19 FF1 MM1 [(1, t_ (iB (X.getD 0 0))), (0, w_ 1), (1, t_ (iB (X.getD 1 0))), (0, w_ 1), (0, t_ (.int .u32 (X.getD 1 0 * 256 : Nat))), (0, t_ (.int .u32 (X.getD 0 0 + X.getD 1 0 * 256 : Nat))), (1, t_ (iB (X.getD 2 0))), (0, w_ 1), (0, t_ (.int .u32 (X.getD 2 0 * 65536 : Nat))), (0, t_ (.int .u32 (X.getD 0 0 + X.getD 1 0 * 256 + X.getD 2 0 * 65536 : Nat))), (1, t_ (iB (X.getD 3 0))), (0, w_ 1), (0, t_ (.int .u32 (X.getD 3 0 * 16777216 : Nat))), (0, t_ (.int .u32 (cwdL X : Nat)))] [] 0 [2] [] (⟨(by simp only [bs_size]; omega), (byte_bs hX _), (by have := hX 0; omega), (by simp only [bs_size]; omega), (byte_bs hX _), (by have := hX 1; omega), (vI (Nat.mod_eq_of_lt (by omega))), by omega, by omega, (vI (or_shl 8 h0)), (by simp only [bs_size]; omega), (byte_bs hX _), (by have := hX 2; omega), (vI (Nat.mod_eq_of_lt (by omega))), by omega, by omega, (vI (or_shl 16 (by omega))), (by simp only [bs_size]; omega), (byte_bs hX _), (by have := hX 3; omega), (vI (Nat.mod_eq_of_lt (by omega))), by omega, by omega, (vI (cwdL_or hX)), fun _ _ FF2 MM2 => then_n ?_⟩))
  refine wp_ret ?_
  repeat first | refine then_ret ?_ | refine inb_ret ?_
  exact (ret_fr FF2 0 Try.results84 rfl ⟨rfl, MM2.below⟩)
set_option maxRecDepth 100000 in
theorem laid_any (ks ns : List Nat) (c : Nat) (hks : Bytes 32 ks) (hns : Bytes 12 ns) (w0 : World) :
    Calls Try.prog 56 #[.agg (cn .u8 ks), .int .u32 (c : Nat), .agg (cn .u8 ns)] w0 fun e w' => e = .returned (.agg (cn .u32 (laid ks c ns))) ∧ Below w0.heap.size w0 w' := by
  refine enter_fr Try.func56 rfl Try.ntmps56 (by simp) fun ac (FF : Fr 39 ac [(0, .agg (cn .u8 ks)), (1, .int .u32 (c : Nat)), (2, .agg (cn .u8 ns))]) => ?_
  have MM := MemS.start w0
  refine wp_seq (rg_c FF MM [(0, s_ 0 (.cells (cn .u8 ks) 42)), (0, s_ 0 (.cells (cn .u8 ns) 45)), (0, s_ 0 (.cells (cn .u32 (List.replicate 16 0)) 126))] 7 [] [0, 2] (⟨(by kernel_rfl), fun bk => ⟨(by kernel_rfl), fun bn => ⟨(by kernel_rfl), fun br => fun _ _ FF1 MM1 => then_n ?_⟩⟩⟩))
  refine wp_seq (rg_c FF1 MM1 [(1, t_ (.agg (cn .u32 ([1634760805, 857760878, 2036477234, 1797285236, 0, 0, 0, 0, 0, 0, 0, 0, c, 0, 0, 0])))), (0, s_ 0 (.cells (cn .u32 (List.replicate 16 0)) 126)), (0, b_ 0)] 8 [] [1] (⟨(by kernel_rfl), (by kernel_rfl), fun bw => ⟨rfl, ((cn_size _ _).trans (List.length_replicate ..)), ((cn_size _ _).trans rfl), (cn_one _ _), rfl, fun _ wd2 FF2 MM2 => then_n ?_⟩⟩))
  have MMr4 : MemS (fun k => k < w0.heap.size) w0 wd2 [(bw, .cells (cn .u32 (setTo 4 ks (lay0 c) 0)) 126), (br, .cells (cn .u32 (List.replicate 16 0)) 126), (bn, .cells (cn .u8 ns) 45), (bk, .cells (cn .u8 ks) 42)] [] := MM2
  refine wp_seq ?_
  refine wp_seq (rg_c FF2 MMr4 [] 13 [] [] (fun _ _ FF3 MM3 => then_n ?_))
  refine wp_for (fun a' w' => ∃ i : Nat, i ≤ 8 ∧ Fr 39 a' [(12, iN i), (7, pT bw), (6, pT br), (5, pT bn), (3, pT bk)] ∧ MemS (fun k => k < w0.heap.size) w0 w' [(bw, .cells (cn .u32 (setTo 4 ks (lay0 c) i)) 126), (br, .cells (cn .u32 (List.replicate 16 0)) 126), (bn, .cells (cn .u8 ns) 45), (bk, .cells (cn .u8 ks) 42)] []) (fun a' _ => (8 - cnt 12 a').toNat) ⟨0, Nat.zero_le _, FF3.pick [0, 1, 2, 3, 4], MM3⟩ ?_
  rintro ac4 wd4 ⟨i, hi, FF4, MM4⟩
  have hc := cnt_of (FF4.get 0 rfl)
  refine rg_c FF4 MM4 [] 14 [] [] (fun _ _ FF5 MM5 => ?_)
  by_cases hlt : i < 8
  · skip
    refine then_n (.inl ⟨(FF5.ev 0 rfl).trans (dec_t hlt), ?_⟩)
    refine wp_seq (rg_c FF5 MM5 [] 13 [] [] (fun _ _ FF6 MM6 => then_n ?_))
    refine rg_c FF6 MM6 [(4, w_ 2), (1, l_ 3 (.agg (cn .u8 (quad ks i)))), (0, t_ (.int .u32 (cwdAt ks i : Nat))), (0, w_ 1), (0, s_ 0 (.cells (cn .u32 ((setTo 4 ks (lay0 c) i).set (4 + i) (cwdAt ks i))) 126))] 13 [] [] (⟨by omega, by omega, by omega, by decide, by omega, by omega, rfl, (quad_part (by rw [hks.len]; omega)), ((cn_size _ _).trans rfl), (callP_of en_cword (cword_any (quad ks i) rfl (quad_lt hks.lt i)) _), by omega, rfl, (by rw [cn_size, (setTo_len16 _ _ _ _)]; omega), (.inl rfl), (cn_set _ _ _ _), fun _ wd7 FF7 MM7 => ?_⟩)
    have MMr16 : MemS (fun k => k < w0.heap.size) w0 wd7 [(bw, .cells (cn .u32 (setTo 4 ks (lay0 c) (i + 1))) 126), (br, .cells (cn .u32 (List.replicate 16 0)) 126), (bn, .cells (cn .u8 ns) 45), (bk, .cells (cn .u8 ks) 42)] [] := MM7
    refine inb_n (then_n ?_)
    refine rg_c FF7 MMr16 [] 13 [] [] (⟨by omega, fun _ _ FF8 MM8 => ?_⟩)
    have hd := cnt_of (FF8.get 0 rfl)
    refine then_n ⟨⟨i + 1, by omega, FF8.pick [0, 2, 3, 4, 5], MM8⟩, ?_⟩
    rw [hc, hd]; omega
  · skip
    refine then_n (.inr ⟨(FF5.ev 0 rfl).trans (dec_f hlt), ?_⟩)
    obtain rfl : i = 8 := by omega
    refine then_n ?_
    refine wp_seq ?_
    refine wp_seq (rg_c FF5 MM5 [] 13 [25] [] (fun _ wd9 FF9 MM9 => then_n ?_))
    have MMr28 : MemS (fun k => k < w0.heap.size) w0 wd9 [(bw, .cells (cn .u32 (setTo 13 ns (setTo 4 ks (lay0 c) 8) 0)) 126), (br, .cells (cn .u32 (List.replicate 16 0)) 126), (bn, .cells (cn .u8 ns) 45), (bk, .cells (cn .u8 ks) 42)] [] := MM9
    refine wp_for (fun a' w' => ∃ i : Nat, i ≤ 3 ∧ Fr 39 a' [(25, iN i), (12, iN 8), (7, pT bw), (6, pT br), (5, pT bn), (3, pT bk)] ∧ MemS (fun k => k < w0.heap.size) w0 w' [(bw, .cells (cn .u32 (setTo 13 ns (setTo 4 ks (lay0 c) 8) i)) 126), (br, .cells (cn .u32 (List.replicate 16 0)) 126), (bn, .cells (cn .u8 ns) 45), (bk, .cells (cn .u8 ks) 42)] []) (fun a' _ => (3 - cnt 25 a').toNat) ⟨0, Nat.zero_le _, FF9.pick [0, 1, 2, 3, 4, 5], MMr28⟩ ?_
    rintro ac10 wd10 ⟨i, hi, FF10, MM10⟩
    have hc := cnt_of (FF10.get 0 rfl)
    refine rg_c FF10 MM10 [] 27 [] [] (fun _ wd11 FF11 MM11 => ?_)
    by_cases hlt : i < 3
    · skip
      refine then_n (.inl ⟨(FF11.ev 0 rfl).trans (dec_t hlt), ?_⟩)
      refine wp_seq (rg_c FF11 MM11 [] 26 [] [] (fun _ _ FF12 MM12 => then_n ?_))
      refine rg_c FF12 MM12 [(4, w_ 2), (1, l_ 2 (.agg (cn .u8 (quad ns i)))), (0, t_ (.int .u32 (cwdAt ns i : Nat))), (0, w_ 1), (0, s_ 0 (.cells (cn .u32 ((setTo 13 ns (setTo 4 ks (lay0 c) 8) i).set (13 + i) (cwdAt ns i))) 126))] 26 [] [] (⟨by omega, by omega, by omega, by decide, by omega, by omega, rfl, (quad_part (by rw [hns.len]; omega)), ((cn_size _ _).trans rfl), (callP_of en_cword (cword_any (quad ns i) rfl (quad_lt hns.lt i)) _), by omega, rfl, (by rw [cn_size, ((setTo_len _ _ _ _).trans (setTo_len16 _ _ _ _))]; omega), (.inl rfl), (cn_set _ _ _ _), fun _ wd13 FF13 MM13 => ?_⟩)
      have MMr38 : MemS (fun k => k < w0.heap.size) w0 wd13 [(bw, .cells (cn .u32 (setTo 13 ns (setTo 4 ks (lay0 c) 8) (i + 1))) 126), (br, .cells (cn .u32 (List.replicate 16 0)) 126), (bn, .cells (cn .u8 ns) 45), (bk, .cells (cn .u8 ks) 42)] [] := MM13
      refine inb_n (then_n ?_)
      refine rg_c FF13 MMr38 [] 26 [] [] (⟨by omega, fun _ _ FF14 MM14 => ?_⟩)
      have hd := cnt_of (FF14.get 0 rfl)
      refine then_n ⟨⟨i + 1, by omega, FF14.pick [0, 2, 3, 4, 5, 6], MM14⟩, ?_⟩
      rw [hc, hd]; omega
    · skip
      refine then_n (.inr ⟨(FF11.ev 0 rfl).trans (dec_f hlt), ?_⟩)
      obtain rfl : i = 3 := by omega
      have MMr47 : MemS (fun k => k < w0.heap.size) w0 wd11 [(bw, .cells (cn .u32 (laid ks c ns)) 126), (br, .cells (cn .u32 (List.replicate 16 0)) 126), (bn, .cells (cn .u8 ns) 45), (bk, .cells (cn .u8 ks) 42)] [] := MM11
      refine then_n ?_
      refine wp_seq (rg_c FF11 MMr47 [(0, b_ 0), (0, b_ 1)] 26 [] [] (⟨rfl, ((cn_size _ _).trans rfl), rfl, ((cn_size _ _).trans (List.length_replicate ..)), ((cn_size _ _).trans rfl), (cn_one _ _), rfl, fun _ _ FF15 MM15 => then_n ?_⟩))
      refine wp_ret ?_
      repeat first | refine then_ret ?_ | refine inb_ret ?_
      exact (retc FF15 MM15 (k := 16) (i := 1) (j := 3) Try.results56 rfl rfl Try.underlying126 rfl (by kernel_rfl) ((cn_size _ _).trans rfl) ⟨rfl, MM15.below⟩)
end Go.Proofs.Ytniplfjnpjihoaa
namespace Go.Proofs.Ytniplfjnpjihoaa
open Go.RowKit
set_option maxHeartbeats 1000000 in
set_option maxRecDepth 100000 in
theorem stirred_any (l : List Nat) (H : Words l) (w0 : World) :
    Calls Try.prog 73 #[.agg (cn .u32 l)] w0 fun e w' => e = .returned (.agg (cn .u32 (dblN l 10))) ∧ Below w0.heap.size w0 w' := by
  refine enter_fr Try.func73 rfl Try.ntmps73 (by simp) fun ac (FF : Fr 151 ac [(0, .agg (cn .u32 l))]) => ?_
  have MM := MemS.start w0
  refine wp_seq (rg_c FF MM [(0, s_ 0 (.cells (cn .u32 l) 126)), (0, s_ 0 (.cells (cn .u32 (List.replicate 16 0)) 126))] 3 [] [0] (⟨(by kernel_rfl), fun bw => ⟨(by kernel_rfl), fun br => fun _ _ FF1 MM1 => then_n ?_⟩⟩))
  refine wp_seq ?_
  refine wp_seq (rg_c FF1 MM1 [] 4 [] [] (fun _ wd2 FF2 MM2 => then_n ?_))
  have MMr5 : MemS (fun k => k < w0.heap.size) w0 wd2 [(br, .cells (cn .u32 (List.replicate 16 0)) 126), (bw, .cells (cn .u32 (dblN l 0)) 126)] [] := MM2
  refine wp_for (fun a' w' => ∃ i : Nat, i ≤ 10 ∧ Fr 151 a' [(3, iN i), (2, pT br), (1, pT bw)] ∧ MemS (fun k => k < w0.heap.size) w0 w' [(br, .cells (cn .u32 (List.replicate 16 0)) 126), (bw, .cells (cn .u32 (dblN l i)) 126)] []) (fun a' _ => (10 - cnt 3 a').toNat) ⟨0, Nat.zero_le _, FF2.pick [0, 1, 2], MMr5⟩ ?_
  rintro ac3 wd3 ⟨i, hi, FF3, MM3⟩
  have hc := cnt_of (FF3.get 0 rfl)
  refine rg_c FF3 MM3 [] 5 [] [] (fun _ wd4 FF4 MM4 => ?_)
  by_cases hlt : i < 10
  · skip
    refine then_n (.inl ⟨(FF4.ev 0 rfl).trans (dec_t hlt), ?_⟩)
    obtain ⟨l0, e0⟩ : ∃ z, dblN l i = z := ⟨_, rfl⟩
    have H0 : Words l0 := e0 ▸ H.dblN i
    have MMr15 : MemS (fun k => k < w0.heap.size) w0 wd4 [(br, .cells (cn .u32 (List.replicate 16 0)) 126), (bw, .cells (cn .u32 l0) 126)] [] := by rw [← e0]; exact MM4
    refine wp_seq (rg_c FF4 MMr15 [(0, w_ 1), (0, l_ 1 (.int .u32 (l0.getD 0 0 : Nat))), (0, w_ 1), (0, l_ 1 (.int .u32 (l0.getD 4 0 : Nat))), (0, w_ 1), (0, l_ 1 (.int .u32 (l0.getD 8 0 : Nat))), (0, w_ 1), (0, l_ 1 (.int .u32 (l0.getD 12 0 : Nat))), (0, t_ (.tuple #[.int .u32 ((q4 (l0.getD 0 0) (l0.getD 4 0) (l0.getD 8 0) (l0.getD 12 0)).a : Nat), .int .u32 ((q4 (l0.getD 0 0) (l0.getD 4 0) (l0.getD 8 0) (l0.getD 12 0)).b : Nat), .int .u32 ((q4 (l0.getD 0 0) (l0.getD 4 0) (l0.getD 8 0) (l0.getD 12 0)).c : Nat), .int .u32 ((q4 (l0.getD 0 0) (l0.getD 4 0) (l0.getD 8 0) (l0.getD 12 0)).d : Nat)])), (5, w_ 1), (0, s_ 1 (.cells (cn .u32 (l0.set 0 ((q4 (l0.getD 0 0) (l0.getD 4 0) (l0.getD 8 0) (l0.getD 12 0)).a))) 126)), (0, w_ 1), (0, s_ 1 (.cells (cn .u32 ((l0.set 0 ((q4 (l0.getD 0 0) (l0.getD 4 0) (l0.getD 8 0) (l0.getD 12 0)).a)).set 4 ((q4 (l0.getD 0 0) (l0.getD 4 0) (l0.getD 8 0) (l0.getD 12 0)).b))) 126)), (0, w_ 1), (0, s_ 1 (.cells (cn .u32 (((l0.set 0 ((q4 (l0.getD 0 0) (l0.getD 4 0) (l0.getD 8 0) (l0.getD 12 0)).a)).set 4 ((q4 (l0.getD 0 0) (l0.getD 4 0) (l0.getD 8 0) (l0.getD 12 0)).b)).set 8 ((q4 (l0.getD 0 0) (l0.getD 4 0) (l0.getD 8 0) (l0.getD 12 0)).c))) 126)), (0, w_ 1), (0, s_ 1 (.cells (cn .u32 ((((l0.set 0 ((q4 (l0.getD 0 0) (l0.getD 4 0) (l0.getD 8 0) (l0.getD 12 0)).a)).set 4 ((q4 (l0.getD 0 0) (l0.getD 4 0) (l0.getD 8 0) (l0.getD 12 0)).b)).set 8 ((q4 (l0.getD 0 0) (l0.getD 4 0) (l0.getD 8 0) (l0.getD 12 0)).c)).set 12 ((q4 (l0.getD 0 0) (l0.getD 4 0) (l0.getD 8 0) (l0.getD 12 0)).d))) 126))] 4 [] [] (⟨by decide, rfl, (cn_get _ _ _ (by rw [H0.len]; decide)), by decide, rfl, (cn_get _ _ _ (by rw [H0.len]; decide)), by decide, rfl, (cn_get _ _ _ (by rw [H0.len]; decide)), by decide, rfl, (cn_get _ _ _ (by rw [H0.len]; decide)), (callP_of en_quarter (quarter_any (l0.getD 0 0) (l0.getD 4 0) (l0.getD 8 0) (l0.getD 12 0) (H0.lt 4) (H0.lt 12)) _), by decide, rfl, (by rw [cn_size, H0.len]; decide), (.inl rfl), (cn_set _ _ _ _), by decide, rfl, (by rw [cn_size, (len_set H0.len)]; decide), (.inl rfl), (cn_set _ _ _ _), by decide, rfl, (by rw [cn_size, (len_set (len_set H0.len))]; decide), (.inl rfl), (cn_set _ _ _ _), by decide, rfl, (by rw [cn_size, (len_set (len_set (len_set H0.len)))]; decide), (.inl rfl), (cn_set _ _ _ _), fun _ wd5 FF5 MM5 => then_n ?_⟩))
    obtain ⟨l1, e1⟩ : ∃ z, qAt l0 0 4 8 12 = z := ⟨_, rfl⟩
    have H1 : Words l1 := e1 ▸ H0.qAt 0 4 8 12
    have MMr19 : MemS (fun k => k < w0.heap.size) w0 wd5 [(br, .cells (cn .u32 (List.replicate 16 0)) 126), (bw, .cells (cn .u32 l1) 126)] [] := by rw [← e1]; exact MM5
    refine wp_seq (rg_c FF5 MMr19 [(0, w_ 1), (0, l_ 1 (.int .u32 (l1.getD 1 0 : Nat))), (0, w_ 1), (0, l_ 1 (.int .u32 (l1.getD 5 0 : Nat))), (0, w_ 1), (0, l_ 1 (.int .u32 (l1.getD 9 0 : Nat))), (0, w_ 1), (0, l_ 1 (.int .u32 (l1.getD 13 0 : Nat))), (0, t_ (.tuple #[.int .u32 ((q4 (l1.getD 1 0) (l1.getD 5 0) (l1.getD 9 0) (l1.getD 13 0)).a : Nat), .int .u32 ((q4 (l1.getD 1 0) (l1.getD 5 0) (l1.getD 9 0) (l1.getD 13 0)).b : Nat), .int .u32 ((q4 (l1.getD 1 0) (l1.getD 5 0) (l1.getD 9 0) (l1.getD 13 0)).c : Nat), .int .u32 ((q4 (l1.getD 1 0) (l1.getD 5 0) (l1.getD 9 0) (l1.getD 13 0)).d : Nat)])), (5, w_ 1), (0, s_ 1 (.cells (cn .u32 (l1.set 1 ((q4 (l1.getD 1 0) (l1.getD 5 0) (l1.getD 9 0) (l1.getD 13 0)).a))) 126)), (0, w_ 1), (0, s_ 1 (.cells (cn .u32 ((l1.set 1 ((q4 (l1.getD 1 0) (l1.getD 5 0) (l1.getD 9 0) (l1.getD 13 0)).a)).set 5 ((q4 (l1.getD 1 0) (l1.getD 5 0) (l1.getD 9 0) (l1.getD 13 0)).b))) 126)), (0, w_ 1), (0, s_ 1 (.cells (cn .u32 (((l1.set 1 ((q4 (l1.getD 1 0) (l1.getD 5 0) (l1.getD 9 0) (l1.getD 13 0)).a)).set 5 ((q4 (l1.getD 1 0) (l1.getD 5 0) (l1.getD 9 0) (l1.getD 13 0)).b)).set 9 ((q4 (l1.getD 1 0) (l1.getD 5 0) (l1.getD 9 0) (l1.getD 13 0)).c))) 126)), (0, w_ 1), (0, s_ 1 (.cells (cn .u32 ((((l1.set 1 ((q4 (l1.getD 1 0) (l1.getD 5 0) (l1.getD 9 0) (l1.getD 13 0)).a)).set 5 ((q4 (l1.getD 1 0) (l1.getD 5 0) (l1.getD 9 0) (l1.getD 13 0)).b)).set 9 ((q4 (l1.getD 1 0) (l1.getD 5 0) (l1.getD 9 0) (l1.getD 13 0)).c)).set 13 ((q4 (l1.getD 1 0) (l1.getD 5 0) (l1.getD 9 0) (l1.getD 13 0)).d))) 126))] 4 [] [] (⟨by decide, rfl, (cn_get _ _ _ (by rw [H1.len]; decide)), by decide, rfl, (cn_get _ _ _ (by rw [H1.len]; decide)), by decide, rfl, (cn_get _ _ _ (by rw [H1.len]; decide)), by decide, rfl, (cn_get _ _ _ (by rw [H1.len]; decide)), (callP_of en_quarter (quarter_any (l1.getD 1 0) (l1.getD 5 0) (l1.getD 9 0) (l1.getD 13 0) (H1.lt 5) (H1.lt 13)) _), by decide, rfl, (by rw [cn_size, H1.len]; decide), (.inl rfl), (cn_set _ _ _ _), by decide, rfl, (by rw [cn_size, (len_set H1.len)]; decide), (.inl rfl), (cn_set _ _ _ _), by decide, rfl, (by rw [cn_size, (len_set (len_set H1.len))]; decide), (.inl rfl), (cn_set _ _ _ _), by decide, rfl, (by rw [cn_size, (len_set (len_set (len_set H1.len)))]; decide), (.inl rfl), (cn_set _ _ _ _), fun _ wd6 FF6 MM6 => then_n ?_⟩))
    obtain ⟨l2, e2⟩ : ∃ z, qAt l1 1 5 9 13 = z := ⟨_, rfl⟩
    have H2 : Words l2 := e2 ▸ H1.qAt 1 5 9 13
    have MMr23 : MemS (fun k => k < w0.heap.size) w0 wd6 [(br, .cells (cn .u32 (List.replicate 16 0)) 126), (bw, .cells (cn .u32 l2) 126)] [] := by rw [← e2]; exact MM6
    refine wp_seq (rg_c FF6 MMr23 [(0, w_ 1), (0, l_ 1 (.int .u32 (l2.getD 2 0 : Nat))), (0, w_ 1), (0, l_ 1 (.int .u32 (l2.getD 6 0 : Nat))), (0, w_ 1), (0, l_ 1 (.int .u32 (l2.getD 10 0 : Nat))), (0, w_ 1), (0, l_ 1 (.int .u32 (l2.getD 14 0 : Nat))), (0, t_ (.tuple #[.int .u32 ((q4 (l2.getD 2 0) (l2.getD 6 0) (l2.getD 10 0) (l2.getD 14 0)).a : Nat), .int .u32 ((q4 (l2.getD 2 0) (l2.getD 6 0) (l2.getD 10 0) (l2.getD 14 0)).b : Nat), .int .u32 ((q4 (l2.getD 2 0) (l2.getD 6 0) (l2.getD 10 0) (l2.getD 14 0)).c : Nat), .int .u32 ((q4 (l2.getD 2 0) (l2.getD 6 0) (l2.getD 10 0) (l2.getD 14 0)).d : Nat)])), (5, w_ 1), (0, s_ 1 (.cells (cn .u32 (l2.set 2 ((q4 (l2.getD 2 0) (l2.getD 6 0) (l2.getD 10 0) (l2.getD 14 0)).a))) 126)), (0, w_ 1), (0, s_ 1 (.cells (cn .u32 ((l2.set 2 ((q4 (l2.getD 2 0) (l2.getD 6 0) (l2.getD 10 0) (l2.getD 14 0)).a)).set 6 ((q4 (l2.getD 2 0) (l2.getD 6 0) (l2.getD 10 0) (l2.getD 14 0)).b))) 126)), (0, w_ 1), (0, s_ 1 (.cells (cn .u32 (((l2.set 2 ((q4 (l2.getD 2 0) (l2.getD 6 0) (l2.getD 10 0) (l2.getD 14 0)).a)).set 6 ((q4 (l2.getD 2 0) (l2.getD 6 0) (l2.getD 10 0) (l2.getD 14 0)).b)).set 10 ((q4 (l2.getD 2 0) (l2.getD 6 0) (l2.getD 10 0) (l2.getD 14 0)).c))) 126)), (0, w_ 1), (0, s_ 1 (.cells (cn .u32 ((((l2.set 2 ((q4 (l2.getD 2 0) (l2.getD 6 0) (l2.getD 10 0) (l2.getD 14 0)).a)).set 6 ((q4 (l2.getD 2 0) (l2.getD 6 0) (l2.getD 10 0) (l2.getD 14 0)).b)).set 10 ((q4 (l2.getD 2 0) (l2.getD 6 0) (l2.getD 10 0) (l2.getD 14 0)).c)).set 14 ((q4 (l2.getD 2 0) (l2.getD 6 0) (l2.getD 10 0) (l2.getD 14 0)).d))) 126))] 4 [] [] (⟨by decide, rfl, (cn_get _ _ _ (by rw [H2.len]; decide)), by decide, rfl, (cn_get _ _ _ (by rw [H2.len]; decide)), by decide, rfl, (cn_get _ _ _ (by rw [H2.len]; decide)), by decide, rfl, (cn_get _ _ _ (by rw [H2.len]; decide)), (callP_of en_quarter (quarter_any (l2.getD 2 0) (l2.getD 6 0) (l2.getD 10 0) (l2.getD 14 0) (H2.lt 6) (H2.lt 14)) _), by decide, rfl, (by rw [cn_size, H2.len]; decide), (.inl rfl), (cn_set _ _ _ _), by decide, rfl, (by rw [cn_size, (len_set H2.len)]; decide), (.inl rfl), (cn_set _ _ _ _), by decide, rfl, (by rw [cn_size, (len_set (len_set H2.len))]; decide), (.inl rfl), (cn_set _ _ _ _), by decide, rfl, (by rw [cn_size, (len_set (len_set (len_set H2.len)))]; decide), (.inl rfl), (cn_set _ _ _ _), fun _ wd7 FF7 MM7 => then_n ?_⟩))
    obtain ⟨l3, e3⟩ : ∃ z, qAt l2 2 6 10 14 = z := ⟨_, rfl⟩
    have H3 : Words l3 := e3 ▸ H2.qAt 2 6 10 14
    have MMr27 : MemS (fun k => k < w0.heap.size) w0 wd7 [(br, .cells (cn .u32 (List.replicate 16 0)) 126), (bw, .cells (cn .u32 l3) 126)] [] := by rw [← e3]; exact MM7
    refine wp_seq (rg_c FF7 MMr27 [(0, w_ 1), (0, l_ 1 (.int .u32 (l3.getD 3 0 : Nat))), (0, w_ 1), (0, l_ 1 (.int .u32 (l3.getD 7 0 : Nat))), (0, w_ 1), (0, l_ 1 (.int .u32 (l3.getD 11 0 : Nat))), (0, w_ 1), (0, l_ 1 (.int .u32 (l3.getD 15 0 : Nat))), (0, t_ (.tuple #[.int .u32 ((q4 (l3.getD 3 0) (l3.getD 7 0) (l3.getD 11 0) (l3.getD 15 0)).a : Nat), .int .u32 ((q4 (l3.getD 3 0) (l3.getD 7 0) (l3.getD 11 0) (l3.getD 15 0)).b : Nat), .int .u32 ((q4 (l3.getD 3 0) (l3.getD 7 0) (l3.getD 11 0) (l3.getD 15 0)).c : Nat), .int .u32 ((q4 (l3.getD 3 0) (l3.getD 7 0) (l3.getD 11 0) (l3.getD 15 0)).d : Nat)])), (5, w_ 1), (0, s_ 1 (.cells (cn .u32 (l3.set 3 ((q4 (l3.getD 3 0) (l3.getD 7 0) (l3.getD 11 0) (l3.getD 15 0)).a))) 126)), (0, w_ 1), (0, s_ 1 (.cells (cn .u32 ((l3.set 3 ((q4 (l3.getD 3 0) (l3.getD 7 0) (l3.getD 11 0) (l3.getD 15 0)).a)).set 7 ((q4 (l3.getD 3 0) (l3.getD 7 0) (l3.getD 11 0) (l3.getD 15 0)).b))) 126)), (0, w_ 1), (0, s_ 1 (.cells (cn .u32 (((l3.set 3 ((q4 (l3.getD 3 0) (l3.getD 7 0) (l3.getD 11 0) (l3.getD 15 0)).a)).set 7 ((q4 (l3.getD 3 0) (l3.getD 7 0) (l3.getD 11 0) (l3.getD 15 0)).b)).set 11 ((q4 (l3.getD 3 0) (l3.getD 7 0) (l3.getD 11 0) (l3.getD 15 0)).c))) 126)), (0, w_ 1), (0, s_ 1 (.cells (cn .u32 ((((l3.set 3 ((q4 (l3.getD 3 0) (l3.getD 7 0) (l3.getD 11 0) (l3.getD 15 0)).a)).set 7 ((q4 (l3.getD 3 0) (l3.getD 7 0) (l3.getD 11 0) (l3.getD 15 0)).b)).set 11 ((q4 (l3.getD 3 0) (l3.getD 7 0) (l3.getD 11 0) (l3.getD 15 0)).c)).set 15 ((q4 (l3.getD 3 0) (l3.getD 7 0) (l3.getD 11 0) (l3.getD 15 0)).d))) 126))] 4 [] [] (⟨by decide, rfl, (cn_get _ _ _ (by rw [H3.len]; decide)), by decide, rfl, (cn_get _ _ _ (by rw [H3.len]; decide)), by decide, rfl, (cn_get _ _ _ (by rw [H3.len]; decide)), by decide, rfl, (cn_get _ _ _ (by rw [H3.len]; decide)), (callP_of en_quarter (quarter_any (l3.getD 3 0) (l3.getD 7 0) (l3.getD 11 0) (l3.getD 15 0) (H3.lt 7) (H3.lt 15)) _), by decide, rfl, (by rw [cn_size, H3.len]; decide), (.inl rfl), (cn_set _ _ _ _), by decide, rfl, (by rw [cn_size, (len_set H3.len)]; decide), (.inl rfl), (cn_set _ _ _ _), by decide, rfl, (by rw [cn_size, (len_set (len_set H3.len))]; decide), (.inl rfl), (cn_set _ _ _ _), by decide, rfl, (by rw [cn_size, (len_set (len_set (len_set H3.len)))]; decide), (.inl rfl), (cn_set _ _ _ _), fun _ wd8 FF8 MM8 => then_n ?_⟩))
    obtain ⟨l4, e4⟩ : ∃ z, qAt l3 3 7 11 15 = z := ⟨_, rfl⟩
    have H4 : Words l4 := e4 ▸ H3.qAt 3 7 11 15
    have MMr31 : MemS (fun k => k < w0.heap.size) w0 wd8 [(br, .cells (cn .u32 (List.replicate 16 0)) 126), (bw, .cells (cn .u32 l4) 126)] [] := by rw [← e4]; exact MM8
    refine wp_seq (rg_c FF8 MMr31 [(0, w_ 1), (0, l_ 1 (.int .u32 (l4.getD 0 0 : Nat))), (0, w_ 1), (0, l_ 1 (.int .u32 (l4.getD 5 0 : Nat))), (0, w_ 1), (0, l_ 1 (.int .u32 (l4.getD 10 0 : Nat))), (0, w_ 1), (0, l_ 1 (.int .u32 (l4.getD 15 0 : Nat))), (0, t_ (.tuple #[.int .u32 ((q4 (l4.getD 0 0) (l4.getD 5 0) (l4.getD 10 0) (l4.getD 15 0)).a : Nat), .int .u32 ((q4 (l4.getD 0 0) (l4.getD 5 0) (l4.getD 10 0) (l4.getD 15 0)).b : Nat), .int .u32 ((q4 (l4.getD 0 0) (l4.getD 5 0) (l4.getD 10 0) (l4.getD 15 0)).c : Nat), .int .u32 ((q4 (l4.getD 0 0) (l4.getD 5 0) (l4.getD 10 0) (l4.getD 15 0)).d : Nat)])), (5, w_ 1), (0, s_ 1 (.cells (cn .u32 (l4.set 0 ((q4 (l4.getD 0 0) (l4.getD 5 0) (l4.getD 10 0) (l4.getD 15 0)).a))) 126)), (0, w_ 1), (0, s_ 1 (.cells (cn .u32 ((l4.set 0 ((q4 (l4.getD 0 0) (l4.getD 5 0) (l4.getD 10 0) (l4.getD 15 0)).a)).set 5 ((q4 (l4.getD 0 0) (l4.getD 5 0) (l4.getD 10 0) (l4.getD 15 0)).b))) 126)), (0, w_ 1), (0, s_ 1 (.cells (cn .u32 (((l4.set 0 ((q4 (l4.getD 0 0) (l4.getD 5 0) (l4.getD 10 0) (l4.getD 15 0)).a)).set 5 ((q4 (l4.getD 0 0) (l4.getD 5 0) (l4.getD 10 0) (l4.getD 15 0)).b)).set 10 ((q4 (l4.getD 0 0) (l4.getD 5 0) (l4.getD 10 0) (l4.getD 15 0)).c))) 126)), (0, w_ 1), (0, s_ 1 (.cells (cn .u32 ((((l4.set 0 ((q4 (l4.getD 0 0) (l4.getD 5 0) (l4.getD 10 0) (l4.getD 15 0)).a)).set 5 ((q4 (l4.getD 0 0) (l4.getD 5 0) (l4.getD 10 0) (l4.getD 15 0)).b)).set 10 ((q4 (l4.getD 0 0) (l4.getD 5 0) (l4.getD 10 0) (l4.getD 15 0)).c)).set 15 ((q4 (l4.getD 0 0) (l4.getD 5 0) (l4.getD 10 0) (l4.getD 15 0)).d))) 126))] 4 [] [] (⟨by decide, rfl, (cn_get _ _ _ (by rw [H4.len]; decide)), by decide, rfl, (cn_get _ _ _ (by rw [H4.len]; decide)), by decide, rfl, (cn_get _ _ _ (by rw [H4.len]; decide)), by decide, rfl, (cn_get _ _ _ (by rw [H4.len]; decide)), (callP_of en_quarter (quarter_any (l4.getD 0 0) (l4.getD 5 0) (l4.getD 10 0) (l4.getD 15 0) (H4.lt 5) (H4.lt 15)) _), by decide, rfl, (by rw [cn_size, H4.len]; decide), (.inl rfl), (cn_set _ _ _ _), by decide, rfl, (by rw [cn_size, (len_set H4.len)]; decide), (.inl rfl), (cn_set _ _ _ _), by decide, rfl, (by rw [cn_size, (len_set (len_set H4.len))]; decide), (.inl rfl), (cn_set _ _ _ _), by decide, rfl, (by rw [cn_size, (len_set (len_set (len_set H4.len)))]; decide), (.inl rfl), (cn_set _ _ _ _), fun _ wd9 FF9 MM9 => then_n ?_⟩))
    obtain ⟨l5, e5⟩ : ∃ z, qAt l4 0 5 10 15 = z := ⟨_, rfl⟩
    have H5 : Words l5 := e5 ▸ H4.qAt 0 5 10 15
    have MMr35 : MemS (fun k => k < w0.heap.size) w0 wd9 [(br, .cells (cn .u32 (List.replicate 16 0)) 126), (bw, .cells (cn .u32 l5) 126)] [] := by rw [← e5]; exact MM9
    refine wp_seq (rg_c FF9 MMr35 [(0, w_ 1), (0, l_ 1 (.int .u32 (l5.getD 1 0 : Nat))), (0, w_ 1), (0, l_ 1 (.int .u32 (l5.getD 6 0 : Nat))), (0, w_ 1), (0, l_ 1 (.int .u32 (l5.getD 11 0 : Nat))), (0, w_ 1), (0, l_ 1 (.int .u32 (l5.getD 12 0 : Nat))), (0, t_ (.tuple #[.int .u32 ((q4 (l5.getD 1 0) (l5.getD 6 0) (l5.getD 11 0) (l5.getD 12 0)).a : Nat), .int .u32 ((q4 (l5.getD 1 0) (l5.getD 6 0) (l5.getD 11 0) (l5.getD 12 0)).b : Nat), .int .u32 ((q4 (l5.getD 1 0) (l5.getD 6 0) (l5.getD 11 0) (l5.getD 12 0)).c : Nat), .int .u32 ((q4 (l5.getD 1 0) (l5.getD 6 0) (l5.getD 11 0) (l5.getD 12 0)).d : Nat)])), (5, w_ 1), (0, s_ 1 (.cells (cn .u32 (l5.set 1 ((q4 (l5.getD 1 0) (l5.getD 6 0) (l5.getD 11 0) (l5.getD 12 0)).a))) 126)), (0, w_ 1), (0, s_ 1 (.cells (cn .u32 ((l5.set 1 ((q4 (l5.getD 1 0) (l5.getD 6 0) (l5.getD 11 0) (l5.getD 12 0)).a)).set 6 ((q4 (l5.getD 1 0) (l5.getD 6 0) (l5.getD 11 0) (l5.getD 12 0)).b))) 126)), (0, w_ 1), (0, s_ 1 (.cells (cn .u32 (((l5.set 1 ((q4 (l5.getD 1 0) (l5.getD 6 0) (l5.getD 11 0) (l5.getD 12 0)).a)).set 6 ((q4 (l5.getD 1 0) (l5.getD 6 0) (l5.getD 11 0) (l5.getD 12 0)).b)).set 11 ((q4 (l5.getD 1 0) (l5.getD 6 0) (l5.getD 11 0) (l5.getD 12 0)).c))) 126)), (0, w_ 1), (0, s_ 1 (.cells (cn .u32 ((((l5.set 1 ((q4 (l5.getD 1 0) (l5.getD 6 0) (l5.getD 11 0) (l5.getD 12 0)).a)).set 6 ((q4 (l5.getD 1 0) (l5.getD 6 0) (l5.getD 11 0) (l5.getD 12 0)).b)).set 11 ((q4 (l5.getD 1 0) (l5.getD 6 0) (l5.getD 11 0) (l5.getD 12 0)).c)).set 12 ((q4 (l5.getD 1 0) (l5.getD 6 0) (l5.getD 11 0) (l5.getD 12 0)).d))) 126))] 4 [] [] (⟨by decide, rfl, (cn_get _ _ _ (by rw [H5.len]; decide)), by decide, rfl, (cn_get _ _ _ (by rw [H5.len]; decide)), by decide, rfl, (cn_get _ _ _ (by rw [H5.len]; decide)), by decide, rfl, (cn_get _ _ _ (by rw [H5.len]; decide)), (callP_of en_quarter (quarter_any (l5.getD 1 0) (l5.getD 6 0) (l5.getD 11 0) (l5.getD 12 0) (H5.lt 6) (H5.lt 12)) _), by decide, rfl, (by rw [cn_size, H5.len]; decide), (.inl rfl), (cn_set _ _ _ _), by decide, rfl, (by rw [cn_size, (len_set H5.len)]; decide), (.inl rfl), (cn_set _ _ _ _), by decide, rfl, (by rw [cn_size, (len_set (len_set H5.len))]; decide), (.inl rfl), (cn_set _ _ _ _), by decide, rfl, (by rw [cn_size, (len_set (len_set (len_set H5.len)))]; decide), (.inl rfl), (cn_set _ _ _ _), fun _ wd10 FF10 MM10 => then_n ?_⟩))
    obtain ⟨l6, e6⟩ : ∃ z, qAt l5 1 6 11 12 = z := ⟨_, rfl⟩
    have H6 : Words l6 := e6 ▸ H5.qAt 1 6 11 12
    have MMr39 : MemS (fun k => k < w0.heap.size) w0 wd10 [(br, .cells (cn .u32 (List.replicate 16 0)) 126), (bw, .cells (cn .u32 l6) 126)] [] := by rw [← e6]; exact MM10
    refine wp_seq (rg_c FF10 MMr39 [(0, w_ 1), (0, l_ 1 (.int .u32 (l6.getD 2 0 : Nat))), (0, w_ 1), (0, l_ 1 (.int .u32 (l6.getD 7 0 : Nat))), (0, w_ 1), (0, l_ 1 (.int .u32 (l6.getD 8 0 : Nat))), (0, w_ 1), (0, l_ 1 (.int .u32 (l6.getD 13 0 : Nat))), (0, t_ (.tuple #[.int .u32 ((q4 (l6.getD 2 0) (l6.getD 7 0) (l6.getD 8 0) (l6.getD 13 0)).a : Nat), .int .u32 ((q4 (l6.getD 2 0) (l6.getD 7 0) (l6.getD 8 0) (l6.getD 13 0)).b : Nat), .int .u32 ((q4 (l6.getD 2 0) (l6.getD 7 0) (l6.getD 8 0) (l6.getD 13 0)).c : Nat), .int .u32 ((q4 (l6.getD 2 0) (l6.getD 7 0) (l6.getD 8 0) (l6.getD 13 0)).d : Nat)])), (5, w_ 1), (0, s_ 1 (.cells (cn .u32 (l6.set 2 ((q4 (l6.getD 2 0) (l6.getD 7 0) (l6.getD 8 0) (l6.getD 13 0)).a))) 126)), (0, w_ 1), (0, s_ 1 (.cells (cn .u32 ((l6.set 2 ((q4 (l6.getD 2 0) (l6.getD 7 0) (l6.getD 8 0) (l6.getD 13 0)).a)).set 7 ((q4 (l6.getD 2 0) (l6.getD 7 0) (l6.getD 8 0) (l6.getD 13 0)).b))) 126)), (0, w_ 1), (0, s_ 1 (.cells (cn .u32 (((l6.set 2 ((q4 (l6.getD 2 0) (l6.getD 7 0) (l6.getD 8 0) (l6.getD 13 0)).a)).set 7 ((q4 (l6.getD 2 0) (l6.getD 7 0) (l6.getD 8 0) (l6.getD 13 0)).b)).set 8 ((q4 (l6.getD 2 0) (l6.getD 7 0) (l6.getD 8 0) (l6.getD 13 0)).c))) 126)), (0, w_ 1), (0, s_ 1 (.cells (cn .u32 ((((l6.set 2 ((q4 (l6.getD 2 0) (l6.getD 7 0) (l6.getD 8 0) (l6.getD 13 0)).a)).set 7 ((q4 (l6.getD 2 0) (l6.getD 7 0) (l6.getD 8 0) (l6.getD 13 0)).b)).set 8 ((q4 (l6.getD 2 0) (l6.getD 7 0) (l6.getD 8 0) (l6.getD 13 0)).c)).set 13 ((q4 (l6.getD 2 0) (l6.getD 7 0) (l6.getD 8 0) (l6.getD 13 0)).d))) 126))] 4 [] [] (⟨by decide, rfl, (cn_get _ _ _ (by rw [H6.len]; decide)), by decide, rfl, (cn_get _ _ _ (by rw [H6.len]; decide)), by decide, rfl, (cn_get _ _ _ (by rw [H6.len]; decide)), by decide, rfl, (cn_get _ _ _ (by rw [H6.len]; decide)), (callP_of en_quarter (quarter_any (l6.getD 2 0) (l6.getD 7 0) (l6.getD 8 0) (l6.getD 13 0) (H6.lt 7) (H6.lt 13)) _), by decide, rfl, (by rw [cn_size, H6.len]; decide), (.inl rfl), (cn_set _ _ _ _), by decide, rfl, (by rw [cn_size, (len_set H6.len)]; decide), (.inl rfl), (cn_set _ _ _ _), by decide, rfl, (by rw [cn_size, (len_set (len_set H6.len))]; decide), (.inl rfl), (cn_set _ _ _ _), by decide, rfl, (by rw [cn_size, (len_set (len_set (len_set H6.len)))]; decide), (.inl rfl), (cn_set _ _ _ _), fun _ wd11 FF11 MM11 => then_n ?_⟩))
    obtain ⟨l7, e7⟩ : ∃ z, qAt l6 2 7 8 13 = z := ⟨_, rfl⟩
    have H7 : Words l7 := e7 ▸ H6.qAt 2 7 8 13
    have MMr43 : MemS (fun k => k < w0.heap.size) w0 wd11 [(br, .cells (cn .u32 (List.replicate 16 0)) 126), (bw, .cells (cn .u32 l7) 126)] [] := by rw [← e7]; exact MM11
    refine rg_c FF11 MMr43 [(0, w_ 1), (0, l_ 1 (.int .u32 (l7.getD 3 0 : Nat))), (0, w_ 1), (0, l_ 1 (.int .u32 (l7.getD 4 0 : Nat))), (0, w_ 1), (0, l_ 1 (.int .u32 (l7.getD 9 0 : Nat))), (0, w_ 1), (0, l_ 1 (.int .u32 (l7.getD 14 0 : Nat))), (0, t_ (.tuple #[.int .u32 ((q4 (l7.getD 3 0) (l7.getD 4 0) (l7.getD 9 0) (l7.getD 14 0)).a : Nat), .int .u32 ((q4 (l7.getD 3 0) (l7.getD 4 0) (l7.getD 9 0) (l7.getD 14 0)).b : Nat), .int .u32 ((q4 (l7.getD 3 0) (l7.getD 4 0) (l7.getD 9 0) (l7.getD 14 0)).c : Nat), .int .u32 ((q4 (l7.getD 3 0) (l7.getD 4 0) (l7.getD 9 0) (l7.getD 14 0)).d : Nat)])), (5, w_ 1), (0, s_ 1 (.cells (cn .u32 (l7.set 3 ((q4 (l7.getD 3 0) (l7.getD 4 0) (l7.getD 9 0) (l7.getD 14 0)).a))) 126)), (0, w_ 1), (0, s_ 1 (.cells (cn .u32 ((l7.set 3 ((q4 (l7.getD 3 0) (l7.getD 4 0) (l7.getD 9 0) (l7.getD 14 0)).a)).set 4 ((q4 (l7.getD 3 0) (l7.getD 4 0) (l7.getD 9 0) (l7.getD 14 0)).b))) 126)), (0, w_ 1), (0, s_ 1 (.cells (cn .u32 (((l7.set 3 ((q4 (l7.getD 3 0) (l7.getD 4 0) (l7.getD 9 0) (l7.getD 14 0)).a)).set 4 ((q4 (l7.getD 3 0) (l7.getD 4 0) (l7.getD 9 0) (l7.getD 14 0)).b)).set 9 ((q4 (l7.getD 3 0) (l7.getD 4 0) (l7.getD 9 0) (l7.getD 14 0)).c))) 126)), (0, w_ 1), (0, s_ 1 (.cells (cn .u32 ((((l7.set 3 ((q4 (l7.getD 3 0) (l7.getD 4 0) (l7.getD 9 0) (l7.getD 14 0)).a)).set 4 ((q4 (l7.getD 3 0) (l7.getD 4 0) (l7.getD 9 0) (l7.getD 14 0)).b)).set 9 ((q4 (l7.getD 3 0) (l7.getD 4 0) (l7.getD 9 0) (l7.getD 14 0)).c)).set 14 ((q4 (l7.getD 3 0) (l7.getD 4 0) (l7.getD 9 0) (l7.getD 14 0)).d))) 126))] 4 [] [] (⟨by decide, rfl, (cn_get _ _ _ (by rw [H7.len]; decide)), by decide, rfl, (cn_get _ _ _ (by rw [H7.len]; decide)), by decide, rfl, (cn_get _ _ _ (by rw [H7.len]; decide)), by decide, rfl, (cn_get _ _ _ (by rw [H7.len]; decide)), (callP_of en_quarter (quarter_any (l7.getD 3 0) (l7.getD 4 0) (l7.getD 9 0) (l7.getD 14 0) (H7.lt 4) (H7.lt 14)) _), by decide, rfl, (by rw [cn_size, H7.len]; decide), (.inl rfl), (cn_set _ _ _ _), by decide, rfl, (by rw [cn_size, (len_set H7.len)]; decide), (.inl rfl), (cn_set _ _ _ _), by decide, rfl, (by rw [cn_size, (len_set (len_set H7.len))]; decide), (.inl rfl), (cn_set _ _ _ _), by decide, rfl, (by rw [cn_size, (len_set (len_set (len_set H7.len)))]; decide), (.inl rfl), (cn_set _ _ _ _), fun _ wd12 FF12 MM12 => ?_⟩)
    obtain ⟨l8, e8⟩ : ∃ z, qAt l7 3 4 9 14 = z := ⟨_, rfl⟩
    have H8 : Words l8 := e8 ▸ H7.qAt 3 4 9 14
    have MMr47 : MemS (fun k => k < w0.heap.size) w0 wd12 [(br, .cells (cn .u32 (List.replicate 16 0)) 126), (bw, .cells (cn .u32 l8) 126)] [] := by rw [← e8]; exact MM12
    have e9 : l8 = dblN l (i + 1) := by subst e1 e2 e3 e4 e5 e6 e7 e8 e0; rfl
    have MMr49 : MemS (fun k => k < w0.heap.size) w0 wd12 [(br, .cells (cn .u32 (List.replicate 16 0)) 126), (bw, .cells (cn .u32 (dblN l (i + 1))) 126)] [] := by rw [← e9]; exact MMr47
    refine inb_n (then_n ?_)
    refine rg_c FF12 MMr49 [] 4 [] [] (⟨by omega, fun _ _ FF13 MM13 => ?_⟩)
    have hd := cnt_of (FF13.get 0 rfl)
    refine then_n ⟨⟨i + 1, by omega, FF13.pick [0, 1, 2], MM13⟩, ?_⟩
    rw [hc, hd]; omega
  · skip
    refine then_n (.inr ⟨(FF4.ev 0 rfl).trans (dec_f hlt), ?_⟩)
    obtain rfl : i = 10 := by omega
    refine then_n ?_
    refine wp_seq (rg_c FF4 MM4 [(0, b_ 1), (0, b_ 0)] 4 [] [] (⟨rfl, ((cn_size _ _).trans (H.dblN 10).len), rfl, ((cn_size _ _).trans (List.length_replicate ..)), ((cn_size _ _).trans (H.dblN 10).len), (cn_one _ _), rfl, fun _ _ FF14 MM14 => then_n ?_⟩))
    refine wp_ret ?_
    repeat first | refine then_ret ?_ | refine inb_ret ?_
    exact (retc FF14 MM14 (k := 16) (i := 0) (j := 1) Try.results73 rfl rfl Try.underlying126 rfl (by kernel_rfl) ((cn_size _ _).trans (H.dblN 10).len) ⟨rfl, MM14.below⟩)
end Go.Proofs.Ytniplfjnpjihoaa
namespace Go.Proofs.Ytniplfjnpjihoaa
open Go.RowKit
set_option maxRecDepth 100000 in
theorem cblk_any (l : List Nat) (H : Words l) (w0 : World) :
    Calls Try.prog 58 #[.agg (cn .u32 l)] w0 fun e w' => e = .returned (.agg (cn .u8 (blockW l))) ∧ Below w0.heap.size w0 w' := by
  refine enter_fr Try.func58 rfl Try.ntmps58 (by simp) fun ac (FF : Fr 45 ac [(0, .agg (cn .u32 l))]) => ?_
  have MM := MemS.start w0
  refine wp_seq (rg_c FF MM [(0, s_ 0 (.cells (cn .u32 l) 126)), (0, s_ 0 (.cells (cn .u8 (List.replicate 64 0)) 129))] 3 [] [0] (⟨(by kernel_rfl), fun bl => ⟨(by kernel_rfl), fun br => fun _ _ FF1 MM1 => then_n ?_⟩⟩))
  refine wp_seq (rg_c FF1 MM1 [(0, s_ 0 (.cells (cn .u8 (List.replicate 64 0)) 129))] 4 [] [] (⟨(by kernel_rfl), fun bb => fun _ wd2 FF2 MM2 => then_n ?_⟩))
  have MMr4 : MemS (fun k => k < w0.heap.size) w0 wd2 [(bb, .cells (cn .u8 (bset (dblN l 10) l 0)) 129), (br, .cells (cn .u8 (List.replicate 64 0)) 129), (bl, .cells (cn .u32 l) 126)] [] := MM2
  refine wp_seq ?_
  refine wp_seq (rg_c FF2 MMr4 [(0, b_ 2), (0, t_ (.agg (cn .u32 (dblN l 10))))] 9 [] [6] (⟨rfl, ((cn_size _ _).trans H.len), (callP_of en_stirred (stirred_any l H) _), fun _ _ FF3 MM3 => then_n ?_⟩))
  refine wp_for (fun a' w' => ∃ i : Nat, i ≤ 16 ∧ Fr 45 a' [(8, iN i), (7, .agg (cn .u32 (dblN l 10))), (3, pT bb), (2, pT br), (1, pT bl)] ∧ MemS (fun k => k < w0.heap.size) w0 w' [(bb, .cells (cn .u8 (bset (dblN l 10) l i)) 129), (br, .cells (cn .u8 (List.replicate 64 0)) 129), (bl, .cells (cn .u32 l) 126)] []) (fun a' _ => (16 - cnt 8 a').toNat) ⟨0, Nat.zero_le _, FF3.pick [0, 1, 2, 3, 4], MM3⟩ ?_
  rintro ac4 wd4 ⟨i, hi, FF4, MM4⟩
  have hc := cnt_of (FF4.get 0 rfl)
  refine rg_c FF4 MM4 [] 9 [9] [] (fun _ _ FF5 MM5 => ?_)
  by_cases hlt : i < 16
  · skip
    refine then_n (.inl ⟨(FF5.ev 0 rfl).trans (dec_t hlt), ?_⟩)
    refine wp_seq (rg_c FF5 MM5 [(1, t_ (.int .u32 ((dblN l 10).getD i 0 : Nat)))] 9 [] [] (⟨by omega, (cn_get _ _ _ (by rw [(H.dblN 10).len]; omega)), fun _ _ FF6 MM6 => then_n ?_⟩))
    refine wp_seq (rg_c FF6 MM6 [(2, w_ 1), (0, l_ 2 (.int .u32 (l.getD i 0 : Nat))), (0, t_ (.int .u32 (sumW (dblN l 10) l i : Nat)))] 9 [] [] (⟨by omega, rfl, (cn_get _ _ _ (by rw [H.len]; omega)), rfl, fun _ _ FF7 MM7 => then_n ?_⟩))
    refine rg_c FF7 MM7 [(12, t_ (iB (sumW (dblN l 10) l i % 256))), (1, t_ (.int .u32 ((sumW (dblN l 10) l i) / 256 : Nat))), (0, t_ (iB (sumW (dblN l 10) l i / 256 % 256))), (1, t_ (.int .u32 ((sumW (dblN l 10) l i) / 65536 : Nat))), (0, t_ (iB (sumW (dblN l 10) l i / 65536 % 256))), (1, t_ (.int .u32 ((sumW (dblN l 10) l i) / 16777216 : Nat))), (0, t_ (iB (sumW (dblN l 10) l i / 16777216 % 256))), (0, w_ 1), (0, s_ 0 (.cells (cn .u8 ((bset (dblN l 10) l i).set (4 * i) (sumW (dblN l 10) l i % 256))) 129)), (0, w_ 1), (0, s_ 0 (.cells (cn .u8 (((bset (dblN l 10) l i).set (4 * i) (sumW (dblN l 10) l i % 256)).set ((4 * i) + 1) (sumW (dblN l 10) l i / 256 % 256))) 129)), (0, w_ 1), (0, s_ 0 (.cells (cn .u8 ((((bset (dblN l 10) l i).set (4 * i) (sumW (dblN l 10) l i % 256)).set ((4 * i) + 1) (sumW (dblN l 10) l i / 256 % 256)).set ((4 * i) + 2) (sumW (dblN l 10) l i / 65536 % 256))) 129)), (0, w_ 1), (0, s_ 0 (.cells (cn .u8 (((((bset (dblN l 10) l i).set (4 * i) (sumW (dblN l 10) l i % 256)).set ((4 * i) + 1) (sumW (dblN l 10) l i / 256 % 256)).set ((4 * i) + 2) (sumW (dblN l 10) l i / 65536 % 256)).set ((4 * i) + 3) (sumW (dblN l 10) l i / 16777216 % 256))) 129))] 9 [] [] (⟨by omega, by omega, by omega, by omega, by omega, by omega, by omega, rfl, by decide, rfl, rfl, by decide, rfl, rfl, by decide, rfl, rfl, by omega, rfl, (by rw [cn_size, (bset_len _ _ _)]; omega), (.inl rfl), (cn_set _ _ _ _), by omega, rfl, (by rw [cn_size, (len_set (bset_len _ _ _))]; omega), (.inl rfl), (cn_set _ _ _ _), by omega, rfl, (by rw [cn_size, (len_set (len_set (bset_len _ _ _)))]; omega), (.inl rfl), (cn_set _ _ _ _), by omega, rfl, (by rw [cn_size, (len_set (len_set (len_set (bset_len _ _ _))))]; omega), (.inl rfl), (cn_set _ _ _ _), fun _ wd8 FF8 MM8 => ?_⟩)
    have MMr17 : MemS (fun k => k < w0.heap.size) w0 wd8 [(bb, .cells (cn .u8 (bset (dblN l 10) l (i + 1))) 129), (br, .cells (cn .u8 (List.replicate 64 0)) 129), (bl, .cells (cn .u32 l) 126)] [] := MM8
    refine inb_n (then_n ?_)
    refine rg_c FF8 MMr17 [] 9 [] [] (⟨by omega, fun _ _ FF9 MM9 => ?_⟩)
    have hd := cnt_of (FF9.get 0 rfl)
    refine then_n ⟨⟨i + 1, by omega, FF9.pick [0, 3, 4, 5, 6], MM9⟩, ?_⟩
    rw [hc, hd]; omega
  · skip
    refine then_n (.inr ⟨(FF5.ev 0 rfl).trans (dec_f hlt), ?_⟩)
    obtain rfl : i = 16 := by omega
    refine then_n ?_
    refine wp_seq (rg_c FF5 MM5 [(0, b_ 0), (0, b_ 1)] 9 [] [] (⟨rfl, ((cn_size _ _).trans (bset_len _ _ _)), rfl, ((cn_size _ _).trans (List.length_replicate ..)), ((cn_size _ _).trans (bset_len _ _ _)), (cn_one _ _), rfl, fun _ _ FF10 MM10 => then_n ?_⟩))
    refine wp_ret ?_
    repeat first | refine then_ret ?_ | refine inb_ret ?_
    exact (retc FF10 MM10 (k := 64) (i := 1) (j := 3) Try.results58 rfl rfl Try.underlying129 rfl (by kernel_rfl) ((cn_size _ _).trans (bset_len _ _ _)) ⟨by rw [bset_all], MM10.below⟩)
set_option maxRecDepth 100000 in
theorem Block_any (ks ns : List Nat) (c : Nat) (hks : Bytes 32 ks) (hc : c < 4294967296) (hns : Bytes 12 ns) (w0 : World) :
    Calls Try.prog 59 #[.agg (cn .u8 ks), .int .u32 (c : Nat), .agg (cn .u8 ns)] w0 fun e w' => e = .returned (sB (blockN ks c ns)) ∧ Below w0.heap.size w0 w' := by
  refine enter_fr Try.func59 rfl Try.ntmps59 (by simp) fun ac (FF : Fr 15 ac [(0, .agg (cn .u8 ks)), (1, .int .u32 (c : Nat)), (2, .agg (cn .u8 ns))]) => ?_
  have MM := MemS.start w0
  have H := laid_words hks hc hns
  refine wp_seq (rg_c FF MM [(0, s_ 0 (.cells (cn .u8 ks) 42)), (0, s_ 0 (.cells (cn .u8 ns) 45)), (0, t_ (sB []))] 7 [] [0, 2] (⟨(by kernel_rfl), fun bk => ⟨(by kernel_rfl), fun bn => ⟨(by kernel_rfl), fun _ _ FF1 MM1 => then_n ?_⟩⟩⟩))
  refine wp_seq (rg_c FF1 MM1 [(0, b_ 1), (1, b_ 0), (0, t_ (.agg (cn .u32 (laid ks c ns)))), (0, t_ (.agg (cn .u8 (blockN ks c ns)))), (0, s_ 0 (.cells (cn .u8 (List.replicate 64 0)) 129)), (0, b_ 0)] 0 [6, 7] [] (⟨rfl, ((cn_size _ _).trans hks.len), rfl, ((cn_size _ _).trans hns.len), (callP_of en_laid (laid_any ks ns c ⟨hks.len, hks.lt⟩ ⟨hns.len, hns.lt⟩) _), (callP_of en_cblk (cblk_any (laid ks c ns) H) _), (by kernel_rfl), fun bb => ⟨rfl, ((cn_size _ _).trans (List.length_replicate ..)), ((cn_size _ _).trans (blockW_len _)), (cn_one _ _), rfl, fun _ _ FF2 MM2 => then_n ?_⟩⟩))
  refine wp_seq (rg_c FF2 MM2 [(1, l_ 0 (sB (blockN ks c ns)))] 8 [] [] (⟨by decide, by decide, by decide, rfl, (str_all (blockW_len _) (blockW_lt _)), fun _ _ FF3 MM3 => then_n ?_⟩))
  refine wp_ret ?_
  repeat first | refine then_ret ?_ | refine inb_ret ?_
  exact (ret_fr FF3 0 Try.results59 rfl ⟨rfl, MM3.below⟩)
end Go.Proofs.Ytniplfjnpjihoaa
namespace Go.Proofs.Ytniplfjnpjihoaa
open Go.RowKit
set_option maxRecDepth 100000 in
theorem cturn_any (X B : List Nat) (hX : ∀ i, X.getD i 0 < 256) (hBl : B.length = 64) (hB : ∀ i, B.getD i 0 < 256) (b f n cap j : Nat) (fr : Nat × Nat) (hn : f + n ≤ X.length) (hfr : ∀ i, i < min 64 n → fr.2 = 0 ∨ f + i < fr.1) (L : Blks) (hj : L[j]? = some (b, .cells (cn .u8 X) 5 fr)) (w0 : World) (H : Has w0 L) :
    Calls Try.prog 57 #[.slice (some ⟨b, f, none⟩) n cap, .agg (cn .u8 B)] w0 fun e w' => e = .returned (.tuple #[]) ∧ Post w0 w' L ⟨fun _ => .tuple #[], none, [(j, .cells (cn .u8 (xorTo X f B (min 64 n))) 5 fr)]⟩ 0 := by
  have MM := MemS.start1 (H j _ hj)
  refine enter_fr Try.func57 rfl Try.ntmps57 (by simp) fun ac (FF : Fr 21 ac [(0, .slice (some ⟨b, f, none⟩) n cap), (1, .agg (cn .u8 B))]) => ?_
  refine wp_seq (rg_c FF MM [(0, s_ 0 (.cells (cn .u8 B) 129))] 1 [3] [] (⟨(by kernel_rfl), fun bb => fun _ _ FF1 MM1 => then_n ?_⟩))
  obtain ⟨m, hm⟩ : ∃ z, min 64 n = z := ⟨_, rfl⟩
  refine wp_seq (rg_c FF1 MM1 [(2, f_ (iN m))] 4 [7, 8] [] (⟨(min_ok (t := 3) (u := 3) (x := (.const (iN 64))) (y := (.tmp 6)) (k := .i64) (m := 64) (n := n) (r := m) (by kernel_rfl) rfl rfl hm), fun _ wd2 FF2 MM2 => then_n ?_⟩))
  have MMr5 : MemS (fun k => k < w0.heap.size ∧ k ≠ b) w0 wd2 [(bb, .cells (cn .u8 B) 129), (b, .cells (cn .u8 (xorTo X f B 0)) 5 fr)] [] := MM2
  refine wp_for (fun a' w' => ∃ i : Nat, i ≤ m ∧ Fr 21 a' [(8, iN i), (7, iN m), (3, pT bb), (0, .slice (some ⟨b, f, none⟩) n cap)] ∧ MemS (fun k => k < w0.heap.size ∧ k ≠ b) w0 w' [(bb, .cells (cn .u8 B) 129), (b, .cells (cn .u8 (xorTo X f B i)) 5 fr)] []) (fun a' _ => (m - cnt 8 a').toNat) ⟨0, Nat.zero_le _, FF2.pick [0, 1, 2, 3], MMr5⟩ ?_
  rintro ac3 wd3 ⟨i, hi, FF3, MM3⟩
  have hc := cnt_of (FF3.get 0 rfl)
  refine rg_c FF3 MM3 [] 9 [9] [] (fun _ _ FF4 MM4 => ?_)
  by_cases hlt : i < m
  · skip
    refine then_n (.inl ⟨(FF4.ev 0 rfl).trans (dec_t hlt), ?_⟩)
    refine wp_seq (rg_c FF4 MM4 [] 9 [] [] (fun _ _ FF5 MM5 => then_n ?_))
    refine rg_dc 9 FF5 MM5 [(3, l_ 1 (iB (X.getD (f + i) 0))), (1, w_ 1), (0, l_ 0 (iB (B.getD i 0)))] [(0, s_ 1 (.cells (cn .u8 (xorTo X f B (i + 1))) 5))] 9 [] [] (⟨by omega, rfl, ((cn_get _ _ _ (by rw [xorTo_len]; omega)).trans (congrArg some (vI ((xorTo_get X f B (f + i) i (by omega)).trans (if_neg (by omega)))))), by omega, rfl, (cn_get _ _ _ (by rw [hBl]; omega)), (hX (f + i)), (hB i), by omega, rfl, (by rw [cn_size, (xorTo_len _ _ _ _)]; omega), (hfr i (by omega)), (cn_set _ _ _ _), fun _ _ FF6 MM6 => ?_⟩)
    refine inb_n (then_n ?_)
    refine rg_c FF6 MM6 [] 9 [] [] (⟨by omega, fun _ _ FF7 MM7 => ?_⟩)
    have hd := cnt_of (FF7.get 0 rfl)
    refine then_n ⟨⟨i + 1, by omega, FF7.pick [0, 2, 3, 4], MM7⟩, ?_⟩
    rw [hc, hd]; omega
  · skip
    refine then_n (.inr ⟨(FF4.ev 0 rfl).trans (dec_f hlt), ?_⟩)
    obtain rfl : m = i := by omega
    subst hm
    exact (end_none FF4 Try.results57 ⟨rfl, MM4.post1 1 rfl hj⟩)
end Go.Proofs.Ytniplfjnpjihoaa
namespace Go.Proofs.Ytniplfjnpjihoaa
open Go.RowKit
theorem laid_len (ks : List Nat) (c : Nat) (ns : List Nat) : (laid ks c ns).length = 16 := rfl
theorem sl_eq {b o o' n n' c c' : Nat} (h1 : o = o') (h2 : n = n') (h3 : c = c') : Value.slice (some ⟨b, o, none⟩) n c = Value.slice (some ⟨b, o', none⟩) n' c' := by subst h1 h2 h3; rfl
theorem mask_str {ks ns X : List Nat} {c q k : Nat} (hX : ∀ i, X.getD i 0 < 256) (h : X.length ≤ 64 * k) : StrAt (cn .u8 (mTo ks c ns (X ++ List.replicate q 0) X.length k)) 0 X.length (bs (maskN ks c ns X)) := by
  have h1 := str_part (X := mTo ks c ns (X ++ List.replicate q 0) X.length k) (n := X.length + q) (off := 0) (len := X.length) ((mTo_len _ _ _ _ _ _).trans (rep_len _ _)) (mTo_lt ks c ns _ X.length (by rw [rep_len]; omega) (rep_lt hX q) k) (by omega)
  rwa [List.drop_zero, mTo_all _ _ _ _ _ _ h] at h1
set_option maxHeartbeats 1000000 in
set_option maxRecDepth 100000 in
theorem Mask_any (ks ns X : List Nat) (c : Nat) (hks : Bytes 32 ks) (hc : c < 4294967296) (hns : Bytes 12 ns) (hX : ∀ i, X.getD i 0 < 256) (w0 : World) :
    Calls Try.prog 43 #[.agg (cn .u8 ks), .int .u32 (c : Nat), .agg (cn .u8 ns), sB X] w0 fun e w' => e = .returned (sB (maskN ks c ns X)) ∧ Below w0.heap.size w0 w' := by
  refine enter_fr Try.func43 rfl Try.ntmps43 (by simp) fun ac (FF : Fr 37 ac [(0, .agg (cn .u8 ks)), (1, .int .u32 (c : Nat)), (2, .agg (cn .u8 ns)), (3, sB X)]) => ?_
  have MM := MemS.start w0
  have HW : ∀ k, Words (laid ks ((c + k) % 4294967296) ns) := fun k => laid_words hks (Nat.mod_lt _ (by decide)) hns
  refine wp_seq (rg_c FF MM [(0, s_ 0 (.cells (cn .u8 ks) 42)), (0, s_ 0 (.cells (cn .u8 ns) 45)), (0, t_ (sB []))] 9 [] [0, 2] (⟨(by kernel_rfl), fun bk => ⟨(by kernel_rfl), fun bn => ⟨(by kernel_rfl), fun _ _ FF1 MM1 => then_n ?_⟩⟩⟩))
  refine wp_seq (wp_region_list ?_)
  refine rp_c 1 FF1 MM1 [] 13 [] [3] (fun _ _ FF2 MM2 => ?_)
  refine st_new [8, 6, 4, 1, 13] FF2 MM2 (d := 13) (bytes_ok (e := 5) (x := (.tmp 12)) (by kernel_rfl) rfl hX Try.underlying9 Try.underlying73 Try.underlying5) rfl rfl (by decide) fun ac4 wd4 bo cz3 FF4 MM4 => ?_
  refine rp_c 1 FF4 MM4 [] 9 [9] [] (fun _ wd5 FF5 MM5 => ?_)
  refine wpl_nil (then_n ?_)
  have MMr9 : MemS (fun k => k < w0.heap.size) w0 wd5 [(bo, .cells (cn .u8 (mTo ks c ns (X ++ List.replicate cz3 0) X.length 0)) 5 (X.length + cz3, X.length + cz3 + 1)), (bn, .cells (cn .u8 ns) 45), (bk, .cells (cn .u8 ks) 42)] [] := MM5
  refine wp_seq (rg_c FF5 MMr9 [(0, b_ 2), (1, b_ 1), (0, t_ (.agg (cn .u32 (laid ks c ns)))), (0, s_ 0 (.cells (cn .u32 (List.replicate 16 0)) 126)), (0, b_ 0)] 0 [9, 8, 10] [] (⟨rfl, ((cn_size _ _).trans hks.len), rfl, ((cn_size _ _).trans hns.len), (callP_of en_laid (laid_any ks ns c ⟨hks.len, hks.lt⟩ ⟨hns.len, hns.lt⟩) _), (by kernel_rfl), fun bw => ⟨rfl, ((cn_size _ _).trans (List.length_replicate ..)), ((cn_size _ _).trans rfl), (cn_one _ _), rfl, fun _ wd6 FF6 MM6 => then_n ?_⟩⟩))
  have MMr11 : MemS (fun k => k < w0.heap.size) w0 wd6 [(bw, .cells (cn .u32 (laid ks ((c + 0) % 4294967296) ns)) 126), (bo, .cells (cn .u8 (mTo ks c ns (X ++ List.replicate cz3 0) X.length 0)) 5 (X.length + cz3, X.length + cz3 + 1)), (bn, .cells (cn .u8 ns) 45), (bk, .cells (cn .u8 ks) 42)] [] := by rw [show (c + 0) % 4294967296 = c by omega]; exact MM6
  refine wp_seq ?_
  refine wp_seq (rg_c FF6 MMr11 [(0, t_ (.slice (some ⟨bo, 0, none⟩) (X.length - min (64 * 0) X.length) (X.length + cz3 - min (64 * 0) X.length)))] 12 [] [] (⟨(sl_eq (by omega) (by omega) (by omega)), fun _ _ FF7 MM7 => then_n ?_⟩))
  refine wp_for2 (fun a' w' => ∃ k : Nat, ∃ o : Nat, (64 * k < X.length → o = 64 * k) ∧ Fr 37 a' [(11, .slice (some ⟨bo, o, none⟩) (X.length - min (64 * k) X.length) (X.length + cz3 - min (64 * k) X.length)), (10, pT bw), (9, .slice (some ⟨bo, 0, none⟩) X.length (X.length + cz3)), (8, sB [])] ∧ MemS (fun k => k < w0.heap.size) w0 w' [(bw, .cells (cn .u32 (laid ks ((c + k) % 4294967296) ns)) 126), (bo, .cells (cn .u8 (mTo ks c ns (X ++ List.replicate cz3 0) X.length k)) 5 (X.length + cz3, X.length + cz3 + 1)), (bn, .cells (cn .u8 ns) 45), (bk, .cells (cn .u8 ks) 42)] []) (fun a' _ => lenAt 11 a') ⟨0, 0, (fun _ => by omega), FF7.pick [0, 1, 2, 3], MM7⟩ ?_
  rintro ac8 wd8 ⟨k, o, ho, FF8, MM8⟩
  have hc1 := lenAt_of (FF8.get 0 rfl)
  refine rg_c FF8 MM8 [] 12 [21] [] (fun _ _ FF9 MM9 => ?_)
  by_cases hlt : (X.length - min (64 * k) X.length) > 0
  · skip
    refine then_n (.inl ⟨(FF9.ev 0 rfl).trans (dec_t hlt), ?_⟩)
    obtain rfl : o = min (64 * k) X.length := by omega
    refine wp_seq (rg_c FF9 MM9 [(1, b_ 0), (0, t_ (.agg (cn .u8 (blockN ks ((c + k) % 4294967296) ns)))), (0, c_ (.tuple #[]) [(1, .cells (cn .u8 (xorTo (mTo ks c ns (X ++ List.replicate cz3 0) X.length k) (min (64 * k) X.length) (blockN ks ((c + k) % 4294967296) ns) (min 64 (X.length - min (64 * k) X.length)))) 5 (X.length + cz3, X.length + cz3 + 1))])] 12 [] [] (⟨rfl, ((cn_size _ _).trans (laid_len ks ((c + k) % 4294967296) ns)), (callP_of en_cblk (cblk_any (laid ks ((c + k) % 4294967296) ns) (HW k)) _), ⟨en_cturn, fun w H => cturn_any (mTo ks c ns (X ++ List.replicate cz3 0) X.length k) (blockN ks ((c + k) % 4294967296) ns) (mTo_lt ks c ns _ X.length (by rw [rep_len]; omega) (rep_lt hX cz3) k) (blockW_len _) (blockW_lt _) _ _ _ _ 1 _ (by rw [mTo_len, rep_len]; omega) (fun i hi => .inr (show _ < X.length + cz3 by omega)) _ rfl w H⟩, fun _ wd10 FF10 MM10 => then_n ?_⟩))
    have MMr23 : MemS (fun k => k < w0.heap.size) w0 wd10 [(bw, .cells (cn .u32 (laid ks ((c + k) % 4294967296) ns)) 126), (bo, .cells (cn .u8 (mTo ks c ns (X ++ List.replicate cz3 0) X.length (k + 1))) 5 (X.length + cz3, X.length + cz3 + 1)), (bn, .cells (cn .u8 ns) 45), (bk, .cells (cn .u8 ks) 42)] [] := MM10
    refine rg_c FF10 MMr23 [(0, w_ 1), (0, l_ 0 (.int .u32 ((c + k) % 4294967296 : Nat))), (0, t_ (.int .u32 ((c + (k + 1)) % 4294967296 : Nat))), (0, w_ 1), (0, s_ 0 (.cells (cn .u32 (laid ks ((c + (k + 1)) % 4294967296) ns)) 126))] 12 [] [] (⟨by decide, rfl, rfl, (vI (by omega)), by decide, rfl, (by rw [cn_size, (laid_len ks ((c + k) % 4294967296) ns)]; decide), (.inl rfl), (cn_set _ _ _ _), fun _ _ FF11 MM11 => ?_⟩)
    refine inb_n (then_n ?_)
    by_cases hq : min 64 (X.length - min (64 * k) X.length) < X.length + cz3 - min (64 * k) X.length
    · skip
      refine rg_c FF11 MM11 [(3, f_ (iN (min 64 (X.length - min (64 * k) X.length)))), (0, t_ (.slice (some ⟨bo, min (64 * k) X.length + min 64 (X.length - min (64 * k) X.length), none⟩) (X.length - min (64 * (k + 1)) X.length) (X.length + cz3 - min (64 * (k + 1)) X.length)))] 12 [] [] (⟨(min_ok (t := 3) (u := 3) (x := (.const (iN 64))) (y := (.tmp 24)) (k := .i64) (m := 64) (n := X.length - min (64 * k) X.length) (r := min 64 (X.length - min (64 * k) X.length)) (by kernel_rfl) rfl rfl rfl), by omega, by omega, by omega, (sl_eq rfl (by omega) (by omega)), fun _ _ FF12 MM12 => ?_⟩)
      have hd1 := lenAt_of (FF12.get 0 rfl)
      refine then_n ⟨⟨k + 1, min (64 * k) X.length + min 64 (X.length - min (64 * k) X.length), (fun _ => by omega), FF12.pick [0, 1, 2, 3], MM12⟩, ?_⟩
      rw [hc1, hd1]; omega
    · skip
      refine rg_c FF11 MM11 [(3, f_ (iN (min 64 (X.length - min (64 * k) X.length)))), (0, u_ 1 (.slice (some ⟨bo, min (64 * k) X.length, none⟩) (X.length - min (64 * (k + 1)) X.length) (X.length + cz3 - min (64 * (k + 1)) X.length)))] 12 [] [] (⟨(min_ok (t := 3) (u := 3) (x := (.const (iN 64))) (y := (.tmp 24)) (k := .i64) (m := 64) (n := X.length - min (64 * k) X.length) (r := min 64 (X.length - min (64 * k) X.length)) (by kernel_rfl) rfl rfl rfl), by omega, by omega, by omega, (sl_eq rfl (by omega) (by omega)), fun _ _ FF13 MM13 => ?_⟩)
      have hd1 := lenAt_of (FF13.get 0 rfl)
      refine then_n ⟨⟨k + 1, min (64 * k) X.length, (fun _ => by omega), FF13.pick [0, 1, 2, 3], MM13⟩, ?_⟩
      rw [hc1, hd1]; omega
  · skip
    refine then_n (.inr ⟨(FF9.ev 0 rfl).trans (dec_f hlt), ?_⟩)
    refine then_n ?_
    refine wp_seq (rg_c FF9 MM9 [(1, l_ 1 (sB (maskN ks c ns X)))] 12 [] [] (⟨rfl, (mask_str hX (by omega)), fun _ _ FF14 MM14 => then_n ?_⟩))
    refine wp_ret ?_
    repeat first | refine then_ret ?_ | refine inb_ret ?_
    exact (ret_fr FF14 0 Try.results43 rfl ⟨rfl, MM14.below⟩)
end Go.Proofs.Ytniplfjnpjihoaa
namespace Go.Proofs.Ytniplfjnpjihoaa
open Go.RowKit
theorem en_Seal : Enters Try.prog 30 := fun args w => by simp [go_sem]
theorem en_Open : Enters Try.prog 40 := fun args w => by simp [go_sem]
theorem en_atag : Enters Try.prog 44 := fun args w => by simp [go_sem]
theorem en_missing : Enters Try.prog 61 := fun args w => by simp [go_sem]
theorem en_length : Enters Try.prog 62 := fun args w => by simp [go_sem]
theorem en_Mask : Enters Try.prog 43 := fun args w => by simp [go_sem]
theorem en_Block : Enters Try.prog 59 := fun args w => by simp [go_sem]
theorem en_Sum : Enters Try.prog 60 := fun args w => by simp [go_sem]
set_option maxRecDepth 100000 in
theorem missing_any (X : List Nat) (_hX : ∀ i, X.getD i 0 < 256) (w0 : World) :
    Calls Try.prog 61 #[sB X] w0 fun e w' => e = .returned (sB (missN X)) ∧ Below w0.heap.size w0 w' := by
  refine enter_fr Try.func61 rfl Try.ntmps61 (by simp) fun ac (FF : Fr 12 ac [(0, sB X)]) => ?_
  have MM := MemS.start w0
  refine wp_seq (rg_c FF MM [(0, t_ (sB []))] 3 [] [] (⟨(by kernel_rfl), fun _ _ FF1 MM1 => then_n ?_⟩))
  refine wp_seq (rg_c FF1 MM1 [(1, t_ (iN X.length))] 4 [] [0] (⟨(vI (bs_size _)), by decide, fun _ _ FF2 MM2 => then_n ?_⟩))
  refine wp_seq ?_
  refine wp_seq (rg_c FF2 MM2 [] 4 [8] [] (fun _ _ FF3 MM3 => then_n ?_))
  by_cases hs8 : (X.length % 16) = 0
  · refine wp_cond_true ((FF3.ev 0 rfl).trans (dec_t hs8)) ?_
    refine wp_seq (rg_c FF3 MM3 [(0, t_ (sB (missN X)))] 4 [] [] (⟨(Eq.trans (show _ = sB [] by kernel_rfl) (vS (by rw [missN, hs8]; rfl))), fun _ _ FF4 MM4 => then_n ?_⟩))
    refine wp_ret ?_
    repeat first | refine then_ret ?_ | refine inb_ret ?_
    exact (ret_fr FF4 0 Try.results61 rfl ⟨rfl, MM4.below⟩)
  · refine wp_cond_false ((FF3.ev 0 rfl).trans (dec_f hs8)) ?_
    refine wp_skip ?_
    refine then_n ?_
    refine wp_seq (rg_c FF3 MM3 [(2, t_ (sB (missN X)))] 4 [] [] (⟨by omega, by omega, (Nat.zero_le _), (by show _ ≤ 15; omega), (vS2 ((bs_extract _ _ _).trans (congrArg bs ((noughts_cut (by omega)).trans (by rw [missN, Nat.mod_eq_of_lt (show 16 - X.length % 16 < 16 by omega)]))))), fun _ _ FF5 MM5 => then_n ?_⟩))
    refine wp_ret ?_
    repeat first | refine then_ret ?_ | refine inb_ret ?_
    exact (ret_fr FF5 0 Try.results61 rfl ⟨rfl, MM5.below⟩)
set_option maxRecDepth 100000 in
theorem length_any (X : List Nat) (hl : X.length < 4611686018427387904) (w0 : World) :
    Calls Try.prog 62 #[sB X] w0 fun e w' => e = .returned (sB (leB 8 X.length)) ∧ Below w0.heap.size w0 w' := by
  refine enter_fr Try.func62 rfl Try.ntmps62 (by simp) fun ac (FF : Fr 20 ac [(0, sB X)]) => ?_
  have MM := MemS.start w0
  refine wp_seq (rg_c FF MM [(0, t_ (sB []))] 3 [] [] (⟨(by kernel_rfl), fun _ _ FF1 MM1 => then_n ?_⟩))
  refine wp_seq (rg_c FF1 MM1 [(0, s_ 0 (.cells (cn .u8 (List.replicate 8 0)) 158))] 4 [] [] (⟨(by kernel_rfl), fun bo => fun _ wd2 FF2 MM2 => then_n ?_⟩))
  have MMr4 : MemS (fun k => k < w0.heap.size) w0 wd2 [(bo, .cells (cn .u8 (genL 8 (fun i => X.length / 256 ^ i % 256) 0)) 158)] [] := by rw [← genL_zero 8 (fun i => X.length / 256 ^ i % 256)]; exact MM2
  refine wp_seq ?_
  refine wp_seq (rg_c FF2 MMr4 [] 6 [] [] (fun _ _ FF3 MM3 => then_n ?_))
  refine wp_for (fun a' w' => ∃ j : Nat, j ≤ 8 ∧ Fr 20 a' [(5, iN j), (3, pT bo), (2, sB []), (0, sB X)] ∧ MemS (fun k => k < w0.heap.size) w0 w' [(bo, .cells (cn .u8 (genL 8 (fun i => X.length / 256 ^ i % 256) j)) 158)] []) (fun a' _ => (8 - cnt 5 a').toNat) ⟨0, by omega, FF3.pick [0, 1, 2, 3], MM3⟩ ?_
  rintro ac4 wd4 ⟨j, hj, FF4, MM4⟩
  have hcj := cnt_of (FF4.get 0 rfl)
  refine rg_c FF4 MM4 [] 7 [] [] (fun _ wd5 FF5 MM5 => ?_)
  by_cases hltj : j < 8
  · skip
    refine then_n (.inl ⟨(FF5.ev 0 rfl).trans (dec_t hltj), ?_⟩)
    refine wp_seq (rg_c FF5 MM5 [] 6 [] [] (fun _ _ FF6 MM6 => then_n ?_))
    refine rg_c FF6 MM6 [(2, t_ (iN X.length)), (0, w_ 1), (4, w_ 1), (0, s_ 0 (.cells (cn .u8 (genL 8 (fun i => X.length / 256 ^ i % 256) (j + 1))) 158))] 6 [] [] (⟨(vI (bs_size _)), by omega, by omega, (by show _ ≤ 64; omega), by omega, rfl, (by rw [cn_size, (genL_len _ _ _)]; omega), (.inl rfl), ((cn_set _ _ _ _).trans (congrArg _ (genL_step _ _ j (by omega) (by rw [Nat.pow_mul])))), fun _ _ FF7 MM7 => ?_⟩)
    refine inb_n (then_n ?_)
    refine rg_c FF7 MM7 [] 6 [] [] (⟨by omega, fun _ _ FF8 MM8 => ?_⟩)
    have hdj := cnt_of (FF8.get 0 rfl)
    refine then_n ⟨⟨j + 1, by omega, FF8.pick [0, 2, 3, 4], MM8⟩, ?_⟩
    rw [hcj, hdj]; omega
  · skip
    refine then_n (.inr ⟨(FF5.ev 0 rfl).trans (dec_f hltj), ?_⟩)
    obtain rfl : j = 8 := by omega
    have MMl : MemS (fun k => k < w0.heap.size) w0 wd5 [(bo, .cells (cn .u8 (leB 8 X.length)) 158)] [] := by rw [← gen_leB8 8 X.length]; exact MM5
    refine then_n ?_
    refine wp_seq (rg_c FF5 MMl [(1, l_ 0 (sB (leB 8 X.length)))] 6 [] [] (⟨by decide, by decide, by decide, rfl, (str_all (leB_len _ _) (leB_lt 8 X.length)), fun _ _ FF9 MM9 => then_n ?_⟩))
    refine wp_ret ?_
    repeat first | refine then_ret ?_ | refine inb_ret ?_
    exact (ret_fr FF9 0 Try.results62 rfl ⟨rfl, MM9.below⟩)
theorem six_lt {A B C D E F : List Nat} (h1 : ∀ i, A.getD i 0 < 256) (h2 : ∀ i, B.getD i 0 < 256) (h3 : ∀ i, C.getD i 0 < 256) (h4 : ∀ i, D.getD i 0 < 256) (h5 : ∀ i, E.getD i 0 < 256) (h6 : ∀ i, F.getD i 0 < 256) : ∀ V ∈ [A, B, C, D, E, F], ∀ i, V.getD i 0 < 256 := fun V hV => by
  simp only [List.mem_cons, List.not_mem_nil, or_false] at hV
  rcases hV with rfl | rfl | rfl | rfl | rfl | rfl <;> assumption
theorem six_at (A B C D E F : List Nat) : ∀ j, j < [A, B, C, D, E, F].length → (#[sB A, sB B, sB C, sB D, sB E, sB F] : Array Value)[j]? = some (sB ([A, B, C, D, E, F].getD j [])) := fun j h => by
  have : j = 0 ∨ j = 1 ∨ j = 2 ∨ j = 3 ∨ j = 4 ∨ j = 5 := by simp at h; omega
  rcases this with rfl | rfl | rfl | rfl | rfl | rfl <;> rfl
set_option maxRecDepth 100000 in
theorem atag_any (K N : List Nat) (hK : Bytes 32 K) (hN : Bytes 12 N) (E C : List Nat) (hE : ∀ i, E.getD i 0 < 256) (hC : ∀ i, C.getD i 0 < 256) (hl : E.length < 4611686018427387904) (hl2 : C.length < 4611686018427387904) (w0 : World) :
    Calls Try.prog 44 #[.agg (cn .u8 K), .agg (cn .u8 N), sB E, sB C] w0 fun e w' => e = .returned (.agg (cn .u8 (tagA K N E C))) ∧ Below w0.heap.size w0 w' := by
  refine enter_fr Try.func44 rfl Try.ntmps44 (by simp) fun ac (FF : Fr 30 ac [(0, .agg (cn .u8 K)), (1, .agg (cn .u8 N)), (2, sB E), (3, sB C)]) => ?_
  have MM := MemS.start w0
  refine wp_seq (rg_c FF MM [(0, s_ 0 (.cells (cn .u8 K) 42)), (0, s_ 0 (.cells (cn .u8 N) 45)), (0, s_ 0 (.cells (cn .u8 (List.replicate 16 0)) 109))] 9 [] [0, 1] (⟨(by kernel_rfl), fun bk => ⟨(by kernel_rfl), fun bn => ⟨(by kernel_rfl), fun bt => fun _ _ FF1 MM1 => then_n ?_⟩⟩⟩))
  refine wp_seq (wp_region_list ?_)
  refine rp_c 4 FF1 MM1 [(0, b_ 2), (0, b_ 1), (0, t_ (sB (blockN K 0 N))), (0, t_ (sB (onceN K N)))] 4 [8, 13] [] (⟨rfl, ((cn_size _ _).trans hK.len), rfl, ((cn_size _ _).trans hN.len), (callP_of en_Block (Block_any K N 0 ⟨hK.len, hK.lt⟩ (by decide) ⟨hN.len, hN.lt⟩) _), (Nat.zero_le _), (by rw [bs_size, show (blockN K 0 N).length = 64 from (blockW_len _)]; omega), (vS2 ((bs_extract _ _ _).trans (congrArg bs (List.drop_zero ..)))), fun _ _ FF2 MM2 => ?_⟩)
  refine st_new [8, 2, 3, 14] FF2 MM2 (d := 14) (bytes_ok (e := 5) (x := (.tmp 13)) (by kernel_rfl) rfl (onceN_bytes K N).lt Try.underlying9 Try.underlying73 Try.underlying5) rfl rfl (by decide) fun ac4 wd4 bz cz3 FF4 MM4 => ?_
  refine rp_c 4 FF4 MM4 [(1, l_ 0 (.agg (cn .u8 (onceN K N)))), (0, s_ 0 (.cells (cn .u8 (List.replicate 32 0)) 42)), (0, b_ 0)] 9 [9] [] (⟨(by rw [(onceN_bytes K N).len]; decide), rfl, (part_rep _ _), ((cn_size _ _).trans (onceN_bytes K N).len), (by kernel_rfl), fun bo => ⟨rfl, ((cn_size _ _).trans (List.length_replicate ..)), ((cn_size _ _).trans (onceN_bytes K N).len), (cn_one _ _), rfl, fun _ _ FF5 MM5 => ?_⟩⟩)
  refine wpl_nil (then_n ?_)
  refine wp_seq (rg_draw FF5 MM5 [.inl (.agg (cn .u8 (onceN K N))), .inl (sB E), .inl (sB E), .inl (sB (missN E)), .inl (sB C), .inl (sB C), .inl (sB (missN C)), .inl (sB E), .inl (sB (leB 8 E.length)), .inl (sB C), .inl (sB (leB 8 C.length)), .inr (oC #[sB E, sB (missN E), sB C, sB (missN C), sB (leB 8 E.length), sB (leB 8 C.length)] 9, fun b => .slice (some ⟨b, 0, none⟩) 6 6), .inl (.agg (cn .u8 (tagA K N E C)))] [] [b_ 0, o_, o_, t_ (sB (missN E)), o_, o_, t_ (sB (missN C)), o_, t_ (sB (leB 8 E.length)), o_, t_ (sB (leB 8 C.length)), o_, u_ 1 (.agg (cn .u8 (tagA K N E C)))] [b_ 2] [9, 8] (fun nb => [bo = bo, (cn .u8 (onceN K N)).size = 32, CallP Try.prog 61 [sB E] [] (sB (missN E)), CallP Try.prog 61 [sB C] [] (sB (missN C)), CallP Try.prog 62 [sB E] [] (sB (leB 8 E.length)), CallP Try.prog 62 [sB C] [] (sB (leB 8 C.length)), CallP Try.prog 60 [.agg (cn .u8 (onceN K N)), .slice (some ⟨(nb 11), 0, none⟩) 6 6] [((nb 11), oC #[sB E, sB (missN E), sB C, sB (missN C), sB (leB 8 E.length), sB (leB 8 C.length)] 9), (bo, .cells (cn .u8 (onceN K N)) 42), (bz, .cells (cn .u8 ((onceN K N) ++ List.replicate cz3 0)) 5 ((onceN K N).length + cz3, (onceN K N).length + cz3 + 1)), (bt, .cells (cn .u8 (List.replicate 16 0)) 109), (bn, .cells (cn .u8 N) 45), (bk, .cells (cn .u8 K) 42)] (.agg (cn .u8 (tagA K N E C)))]) (fun nb Kt => bt = bt ∧ (cn .u8 (List.replicate 16 0)).size = 16 ∧ (cn .u8 (tagA K N E C)).size = 16 ∧ (cn .u8 (tagA K N E C)).all (·.oneCell') = true ∧ (0, 0).2 = 0 ∧ Kt [(9, pT bo), (8, pT bt)] [(bo, .cells (cn .u8 (onceN K N)) 42), (bz, .cells (cn .u8 ((onceN K N) ++ List.replicate cz3 0)) 5 ((onceN K N).length + cz3, (onceN K N).length + cz3 + 1)), (bt, .cells (cn .u8 (tagA K N E C)) 109), (bn, .cells (cn .u8 N) 45), (bk, .cells (cn .u8 K) 42)]) (by kernel_rfl) (by kernel_rfl) (by kernel_rfl) (fun _ => by kernel_rfl) (fun _ _ => by kernel_rfl) trivial (fun nb => ⟨rfl, ((cn_size _ _).trans (onceN_bytes K N).len), (callP_of en_missing (missing_any E hE) _), (callP_of en_missing (missing_any C hC) _), (callP_of en_length (length_any E (by omega)) _), (callP_of en_length (length_any C (by omega)) _), ⟨en_Sum, fun w H => by have h0 := sum_any _ (onceN_bytes K N) [E, missN E, C, missN C, leB 8 E.length, leB 8 C.length] (six_lt hE (missN_lt E) hC (missN_lt C) (leB_lt 8 _) (leB_lt 8 _)) (by simp) _ 6 _ _ _ (six_at _ _ _ _ _ _) w (H 0 _ rfl); rw [tagT_flat] at h0; exact h0⟩, trivial⟩) (fun nb => ⟨rfl, ((cn_size _ _).trans (List.length_replicate ..)), ((cn_size _ _).trans (tagA_len _ _ _ _)), (cn_one _ _), rfl, fun _ _ FF6 MM6 => then_n ?_⟩))
  refine wp_ret ?_
  repeat first | refine then_ret ?_ | refine inb_ret ?_
  exact (retc FF6 MM6 (k := 16) (i := 2) (j := 1) Try.results44 rfl rfl Try.underlying109 rfl (by kernel_rfl) ((cn_size _ _).trans (tagA_len _ _ _ _)) ⟨rfl, MM6.below⟩)
set_option maxRecDepth 100000 in
theorem seal_any (K N : List Nat) (hK : Bytes 32 K) (hN : Bytes 12 N) (E X : List Nat) (hE : ∀ i, E.getD i 0 < 256) (hX : ∀ i, X.getD i 0 < 256) (hl : E.length < 4611686018427387904) (hl2 : X.length < 4611686018427387904) (w0 : World) :
    Calls Try.prog 30 #[.agg (cn .u8 K), .agg (cn .u8 N), sB E, sB X] w0 fun e w' => e = .returned (sB (sealN K N E X)) ∧ Below w0.heap.size w0 w' := by
  refine enter_fr Try.func30 rfl Try.ntmps30 (by simp) fun ac (FF : Fr 24 ac [(0, .agg (cn .u8 K)), (1, .agg (cn .u8 N)), (2, sB E), (3, sB X)]) => ?_
  have MM := MemS.start w0
  refine wp_seq (rg_c FF MM [(0, s_ 0 (.cells (cn .u8 K) 42)), (0, s_ 0 (.cells (cn .u8 N) 45)), (0, t_ (sB []))] 9 [] [0, 1] (⟨(by kernel_rfl), fun bk => ⟨(by kernel_rfl), fun bn => ⟨(by kernel_rfl), fun _ _ FF1 MM1 => then_n ?_⟩⟩⟩))
  refine wp_seq (rg_c FF1 MM1 [(0, b_ 1), (0, b_ 0), (1, t_ (sB (maskN K 1 N X)))] 9 [9] [3] (⟨rfl, ((cn_size _ _).trans hK.len), rfl, ((cn_size _ _).trans hN.len), (callP_of en_Mask (Mask_any K N X 1 ⟨hK.len, hK.lt⟩ (by decide) ⟨hN.len, hN.lt⟩ hX) _), fun _ _ FF2 MM2 => then_n ?_⟩))
  refine wp_seq (rg_c FF2 MM2 [(0, b_ 1), (0, b_ 0), (2, t_ (.agg (cn .u8 (tagA K N E (maskN K 1 N X))))), (0, s_ 0 (.cells (cn .u8 (List.replicate 16 0)) 109)), (0, b_ 0)] 11 [] [2] (⟨rfl, ((cn_size _ _).trans hK.len), rfl, ((cn_size _ _).trans hN.len), (callP_of en_atag (atag_any K N ⟨hK.len, hK.lt⟩ ⟨hN.len, hN.lt⟩ E (maskN K 1 N X) hE (maskN_lt _ _ _ _ hX) (by omega) (by rw [maskN_len]; omega)) _), (by kernel_rfl), fun bt => ⟨rfl, ((cn_size _ _).trans (List.length_replicate ..)), ((cn_size _ _).trans (tagA_len _ _ _ _)), (cn_one _ _), rfl, fun _ _ FF3 MM3 => then_n ?_⟩⟩))
  refine wp_seq (rg_c FF3 MM3 [(2, l_ 0 (sB (tagA K N E (maskN K 1 N X)))), (0, t_ (sB (sealN K N E X)))] 11 [] [] (⟨by decide, by decide, by decide, rfl, (str_all (tagA_len _ _ _ _) (tagA_lt _ _ _ _)), (by rw [bs_size, bs_size, maskN_len, tagA_len]; omega), (vS2 (bs_app _ _)), fun _ _ FF4 MM4 => then_n ?_⟩))
  refine wp_ret ?_
  repeat first | refine then_ret ?_ | refine inb_ret ?_
  exact (ret_fr FF4 0 Try.results30 rfl ⟨rfl, MM4.below⟩)
set_option maxRecDepth 100000 in
theorem open_short (K N : List Nat) (_hK : Bytes 32 K) (_hN : Bytes 12 N) (E Z : List Nat) (_hE : ∀ i, E.getD i 0 < 256) (_hZ : ∀ i, Z.getD i 0 < 256) (_hl : E.length < 4611686018427387904) (hl2 : Z.length < 4611686018427387904) (h16 : Z.length < 16) (w0 : World) :
    Calls Try.prog 40 #[.agg (cn .u8 K), .agg (cn .u8 N), sB E, sB Z] w0 fun e w' => e = .returned (.tuple #[sB [], .bool false]) ∧ Below w0.heap.size w0 w' := by
  refine enter_fr Try.func40 rfl Try.ntmps40 (by simp) fun ac (FF : Fr 38 ac [(0, .agg (cn .u8 K)), (1, .agg (cn .u8 N)), (2, sB E), (3, sB Z)]) => ?_
  have MM := MemS.start w0
  refine wp_seq (rg_c FF MM [(0, s_ 0 (.cells (cn .u8 K) 42)), (0, s_ 0 (.cells (cn .u8 N) 45)), (0, t_ (sB []))] 9 [9] [0, 1] (⟨(by kernel_rfl), fun bk => ⟨(by kernel_rfl), fun bn => ⟨(by kernel_rfl), fun _ _ FF1 MM1 => then_n ?_⟩⟩⟩))
  refine wp_seq (rg_c FF1 MM1 [(1, t_ (iN Z.length)), (0, u_ 4 (.int .i64 (((Z.length : Nat) : Int) - 16 : Int)))] 11 [] [] (⟨(vI (bs_size _)), by omega, by omega, (vZ (by omega)), fun _ _ FF2 MM2 => then_n ?_⟩))
  refine wp_seq ?_
  refine wp_seq (rg_c FF2 MM2 [(1, w_ 6)] 11 [17] [] (⟨by omega, fun _ _ FF3 MM3 => then_n ?_⟩))
  refine wp_cond_true (FF3.ev 0 rfl) ?_
  refine wp_seq (rg_c FF3 MM3 [(0, t_ (sB []))] 11 [] [] (⟨(by kernel_rfl), fun _ _ FF4 MM4 => then_n ?_⟩))
  refine wp_ret ?_
  repeat first | refine then_ret ?_ | refine inb_ret ?_
  exact (ret_tup2 FF4 1 0 Try.results40 rfl rfl ⟨rfl, MM4.below⟩)
set_option maxRecDepth 100000 in
theorem open_yes (K N : List Nat) (hK : Bytes 32 K) (hN : Bytes 12 N) (E Z : List Nat) (hE : ∀ i, E.getD i 0 < 256) (hZ : ∀ i, Z.getD i 0 < 256) (hl : E.length < 4611686018427387904) (hl2 : Z.length < 4611686018427387904) (h16 : 16 ≤ Z.length) (ho : opensN K N E Z) (w0 : World) :
    Calls Try.prog 40 #[.agg (cn .u8 K), .agg (cn .u8 N), sB E, sB Z] w0 fun e w' => e = .returned (.tuple #[sB (plainN K N Z), .bool true]) ∧ Below w0.heap.size w0 w' := by
  refine enter_fr Try.func40 rfl Try.ntmps40 (by simp) fun ac (FF : Fr 38 ac [(0, .agg (cn .u8 K)), (1, .agg (cn .u8 N)), (2, sB E), (3, sB Z)]) => ?_
  have MM := MemS.start w0
  refine wp_seq (rg_c FF MM [(0, s_ 0 (.cells (cn .u8 K) 42)), (0, s_ 0 (.cells (cn .u8 N) 45)), (0, t_ (sB []))] 9 [9] [0, 1] (⟨(by kernel_rfl), fun bk => ⟨(by kernel_rfl), fun bn => ⟨(by kernel_rfl), fun _ _ FF1 MM1 => then_n ?_⟩⟩⟩))
  refine wp_seq (rg_c FF1 MM1 [(1, t_ (iN Z.length))] 11 [] [] (⟨(vI (bs_size _)), by omega, by omega, fun _ _ FF2 MM2 => then_n ?_⟩))
  refine wp_seq ?_
  refine wp_seq (rg_c FF2 MM2 [(1, w_ 3)] 11 [17] [] (⟨by omega, fun _ _ FF3 MM3 => then_n ?_⟩))
  refine wp_cond_false (FF3.ev 0 rfl) ?_
  refine wp_skip ?_
  refine then_n ?_
  have hdl : (Z.drop (Z.length - 16)).length = 16 := by simp; omega
  refine wp_seq (rg_draw2 FF3 MM3 [.inl (sB Z), .inl (iN (Z.length - 16)), .inl (sB (Z.take (Z.length - 16))), .inl (sB Z), .inl (iN (Z.length - 16)), .inl (sB (Z.drop (Z.length - 16))), .inr (fun c => .cells (cn .u8 ((Z.drop (Z.length - 16)) ++ List.replicate c 0)) 5 ((Z.drop (Z.length - 16)).length + c, (Z.drop (Z.length - 16)).length + c + 1), fun b c => .slice (some ⟨b, 0, none⟩) ((Z.drop (Z.length - 16)).length) ((Z.drop (Z.length - 16)).length + c)), .inr (fun c => .cells (cn .u8 ((Z.drop (Z.length - 16)) ++ List.replicate c 0)) 5 ((Z.drop (Z.length - 16)).length + c, (Z.drop (Z.length - 16)).length + c + 1), fun b c => pT b), .inl (.agg (cn .u8 (Z.drop (Z.length - 16)))), .inr (fun _ => .cells (cn .u8 (List.replicate 16 0)) 109, fun b _ => pT b), .inl (sB (Z.take (Z.length - 16)))] [9] [o_, o_, t_ (sB (Z.take (Z.length - 16))), o_, o_, t_ (sB (Z.drop (Z.length - 16))), y_, g_ 6, l_ 0 (.agg (cn .u8 (Z.drop (Z.length - 16)))), o_, o_] [b_ 0] [10, 9, 8, 5, 4, 2, 3, 12, 11] (fun nb cp => [0 ≤ (Z.length - 16), (Z.length - 16) ≤ (bs Z).size, Value.string ((bs Z).extract 0 (Z.length - 16)) = sB (Z.take (Z.length - 16)), (Z.length - 16) ≤ (bs Z).size, 0 ≤ (bs Z).size, Value.string ((bs Z).extract (Z.length - 16) (bs Z).size) = sB (Z.drop (Z.length - 16)), RunB Try.prog [(23, sB (Z.drop (Z.length - 16))), (17, .bool false), (10, iN (Z.length - 16)), (9, .bool false), (8, sB []), (5, pT bn), (4, pT bk), (2, sB E), (3, sB Z)] [(bn, .cells (cn .u8 N) 45), (bk, .cells (cn .u8 K) 42)] (opAt Try.f40 4 6) (fun c => .cells (cn .u8 ((Z.drop (Z.length - 16)) ++ List.replicate c 0)) 5 ((Z.drop (Z.length - 16)).length + c, (Z.drop (Z.length - 16)).length + c + 1)) (fun b c => .slice (some ⟨b, 0, none⟩) ((Z.drop (Z.length - 16)).length) ((Z.drop (Z.length - 16)).length + c)), 16 ≤ (Z.drop (Z.length - 16)).length, pT (nb 6) = pT (nb 6), Obj.cells (cn .u8 ((Z.drop (Z.length - 16)) ++ List.replicate (cp 6) 0)) 5 ((Z.drop (Z.length - 16)).length + (cp 6), (Z.drop (Z.length - 16)).length + (cp 6) + 1) = .cells (cn .u8 ((Z.drop (Z.length - 16)) ++ List.replicate (cp 6) 0)) 5 ((Z.drop (Z.length - 16)).length + (cp 6), (Z.drop (Z.length - 16)).length + (cp 6) + 1), (nb 7) = (nb 7), PartAt (cn .u8 ((Z.drop (Z.length - 16)) ++ List.replicate (cp 7) 0)) 0 (cn .u8 (Z.drop (Z.length - 16))), (cn .u8 (Z.drop (Z.length - 16))).size = 16]) (fun nb cp Kt => (nb 9) = (nb 9) ∧ (cn .u8 (List.replicate 16 0)).size = 16 ∧ (cn .u8 (Z.drop (Z.length - 16))).size = 16 ∧ (cn .u8 (Z.drop (Z.length - 16))).all (·.oneCell') = true ∧ (0, 0).2 = 0 ∧ Kt [(11, sB (Z.take (Z.length - 16))), (12, pT (nb 9)), (10, iN (Z.length - 16)), (9, .bool false), (8, sB []), (5, pT bn), (4, pT bk), (2, sB E), (3, sB Z)] [((nb 9), .cells (cn .u8 (Z.drop (Z.length - 16))) 109), (bn, .cells (cn .u8 N) 45), (bk, .cells (cn .u8 K) 42)]) (by kernel_rfl) (by kernel_rfl) (by kernel_rfl) (fun _ _ => by kernel_rfl) (fun _ _ _ => by kernel_rfl) ⟨⟨_, rfl⟩, rfl, trivial⟩ (by kernel_rfl) (fun nb cp => ⟨(Nat.zero_le _), (by simp only [bs_size]; omega), (vS2 ((bs_extract _ _ _).trans (congrArg bs (List.drop_zero ..)))), (by simp only [bs_size]; omega), (Nat.zero_le _), (vS2 (bs_from _ _)), (bytes_ok (e := 5) (x := (.tmp 23)) (by kernel_rfl) rfl (drop_lt hZ) Try.underlying9 Try.underlying73 Try.underlying5), (by rw [hdl]; decide), rfl, rfl, rfl, (part_rep _ _), ((cn_size _ _).trans hdl), trivial⟩) (fun nb cp => ⟨rfl, ((cn_size _ _).trans (List.length_replicate ..)), ((cn_size _ _).trans hdl), (cn_one _ _), rfl, fun _ _ FF4 MM4 => then_n ?_⟩))
  generalize nb 9 = bt at *
  refine wp_seq ?_
  refine wp_seq (rg_dc 7 FF4 MM4 [(0, b_ 0), (0, b_ 2), (0, b_ 1), (2, t_ (.agg (cn .u8 (tagA K N E (Z.take (Z.length - 16)))))), (0, f_ (.bool false))] [] 13 [33] [2] (⟨rfl, ((cn_size _ _).trans hdl), rfl, ((cn_size _ _).trans hK.len), rfl, ((cn_size _ _).trans hN.len), (callP_of en_atag (atag_any K N ⟨hK.len, hK.lt⟩ ⟨hN.len, hN.lt⟩ E (Z.take (Z.length - 16)) hE (take_lt hZ) (by omega) (by rw [List.length_take]; omega)) _), (neqA_ok (t := 109) (t' := 109) (e := 5) (m := 16) (k := .u8) (x := (.tmp 27)) (y := (.tmp 32)) (by kernel_rfl) Try.underlying109 Try.underlying5 (by kernel_rfl) (by kernel_rfl) (by kernel_rfl) rfl rfl hdl (tagA_len _ _ _ _) (decide_eq_false (fun h => h ho.2))), fun _ _ FF5 MM5 => then_n ?_⟩))
  refine wp_cond_false (FF5.ev 0 rfl) ?_
  refine wp_skip ?_
  refine then_n ?_
  refine wp_seq (rg_c FF5 MM5 [(0, b_ 2), (0, b_ 1), (1, t_ (sB (maskN K 1 N (Z.take (Z.length - 16)))))] 13 [] [] (⟨rfl, ((cn_size _ _).trans hK.len), rfl, ((cn_size _ _).trans hN.len), (callP_of en_Mask (Mask_any K N (Z.take (Z.length - 16)) 1 ⟨hK.len, hK.lt⟩ (by decide) ⟨hN.len, hN.lt⟩ (take_lt hZ)) _), fun _ _ FF6 MM6 => then_n ?_⟩))
  refine wp_ret ?_
  repeat first | refine then_ret ?_ | refine inb_ret ?_
  exact (ret_tup2 FF6 1 0 Try.results40 rfl rfl ⟨rfl, MM6.below⟩)
set_option maxRecDepth 100000 in
theorem open_bad (K N : List Nat) (hK : Bytes 32 K) (hN : Bytes 12 N) (E Z : List Nat) (hE : ∀ i, E.getD i 0 < 256) (hZ : ∀ i, Z.getD i 0 < 256) (hl : E.length < 4611686018427387904) (hl2 : Z.length < 4611686018427387904) (h16 : 16 ≤ Z.length) (ho : ¬ opensN K N E Z) (w0 : World) :
    Calls Try.prog 40 #[.agg (cn .u8 K), .agg (cn .u8 N), sB E, sB Z] w0 fun e w' => e = .returned (.tuple #[sB [], .bool false]) ∧ Below w0.heap.size w0 w' := by
  refine enter_fr Try.func40 rfl Try.ntmps40 (by simp) fun ac (FF : Fr 38 ac [(0, .agg (cn .u8 K)), (1, .agg (cn .u8 N)), (2, sB E), (3, sB Z)]) => ?_
  have MM := MemS.start w0
  refine wp_seq (rg_c FF MM [(0, s_ 0 (.cells (cn .u8 K) 42)), (0, s_ 0 (.cells (cn .u8 N) 45)), (0, t_ (sB []))] 9 [9] [0, 1] (⟨(by kernel_rfl), fun bk => ⟨(by kernel_rfl), fun bn => ⟨(by kernel_rfl), fun _ _ FF1 MM1 => then_n ?_⟩⟩⟩))
  refine wp_seq (rg_c FF1 MM1 [(1, t_ (iN Z.length))] 11 [] [] (⟨(vI (bs_size _)), by omega, by omega, fun _ _ FF2 MM2 => then_n ?_⟩))
  refine wp_seq ?_
  refine wp_seq (rg_c FF2 MM2 [(1, w_ 3)] 11 [17] [] (⟨by omega, fun _ _ FF3 MM3 => then_n ?_⟩))
  refine wp_cond_false (FF3.ev 0 rfl) ?_
  refine wp_skip ?_
  refine then_n ?_
  have hdl : (Z.drop (Z.length - 16)).length = 16 := by simp; omega
  refine wp_seq (rg_draw2 FF3 MM3 [.inl (sB Z), .inl (iN (Z.length - 16)), .inl (sB (Z.take (Z.length - 16))), .inl (sB Z), .inl (iN (Z.length - 16)), .inl (sB (Z.drop (Z.length - 16))), .inr (fun c => .cells (cn .u8 ((Z.drop (Z.length - 16)) ++ List.replicate c 0)) 5 ((Z.drop (Z.length - 16)).length + c, (Z.drop (Z.length - 16)).length + c + 1), fun b c => .slice (some ⟨b, 0, none⟩) ((Z.drop (Z.length - 16)).length) ((Z.drop (Z.length - 16)).length + c)), .inr (fun c => .cells (cn .u8 ((Z.drop (Z.length - 16)) ++ List.replicate c 0)) 5 ((Z.drop (Z.length - 16)).length + c, (Z.drop (Z.length - 16)).length + c + 1), fun b c => pT b), .inl (.agg (cn .u8 (Z.drop (Z.length - 16)))), .inr (fun _ => .cells (cn .u8 (List.replicate 16 0)) 109, fun b _ => pT b), .inl (sB (Z.take (Z.length - 16)))] [9] [o_, o_, t_ (sB (Z.take (Z.length - 16))), o_, o_, t_ (sB (Z.drop (Z.length - 16))), y_, g_ 6, l_ 0 (.agg (cn .u8 (Z.drop (Z.length - 16)))), o_, o_] [b_ 0] [10, 9, 8, 5, 4, 2, 3, 12, 11] (fun nb cp => [0 ≤ (Z.length - 16), (Z.length - 16) ≤ (bs Z).size, Value.string ((bs Z).extract 0 (Z.length - 16)) = sB (Z.take (Z.length - 16)), (Z.length - 16) ≤ (bs Z).size, 0 ≤ (bs Z).size, Value.string ((bs Z).extract (Z.length - 16) (bs Z).size) = sB (Z.drop (Z.length - 16)), RunB Try.prog [(23, sB (Z.drop (Z.length - 16))), (17, .bool false), (10, iN (Z.length - 16)), (9, .bool false), (8, sB []), (5, pT bn), (4, pT bk), (2, sB E), (3, sB Z)] [(bn, .cells (cn .u8 N) 45), (bk, .cells (cn .u8 K) 42)] (opAt Try.f40 4 6) (fun c => .cells (cn .u8 ((Z.drop (Z.length - 16)) ++ List.replicate c 0)) 5 ((Z.drop (Z.length - 16)).length + c, (Z.drop (Z.length - 16)).length + c + 1)) (fun b c => .slice (some ⟨b, 0, none⟩) ((Z.drop (Z.length - 16)).length) ((Z.drop (Z.length - 16)).length + c)), 16 ≤ (Z.drop (Z.length - 16)).length, pT (nb 6) = pT (nb 6), Obj.cells (cn .u8 ((Z.drop (Z.length - 16)) ++ List.replicate (cp 6) 0)) 5 ((Z.drop (Z.length - 16)).length + (cp 6), (Z.drop (Z.length - 16)).length + (cp 6) + 1) = .cells (cn .u8 ((Z.drop (Z.length - 16)) ++ List.replicate (cp 6) 0)) 5 ((Z.drop (Z.length - 16)).length + (cp 6), (Z.drop (Z.length - 16)).length + (cp 6) + 1), (nb 7) = (nb 7), PartAt (cn .u8 ((Z.drop (Z.length - 16)) ++ List.replicate (cp 7) 0)) 0 (cn .u8 (Z.drop (Z.length - 16))), (cn .u8 (Z.drop (Z.length - 16))).size = 16]) (fun nb cp Kt => (nb 9) = (nb 9) ∧ (cn .u8 (List.replicate 16 0)).size = 16 ∧ (cn .u8 (Z.drop (Z.length - 16))).size = 16 ∧ (cn .u8 (Z.drop (Z.length - 16))).all (·.oneCell') = true ∧ (0, 0).2 = 0 ∧ Kt [(11, sB (Z.take (Z.length - 16))), (12, pT (nb 9)), (10, iN (Z.length - 16)), (9, .bool false), (8, sB []), (5, pT bn), (4, pT bk), (2, sB E), (3, sB Z)] [((nb 9), .cells (cn .u8 (Z.drop (Z.length - 16))) 109), (bn, .cells (cn .u8 N) 45), (bk, .cells (cn .u8 K) 42)]) (by kernel_rfl) (by kernel_rfl) (by kernel_rfl) (fun _ _ => by kernel_rfl) (fun _ _ _ => by kernel_rfl) ⟨⟨_, rfl⟩, rfl, trivial⟩ (by kernel_rfl) (fun nb cp => ⟨(Nat.zero_le _), (by simp only [bs_size]; omega), (vS2 ((bs_extract _ _ _).trans (congrArg bs (List.drop_zero ..)))), (by simp only [bs_size]; omega), (Nat.zero_le _), (vS2 (bs_from _ _)), (bytes_ok (e := 5) (x := (.tmp 23)) (by kernel_rfl) rfl (drop_lt hZ) Try.underlying9 Try.underlying73 Try.underlying5), (by rw [hdl]; decide), rfl, rfl, rfl, (part_rep _ _), ((cn_size _ _).trans hdl), trivial⟩) (fun nb cp => ⟨rfl, ((cn_size _ _).trans (List.length_replicate ..)), ((cn_size _ _).trans hdl), (cn_one _ _), rfl, fun _ _ FF4 MM4 => then_n ?_⟩))
  generalize nb 9 = bt at *
  refine wp_seq ?_
  refine wp_seq (rg_dc 7 FF4 MM4 [(0, b_ 0), (0, b_ 2), (0, b_ 1), (2, t_ (.agg (cn .u8 (tagA K N E (Z.take (Z.length - 16)))))), (0, f_ (.bool true))] [] 13 [33] [2] (⟨rfl, ((cn_size _ _).trans hdl), rfl, ((cn_size _ _).trans hK.len), rfl, ((cn_size _ _).trans hN.len), (callP_of en_atag (atag_any K N ⟨hK.len, hK.lt⟩ ⟨hN.len, hN.lt⟩ E (Z.take (Z.length - 16)) hE (take_lt hZ) (by omega) (by rw [List.length_take]; omega)) _), (neqA_ok (t := 109) (t' := 109) (e := 5) (m := 16) (k := .u8) (x := (.tmp 27)) (y := (.tmp 32)) (by kernel_rfl) Try.underlying109 Try.underlying5 (by kernel_rfl) (by kernel_rfl) (by kernel_rfl) rfl rfl hdl (tagA_len _ _ _ _) (decide_eq_true (fun h => ho ⟨h16, h⟩))), fun _ _ FF5 MM5 => then_n ?_⟩))
  refine wp_cond_true (FF5.ev 0 rfl) ?_
  refine wp_seq (rg_c FF5 MM5 [(0, t_ (sB []))] 13 [] [] (⟨(by kernel_rfl), fun _ _ FF6 MM6 => then_n ?_⟩))
  refine wp_ret ?_
  repeat first | refine then_ret ?_ | refine inb_ret ?_
  exact (ret_tup2 FF6 1 0 Try.results40 rfl rfl ⟨rfl, MM6.below⟩)
theorem open_no (K N : List Nat) (hK : Bytes 32 K) (hN : Bytes 12 N) (E Z : List Nat) (hE : ∀ i, E.getD i 0 < 256) (hZ : ∀ i, Z.getD i 0 < 256) (hl : E.length < 4611686018427387904) (hl2 : Z.length < 4611686018427387904) (ho : ¬ opensN K N E Z) (w0 : World) :
    Calls Try.prog 40 #[.agg (cn .u8 K), .agg (cn .u8 N), sB E, sB Z] w0 fun e w' => e = .returned (.tuple #[sB [], .bool false]) ∧ Below w0.heap.size w0 w' := by
  rcases Nat.lt_or_ge Z.length 16 with h | h
  · exact open_short K N hK hN E Z hE hZ hl hl2 h w0
  · exact open_bad K N hK hN E Z hE hZ hl hl2 h ho w0
end Go.Proofs.Ytniplfjnpjihoaa
namespace Go.Proofs.Ytniplfjnpjihoaa
open Go.RowKit
theorem cvL_cd (m r : Nat) : cvL m r 17 0 = cdL (fun i => cv m r i 17) 0 := by
  refine ext_getD (by rw [cvL_len, cdL_len]) fun i hi => ?_
  rw [cvL_len] at hi
  rw [cvL_get _ _ _ _ hi, cdL_get _ _ hi, if_pos hi, if_neg (by omega)]
theorem low_eq (N : Nat) : N % 1361129467683753853853498429727072845824 + N / 340282366920938463463374607431768211456 / 4 * 5 = foldN N := by
  unfold foldN; rw [Nat.div_div_eq_div_mul]; omega
theorem dig_lt {M : Nat} (h : M < 1569275433846670190958947355801916604025588861116008628224) (i : Nat) : (dig M).getD i 0 < 4611686018427387904 := by
  rcases Nat.lt_or_ge i 16 with h1 | h1
  · rw [dig_lo M h1]; have := Nat.mod_lt (M / 256 ^ i) (show 256 > 0 by decide); omega
  · rcases Nat.lt_or_ge i 17 with h2 | h2
    · obtain rfl : i = 16 := by omega
      rw [dig_hi]; omega
    · rw [List.getD_eq_getElem?_getD, List.getElem?_eq_none (by rw [dig_len]; exact h2)]; decide
set_option maxRecDepth 100000 in
theorem radd_any (m n : Nat) (hm : m < 1569275433846670190958947355801916604025588861116008628224) (hn : n < 1569275433846670190958947355801916604025588861116008628224) (w0 : World) :
    Calls Try.prog 87 #[.agg (cn .u64 (dig m)), .agg (cn .u64 (dig n))] w0 fun e w' => e = .returned (.agg (cn .u64 (dAdd m n 17))) ∧ Below w0.heap.size w0 w' := by
  refine enter_fr Try.func87 rfl Try.ntmps87 (by simp) fun ac (FF : Fr 32 ac [(0, .agg (cn .u64 (dig m))), (1, .agg (cn .u64 (dig n)))]) => ?_
  have MM := MemS.start w0
  refine wp_seq (rg_c FF MM [(0, s_ 0 (.cells (cn .u64 (dig m)) 165)), (0, s_ 0 (.cells (cn .u64 (dig n)) 165)), (0, s_ 0 (.cells (cn .u64 (List.replicate 17 0)) 165))] 5 [] [0, 1] (⟨(by kernel_rfl), fun ba => ⟨(by kernel_rfl), fun bb => ⟨(by kernel_rfl), fun bc => fun _ wd1 FF1 MM1 => then_n ?_⟩⟩⟩))
  have MMr3 : MemS (fun k => k < w0.heap.size) w0 wd1 [(bc, .cells (cn .u64 (List.replicate 17 0)) 165), (bb, .cells (cn .u64 (dig n)) 165), (ba, .cells (cn .u64 (dAdd m n 0)) 165)] [] := by rw [dAdd_zero m n]; exact MM1
  refine wp_seq (rg_c FF1 MMr3 [] 6 [] [] (fun _ _ FF2 MM2 => then_n ?_))
  refine wp_seq ?_
  refine wp_seq (rg_c FF2 MM2 [] 7 [] [] (fun _ _ FF3 MM3 => then_n ?_))
  refine wp_for2 (fun a' w' => ∃ j : Nat, ∃ c : Nat, j ≤ 17 ∧ (j ≤ 16 → c = carB m n j) ∧ c < 13835058055282163714 ∧ Fr 32 a' [(6, iN j), (5, iW c), (4, pT bc), (3, pT bb), (2, pT ba)] ∧ MemS (fun k => k < w0.heap.size) w0 w' [(bc, .cells (cn .u64 (List.replicate 17 0)) 165), (bb, .cells (cn .u64 (dig n)) 165), (ba, .cells (cn .u64 (dAdd m n j)) 165)] []) (fun a' _ => (17 - cnt 6 a').toNat) ⟨0, 0, by omega, fun _ => (car_zero m n).symm, by decide, FF3.pick [0, 1, 2, 3, 4], MM3⟩ ?_
  rintro ac4 wd4 ⟨j, c, hj, hcc, hcl, FF4, MM4⟩
  have hc := cnt_of (FF4.get 0 rfl)
  refine rg_c FF4 MM4 [] 7 [8] [] (fun _ _ FF5 MM5 => ?_)
  by_cases hlt : j < 17
  · skip
    refine then_n (.inl ⟨(FF5.ev 0 rfl).trans (dec_t hlt), ?_⟩)
    have h1 : (dAdd m n j).getD j 0 = (dig m).getD j 0 := by rw [dAdd_get _ _ _ hlt, if_neg (by omega)]
    have b1 : (dig m).getD j 0 < 4611686018427387904 := dig_lt hm j
    have b2 : (dig n).getD j 0 < 4611686018427387904 := dig_lt hn j
    have b3 : c < 2 := by rcases Nat.lt_or_ge 16 j with h | h; exact (by omega); rw [hcc h]; exact car_lt m n j
    refine wp_seq (rg_dc 9 FF5 MM5 [(2, w_ 1), (0, l_ 2 (iW ((dig m).getD j 0))), (1, w_ 1), (0, l_ 1 (iW ((dig n).getD j 0))), (0, w_ 1), (0, w_ 1)] [] 7 [] [] (⟨by omega, rfl, ((cn_get _ _ _ (by rw [dAdd_len]; omega)).trans (by rw [h1])), by omega, rfl, (cn_get _ _ _ (by rw [(dig_len _)]; omega)), by omega, by omega, fun _ _ FF6 MM6 => then_n ?_⟩))
    refine wp_seq (rg_c FF6 MM6 [] 7 [21] [] (fun _ _ FF7 MM7 => then_n ?_))
    by_cases hs21 : j < 16
    · refine wp_cond_true ((FF7.ev 0 rfl).trans (dec_t hs21)) ?_
      refine wp_seq (rg_c FF7 MM7 [(2, t_ (iW ((c + (((dig m).getD j 0) + ((dig n).getD j 0))) % 256))), (0, w_ 1), (0, s_ 2 (.cells (cn .u64 (dAdd m n (j + 1))) 165))] 7 [] [] (⟨by omega, by decide, (vI (and_low 8 _)), by omega, rfl, (by rw [cn_size, (dAdd_len _ _ _)]; omega), (.inl rfl), ((cn_set _ _ _ _).trans (congrArg _ (dAdd_step m n j hlt (by rw [hcc (by omega), dig_lo m (by omega), dig_lo n (by omega), dig_lo _ (by omega)]; exact car_digit m n j)))), fun _ _ FF8 MM8 => then_n ?_⟩))
      refine rg_c FF8 MM8 [(1, t_ (iW ((c + (((dig m).getD j 0) + ((dig n).getD j 0))) / 256)))] 7 [] [] (⟨by decide, rfl, fun _ _ FF9 MM9 => ?_⟩)
      refine inb_n (then_n ?_)
      refine rg_c FF9 MM9 [] 7 [] [] (⟨by omega, fun _ _ FF10 MM10 => ?_⟩)
      have hd := cnt_of (FF10.get 0 rfl)
      refine then_n ⟨⟨j + 1, (c + (((dig m).getD j 0) + ((dig n).getD j 0))) / 256, by omega, fun _ => (by rw [hcc (by omega), dig_lo m (by omega), dig_lo n (by omega)]; exact car_step m n j), by omega, FF10.pick [0, 1, 2, 3, 4], MM10⟩, ?_⟩
      rw [hc, hd]; omega
    · refine wp_cond_false ((FF7.ev 0 rfl).trans (dec_f hs21)) ?_
      obtain rfl : j = 16 := by omega
      refine rg_c FF7 MM7 [(2, w_ 1), (0, s_ 2 (.cells (cn .u64 (dAdd m n (16 + 1))) 165))] 7 [] [] (⟨by decide, rfl, (by rw [cn_size, (dAdd_len _ _ _)]; decide), (.inl rfl), ((cn_set _ _ _ _).trans (congrArg _ (dAdd_step m n 16 hlt (by rw [hcc (by omega), dig_hi m, dig_hi n]; exact dAdd_top m n)))), fun _ _ FF11 MM11 => ?_⟩)
      refine inb_n (then_n ?_)
      refine rg_c FF11 MM11 [] 7 [] [] (⟨by decide, fun _ _ FF12 MM12 => ?_⟩)
      have hd := cnt_of (FF12.get 0 rfl)
      refine then_n ⟨⟨16 + 1, c + (((dig m).getD 16 0) + ((dig n).getD 16 0)), by omega, fun h => (by omega), by omega, FF12.pick [0, 1, 2, 3, 4], MM12⟩, ?_⟩
      rw [hc, hd]; omega
  · skip
    refine then_n (.inr ⟨(FF5.ev 0 rfl).trans (dec_f hlt), ?_⟩)
    obtain rfl : j = 17 := by omega
    refine then_n ?_
    refine wp_seq (rg_c FF5 MM5 [(0, b_ 2), (0, b_ 0)] 7 [] [] (⟨rfl, ((cn_size _ _).trans (dAdd_len _ _ _)), rfl, ((cn_size _ _).trans (List.length_replicate ..)), ((cn_size _ _).trans (dAdd_len _ _ _)), (cn_one _ _), rfl, fun _ _ FF13 MM13 => then_n ?_⟩))
    refine wp_ret ?_
    repeat first | refine then_ret ?_ | refine inb_ret ?_
    exact (retc FF13 MM13 (k := 17) (i := 0) (j := 2) Try.results87 rfl rfl Try.underlying165 rfl (by kernel_rfl) ((cn_size _ _).trans (dAdd_len _ _ _)) ⟨rfl, MM13.below⟩)
theorem radd_ok {m n : Nat} (hm : m < 1569275433846670190958947355801916604025588861116008628224) (hn : n < 1569275433846670190958947355801916604025588861116008628224) (L : Blks) : CallP Try.prog 87 [.agg (cn .u64 (dig m)), .agg (cn .u64 (dig n))] L (.agg (cn .u64 (dig (m + n)))) :=
  callP_of ent26 (fun w => by have := radd_any m n hm hn w; rwa [dAdd_all] at this) L
set_option maxRecDepth 100000 in
theorem low_any (m : Nat) (hm : m < 182687704666362864775460604089535377456991567872) (w0 : World) :
    Calls Try.prog 95 #[.agg (cn .u64 (dig m))] w0 fun e w' => e = .returned (.agg (cn .u64 (dig (foldN m)))) ∧ Below w0.heap.size w0 w' := by
  refine enter_fr Try.func95 rfl Try.ntmps95 (by simp) fun ac (FF : Fr 29 ac [(0, .agg (cn .u64 (dig m)))]) => ?_
  have MM := MemS.start w0
  refine wp_seq (rg_c FF MM [(0, s_ 0 (.cells (cn .u64 (dig m)) 165)), (0, s_ 0 (.cells (cn .u64 (List.replicate 17 0)) 165))] 3 [] [0] (⟨(by kernel_rfl), fun b1 => ⟨(by kernel_rfl), fun b2 => fun _ _ FF1 MM1 => then_n ?_⟩⟩))
  refine wp_seq (rg_c FF1 MM1 [(0, w_ 1), (0, l_ 1 (iW (m / 340282366920938463463374607431768211456))), (0, t_ (iW ((m / 340282366920938463463374607431768211456) / 4)))] 4 [] [] (⟨by decide, rfl, ((cn_get _ _ _ (by rw [dig_len]; decide)).trans (by rw [dig_hi])), by decide, rfl, fun _ _ FF2 MM2 => then_n ?_⟩))
  refine wp_seq (rg_c FF2 MM2 [(0, w_ 1), (0, l_ 1 (iW (m / 340282366920938463463374607431768211456))), (0, t_ (iW ((m / 340282366920938463463374607431768211456) % 4))), (0, w_ 1), (0, s_ 1 (.cells (cn .u64 (dig (m % 1361129467683753853853498429727072845824))) 165))] 4 [] [] (⟨by decide, rfl, ((cn_get _ _ _ (by rw [dig_len]; decide)).trans (by rw [dig_hi])), by omega, by decide, (vI (and_low 2 _)), by decide, rfl, (by rw [cn_size, (dig_len _)]; decide), (.inl rfl), ((cn_set _ _ _ _).trans (congrArg _ (low_cut m))), fun _ _ FF3 MM3 => then_n ?_⟩))
  refine wp_seq (rg_c FF3 MM3 [(0, b_ 1), (1, w_ 1), (0, t_ (iW ((((m / 340282366920938463463374607431768211456) / 4) * 5) % 256))), (1, w_ 1), (0, t_ (iW ((((m / 340282366920938463463374607431768211456) / 4) * 5) / 256))), (0, t_ (iW (((((m / 340282366920938463463374607431768211456) / 4) * 5) / 256) % 256))), (1, w_ 1), (0, t_ (iW ((((m / 340282366920938463463374607431768211456) / 4) * 5) / 65536))), (0, t_ (iW (((((m / 340282366920938463463374607431768211456) / 4) * 5) / 65536) % 256))), (1, w_ 1), (0, t_ (iW ((((m / 340282366920938463463374607431768211456) / 4) * 5) / 16777216))), (0, t_ (iW (((((m / 340282366920938463463374607431768211456) / 4) * 5) / 16777216) % 256))), (0, t_ (.agg (cn .u64 (dig (m / 340282366920938463463374607431768211456 / 4 * 5))))), (0, t_ (.agg (cn .u64 (dig (foldN m))))), (0, b_ 0)] 3 [] [] (⟨rfl, ((cn_size _ _).trans (dig_len _)), by omega, by omega, by decide, (vI (and_low 8 _)), by omega, by decide, rfl, by omega, by decide, (vI (and_low 8 _)), by omega, by decide, rfl, by omega, by decide, (vI (and_low 8 _)), by omega, by decide, rfl, by omega, by decide, (vI (and_low 8 _)), (Eq.trans (show _ = some (cn .u64 ([(((m / 340282366920938463463374607431768211456) / 4) * 5) % 256, ((((m / 340282366920938463463374607431768211456) / 4) * 5) / 256) % 256, ((((m / 340282366920938463463374607431768211456) / 4) * 5) / 65536) % 256, ((((m / 340282366920938463463374607431768211456) / 4) * 5) / 16777216) % 256, 0, 0, 0, 0, 0, 0, 0, 0, 0, 0, 0, 0, 0])) by kernel_rfl) (congrArg some (Value.agg.inj (vA (congrArg (cn .u64) (low_five (m / 340282366920938463463374607431768211456 / 4 * 5) (by omega)).symm))))), (by have h0 := radd_ok (m := (m % 1361129467683753853853498429727072845824)) (n := (m / 340282366920938463463374607431768211456 / 4 * 5)) (by omega) (by omega) []; rw [low_eq m] at h0; exact h0), rfl, ((cn_size _ _).trans (List.length_replicate ..)), ((cn_size _ _).trans (dig_len _)), (cn_one _ _), rfl, fun _ _ FF4 MM4 => then_n ?_⟩))
  refine wp_ret ?_
  repeat first | refine then_ret ?_ | refine inb_ret ?_
  exact (retc FF4 MM4 (k := 17) (i := 0) (j := 0) Try.results95 rfl rfl Try.underlying165 rfl (by kernel_rfl) ((cn_size _ _).trans (dig_len _)) ⟨rfl, MM4.below⟩)
set_option maxRecDepth 100000 in
set_option maxHeartbeats 1000000 in
theorem rtimes_any (m r : Nat) (hm : m < 340282366920938463463374607431768211456 * 256) (hr : r < 340282366920938463463374607431768211456 * 256) (w0 : World) :
    Calls Try.prog 86 #[.agg (cn .u64 (dig m)), .agg (cn .u64 (dig r))] w0 fun e w' => e = .returned (.agg (cn .u64 (dig (prodN m r)))) ∧ Below w0.heap.size w0 w' := by
  refine enter_fr Try.func86 rfl Try.ntmps86 (by simp) fun ac (FF : Fr 75 ac [(0, .agg (cn .u64 (dig m))), (1, .agg (cn .u64 (dig r)))]) => ?_
  have MM := MemS.start w0
  refine wp_seq (rg_c FF MM [(0, s_ 0 (.cells (cn .u64 (dig m)) 165)), (0, s_ 0 (.cells (cn .u64 (dig r)) 165)), (0, s_ 0 (.cells (cn .u64 (List.replicate 17 0)) 165))] 5 [] [0, 1] (⟨(by kernel_rfl), fun b1 => ⟨(by kernel_rfl), fun b2 => ⟨(by kernel_rfl), fun b3 => fun _ _ FF1 MM1 => then_n ?_⟩⟩⟩))
  refine wp_seq (rg_c FF1 MM1 [(0, t_ (.agg (cn .u64 (List.replicate 17 0)))), (0, s_ 0 (.cells (cn .u64 (List.replicate 17 0)) 165)), (0, b_ 0)] 6 [] [] (⟨(by kernel_rfl), (by kernel_rfl), fun bx => ⟨rfl, ((cn_size _ _).trans (List.length_replicate ..)), ((cn_size _ _).trans (List.length_replicate ..)), (cn_one _ _), rfl, fun _ wd2 FF2 MM2 => then_n ?_⟩⟩))
  have MMr4 : MemS (fun k => k < w0.heap.size) w0 wd2 [(bx, .cells (cn .u64 (cvL m r 0 0)) 165), (b3, .cells (cn .u64 (List.replicate 17 0)) 165), (b2, .cells (cn .u64 (dig r)) 165), (b1, .cells (cn .u64 (dig m)) 165)] [] := by rw [← cvL_start m r]; exact MM2
  refine wp_seq ?_
  refine wp_seq (rg_c FF2 MMr4 [] 7 [] [] (fun _ _ FF3 MM3 => then_n ?_))
  refine wp_for2 (fun a' w' => ∃ i : Nat, i ≤ 17 ∧ Fr 75 a' [(6, iN i), (5, pT bx), (4, pT b3), (3, pT b2), (2, pT b1)] ∧ MemS (fun k => k < w0.heap.size) w0 w' [(bx, .cells (cn .u64 (cvL m r i 0)) 165), (b3, .cells (cn .u64 (List.replicate 17 0)) 165), (b2, .cells (cn .u64 (dig r)) 165), (b1, .cells (cn .u64 (dig m)) 165)] []) (fun a' _ => (17 - cnt 6 a').toNat) ⟨0, by omega, FF3.pick [0, 1, 2, 3, 4], MM3⟩ ?_
  rintro ac4 wd4 ⟨i, hi, FF4, MM4⟩
  have hci := cnt_of (FF4.get 0 rfl)
  refine rg_c FF4 MM4 [] 7 [12] [] (fun _ _ FF5 MM5 => ?_)
  by_cases hlti : i < 17
  · skip
    refine then_n (.inl ⟨(FF5.ev 0 rfl).trans (dec_t hlti), ?_⟩)
    refine wp_seq (rg_c FF5 MM5 [] 8 [] [] (fun _ _ FF6 MM6 => then_n ?_))
    refine wp_for2 (fun a' w' => ∃ j : Nat, j ≤ 17 ∧ Fr 75 a' [(7, iN j), (6, iN i), (5, pT bx), (4, pT b3), (3, pT b2), (2, pT b1)] ∧ MemS (fun k => k < w0.heap.size) w0 w' [(bx, .cells (cn .u64 (cvL m r i j)) 165), (b3, .cells (cn .u64 (List.replicate 17 0)) 165), (b2, .cells (cn .u64 (dig r)) 165), (b1, .cells (cn .u64 (dig m)) 165)] []) (fun a' _ => (17 - cnt 7 a').toNat) ⟨0, by omega, FF6.pick [0, 1, 2, 3, 4, 5], MM6⟩ ?_
    rintro ac7 wd7 ⟨j, hj, FF7, MM7⟩
    have hcj := cnt_of (FF7.get 0 rfl)
    refine rg_c FF7 MM7 [] 8 [16] [] (fun _ _ FF8 MM8 => ?_)
    by_cases hltj : j < 17
    · skip
      refine then_n (.inl ⟨(FF8.ev 0 rfl).trans (dec_t hltj), ?_⟩)
      refine wp_seq (rg_c FF8 MM8 [] 8 [21] [] (fun _ _ FF9 MM9 => then_n ?_))
      by_cases hs21 : j ≤ i
      · refine wp_cond_true ((FF9.ev 0 rfl).trans (dec_t hs21)) ?_
        have hcv := cv_le hm hr i hj
        have ha := dig_le hm j
        have hb := dig_le hr (i - j)
        have hab := Nat.mul_le_mul ha hb
        refine rg_dc 14 FF9 MM9 [(1, w_ 1), (0, l_ 0 (iW (cv m r i j))), (1, w_ 1), (0, l_ 3 (iW ((dig m).getD j 0))), (3, w_ 1), (0, l_ 2 (iW ((dig r).getD (i - j) 0))), (0, w_ 1), (0, w_ 1), (0, w_ 1)] [(0, s_ 0 (.cells (cn .u64 (cvL m r i (j + 1))) 165))] 8 [] [] (⟨by omega, rfl, ((cn_get _ _ _ (by rw [cvL_len]; omega)).trans (by rw [cvL_cur _ _ _ _ hlti])), by omega, rfl, (cn_get _ _ _ (by rw [(dig_len _)]; omega)), by omega, by omega, by omega, rfl, (cn_get _ _ _ (by rw [(dig_len _)]; omega)), by omega, by omega, by omega, rfl, (by rw [cn_size, (cvL_len _ _ _ _)]; omega), (.inl rfl), ((cn_set _ _ _ _).trans (congrArg _ (cvL_step m r i j hlti (by rw [tm, if_pos hs21])))), fun _ _ FF10 MM10 => ?_⟩)
        refine inb_n (then_n ?_)
        refine rg_c FF10 MM10 [] 8 [] [] (⟨by omega, fun _ _ FF11 MM11 => ?_⟩)
        have hdj := cnt_of (FF11.get 0 rfl)
        refine then_n ⟨⟨j + 1, by omega, FF11.pick [0, 1, 2, 3, 4, 5], MM11⟩, ?_⟩
        rw [hcj, hdj]; omega
      · refine wp_cond_false ((FF9.ev 0 rfl).trans (dec_f hs21)) ?_
        have hcv := cv_le hm hr i hj
        have ha := dig_le hm j
        have hb := dig_le hr (i + 17 - j)
        have hab := Nat.mul_le_mul (Nat.mul_le_mul (Nat.le_refl 320) ha) hb
        refine rg_dc 16 FF9 MM9 [(1, w_ 1), (0, l_ 0 (iW (cv m r i j))), (1, w_ 1), (0, l_ 3 (iW ((dig m).getD j 0))), (0, w_ 1), (4, w_ 1), (0, l_ 2 (iW ((dig r).getD ((i + 17) - j) 0))), (0, w_ 1), (0, w_ 1), (0, w_ 1)] [(0, s_ 0 (.cells (cn .u64 (cvL m r i (j + 1))) 165))] 8 [] [] (⟨by omega, rfl, ((cn_get _ _ _ (by rw [cvL_len]; omega)).trans (by rw [cvL_cur _ _ _ _ hlti])), by omega, rfl, (cn_get _ _ _ (by rw [(dig_len _)]; omega)), by omega, by omega, by omega, by omega, by omega, rfl, (cn_get _ _ _ (by rw [(dig_len _)]; omega)), by omega, by omega, by omega, rfl, (by rw [cn_size, (cvL_len _ _ _ _)]; omega), (.inl rfl), ((cn_set _ _ _ _).trans (congrArg _ (cvL_step m r i j hlti (by rw [tm, if_neg hs21])))), fun _ _ FF12 MM12 => ?_⟩)
        refine inb_n (then_n ?_)
        refine rg_c FF12 MM12 [] 8 [] [] (⟨by omega, fun _ _ FF13 MM13 => ?_⟩)
        have hdj := cnt_of (FF13.get 0 rfl)
        refine then_n ⟨⟨j + 1, by omega, FF13.pick [0, 1, 2, 3, 4, 5], MM13⟩, ?_⟩
        rw [hcj, hdj]; omega
    · skip
      refine then_n (.inr ⟨(FF8.ev 0 rfl).trans (dec_f hltj), ?_⟩)
      obtain rfl : j = 17 := by omega
      refine inb_n (then_n ?_)
      refine rg_c FF8 MM8 [] 8 [] [] (⟨by omega, fun _ _ FF14 MM14 => ?_⟩)
      rw [cvL_next] at MM14
      have hdi := cnt_of (FF14.get 0 rfl)
      refine then_n ⟨⟨i + 1, by omega, FF14.pick [0, 2, 3, 4, 5], MM14⟩, ?_⟩
      rw [hci, hdi]; omega
  · skip
    refine then_n (.inr ⟨(FF5.ev 0 rfl).trans (dec_f hlti), ?_⟩)
    obtain rfl : i = 17 := by omega
    rw [cvL_cd] at MM5
    refine then_n ?_
    refine wp_seq (rg_c FF5 MM5 [] 9 [] [] (fun _ _ FF15 MM15 => then_n ?_))
    refine wp_seq ?_
    refine wp_seq (rg_c FF15 MM15 [] 9 [9] [] (fun _ _ FF16 MM16 => then_n ?_))
    refine wp_for2 (fun a' w' => ∃ k : Nat, ∃ c : Nat, k ≤ 17 ∧ (k ≤ 16 → c = carC (fun i => cv m r i 17) k) ∧ c ≤ 1000000000000 ∧ Fr 75 a' [(9, iN k), (8, iW c), (6, iN 17), (5, pT bx), (4, pT b3), (3, pT b2), (2, pT b1)] ∧ MemS (fun k => k < w0.heap.size) w0 w' [(bx, .cells (cn .u64 (cdL (fun i => cv m r i 17) k)) 165), (b3, .cells (cn .u64 (List.replicate 17 0)) 165), (b2, .cells (cn .u64 (dig r)) 165), (b1, .cells (cn .u64 (dig m)) 165)] []) (fun a' _ => (17 - cnt 9 a').toNat) ⟨0, 0, by omega, fun _ => rfl, by decide, FF16.pick [0, 1, 2, 3, 4, 5, 6], MM16⟩ ?_
    rintro ac17 wd17 ⟨k, c, hk, hcc, hcl, FF17, MM17⟩
    have hck := cnt_of (FF17.get 0 rfl)
    refine rg_c FF17 MM17 [] 10 [53] [] (fun _ _ FF18 MM18 => ?_)
    by_cases hltk : k < 17
    · skip
      refine then_n (.inl ⟨(FF18.ev 0 rfl).trans (dec_t hltk), ?_⟩)
      have hcv := cv_le hm hr k (Nat.le_refl 17)
      have hx : (cdL (fun i => cv m r i 17) k).getD k 0 = cv m r k 17 := by rw [cdL_get _ _ hltk, if_neg (by omega)]
      have hc3 : c ≤ 353736000 := by rcases Nat.lt_or_ge 16 k with h | h; exact (by omega); rw [hcc h]; exact carC_le (fun i => cv_le hm hr i (Nat.le_refl 17)) k
      refine wp_seq (rg_c FF18 MM18 [(2, w_ 1), (0, l_ 0 (iW (cv m r k 17))), (0, w_ 1)] 9 [9] [] (⟨by omega, rfl, ((cn_get _ _ _ (by rw [cdL_len]; omega)).trans (by rw [hx])), by omega, fun _ _ FF19 MM19 => then_n ?_⟩))
      refine wp_seq (rg_c FF19 MM19 [] 10 [62] [] (fun _ _ FF20 MM20 => then_n ?_))
      by_cases hs62 : k < 16
      · refine wp_cond_true ((FF20.ev 0 rfl).trans (dec_t hs62)) ?_
        refine wp_seq (rg_c FF20 MM20 [(2, t_ (iW ((c + (cv m r k 17)) % 256))), (0, w_ 1), (0, s_ 0 (.cells (cn .u64 (cdL (fun i => cv m r i 17) (k + 1))) 165))] 9 [9] [] (⟨by omega, by decide, (vI (and_low 8 _)), by omega, rfl, (by rw [cn_size, (cdL_len _ _)]; omega), (.inl rfl), ((cn_set _ _ _ _).trans (congrArg _ (cdL_step _ k hltk (by rw [if_pos (by omega), hcc (by omega)])))), fun _ _ FF21 MM21 => then_n ?_⟩))
        refine rg_c FF21 MM21 [(1, t_ (iW ((c + (cv m r k 17)) / 256)))] 9 [9] [] (⟨by decide, rfl, fun _ _ FF22 MM22 => ?_⟩)
        refine inb_n (then_n ?_)
        refine rg_c FF22 MM22 [] 9 [9] [] (⟨by omega, fun _ _ FF23 MM23 => ?_⟩)
        have hdk := cnt_of (FF23.get 0 rfl)
        refine then_n ⟨⟨k + 1, (c + (cv m r k 17)) / 256, by omega, fun _ => (by rw [hcc (by omega)]; rfl), by omega, FF23.pick [0, 1, 2, 3, 4, 5, 6], MM23⟩, ?_⟩
        rw [hck, hdk]; omega
      · refine wp_cond_false ((FF20.ev 0 rfl).trans (dec_f hs62)) ?_
        obtain rfl : k = 16 := by omega
        refine rg_c FF20 MM20 [(2, w_ 1), (0, s_ 0 (.cells (cn .u64 (cdL (fun i => cv m r i 17) (16 + 1))) 165))] 9 [9] [] (⟨by decide, rfl, (by rw [cn_size, (cdL_len _ _)]; decide), (.inl rfl), ((cn_set _ _ _ _).trans (congrArg _ (cdL_step _ 16 hltk (by rw [if_neg (by omega), hcc (by omega)])))), fun _ _ FF24 MM24 => ?_⟩)
        refine inb_n (then_n ?_)
        refine rg_c FF24 MM24 [] 9 [9] [] (⟨by decide, fun _ _ FF25 MM25 => ?_⟩)
        have hdk := cnt_of (FF25.get 0 rfl)
        refine then_n ⟨⟨16 + 1, c + (cv m r 16 17), by omega, fun h => (by omega), by omega, FF25.pick [0, 1, 2, 3, 4, 5, 6], MM25⟩, ?_⟩
        rw [hck, hdk]; omega
    · skip
      refine then_n (.inr ⟨(FF18.ev 0 rfl).trans (dec_f hltk), ?_⟩)
      obtain rfl : k = 17 := by omega
      rw [cdL_all] at MM18
      refine then_n ?_
      refine wp_seq (rg_c FF18 MM18 [(0, b_ 0), (0, t_ (.agg (cn .u64 (dig (foldN (cvN m r)))))), (0, t_ (.agg (cn .u64 (dig (prodN m r))))), (0, b_ 1)] 9 [9] [] (⟨rfl, ((cn_size _ _).trans (dig_len _)), (callP_of ent35 (low_any _ (cvN_lt hm hr)) _), (callP_of ent35 (low_any _ (Nat.lt_of_lt_of_le (fold1_lt (cvN_lt hm hr)) (by decide))) _), rfl, ((cn_size _ _).trans (List.length_replicate ..)), ((cn_size _ _).trans (dig_len _)), (cn_one _ _), rfl, fun _ _ FF26 MM26 => then_n ?_⟩))
      refine wp_ret ?_
      repeat first | refine then_ret ?_ | refine inb_ret ?_
      exact (retc FF26 MM26 (k := 17) (i := 1) (j := 4) Try.results86 rfl rfl Try.underlying165 rfl (by kernel_rfl) ((cn_size _ _).trans (dig_len _)) ⟨rfl, MM26.below⟩)
end Go.Proofs.Ytniplfjnpjihoaa
