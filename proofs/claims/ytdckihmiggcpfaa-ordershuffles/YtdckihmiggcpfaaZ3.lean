/- Several texts in one: Rows held against each other; is a row an order? Package order and the document's: inverses, items that are laid. Shuffles: the package's, the document's. The laws of orders: what they share. The law OrderShuffles. -/
import Derived.Test.YtdckihmiggcpfaaZ2
import Derived.Laws.Small
namespace Go.Proofs.Ytdckihmiggcpfaa
open Go.RowKit
theorem en_inrow : Enters Try.prog 20 := fun args w => by simp [go_sem]
theorem en_omay : Enters Try.prog 19 := fun args w => by simp [go_sem]
theorem en_isord : Enters Try.prog 24 := fun args w => by simp [go_sem]
theorem en_oshuf : Enters Try.prog 9 := fun args w => by simp [go_sem]
theorem en_oinv : Enters Try.prog 14 := fun args w => by simp [go_sem]
theorem en_olay : Enters Try.prog 15 := fun args w => by simp [go_sem]
theorem en_rmay : Enters Try.prog 13 := fun args w => by simp [go_sem]
theorem en_kints : Enters Try.prog 11 := fun args w => by simp [go_sem]
theorem en_ktexts : Enters Try.prog 16 := fun args w => by simp [go_sem]
set_option maxRecDepth 100000 in
theorem kints_O (O : Blks) (hD : Distinct O) (p : Option Addr) (n c : Nat) (q : Option Addr) (d : Nat) (F G : Nat → Int) (hn : n ≤ 1000000) (hE : ∀ i, i < n → F i = G i) (hF : RowO O p n (fun k9 => .int .i64 (F k9))) (hG : RowO O q n (fun k9 => .int .i64 (G k9))) (w0 : World) (H : Has w0 O) :
    Calls Try.prog 11 #[.slice p n c, .slice q n d] w0 fun e w' => e = .returned (.bool true) ∧ Below w0.heap.size w0 w' := by
  refine enter_fr Try.func11 rfl Try.ntmps11 (by simp) fun ac (FF : Fr 26 ac [(0, .slice p n c), (1, .slice q n d)]) => ?_
  have MM : MemS (fun k => k < w0.heap.size ∧ ∀ x ∈ O, x.1 ≠ k) w0 w0 O [] := MemS.startN H hD
  refine wp_seq (rg_seq FF MM [o_] [0, 1, 4] (fun Kt => Kt [(4, .bool false), (0, .slice p n c), (1, .slice q n d)] O) (by kernel_rfl) (fun _ => by kernel_rfl) (fun ac1 wd1 FF1 MM1 => then_n ?_))
  refine wp_seq ?_
  refine wp_seq (rg_seq FF1 MM1 [o_, o_, o_, o_, w_ 3] [4, 0, 1, 10] (fun Kt => ¬ (n ≠ n) ∧ Kt [(10, .bool false), (4, .bool false), (0, .slice p n c), (1, .slice q n d)] O) (by kernel_rfl) (fun _ => by kernel_rfl) (⟨(fun h => h rfl), fun ac2 wd2 FF2 MM2 => then_n ?_⟩))
  refine wp_cond_false (FF2.ev 0 rfl) ?_
  refine wp_skip ?_
  refine then_n ?_
  refine wp_seq ?_
  refine wp_seq (rg_seq FF2 MM2 [o_] [4, 0, 1, 5] (fun Kt => Kt [(5, iN 0), (4, .bool false), (0, .slice p n c), (1, .slice q n d)] O) (by kernel_rfl) (fun _ => by kernel_rfl) (fun ac3 wd3 FF3 MM3 => then_n ?_))
  refine wp_for2 (fun a' w' => ∃ i : Nat, i ≤ n ∧ Fr 26 a' [(5, iN i), (0, .slice p n c), (1, .slice q n d)] ∧ MemS (fun k => k < w0.heap.size ∧ ∀ x ∈ O, x.1 ≠ k) w0 w' O []) (fun a' _ => (n - cnt 5 a').toNat) ⟨0, Nat.zero_le _, FF3.pick [0, 2, 3], MM3⟩ ?_
  rintro ac4 wd4 ⟨i, hi, FF4, MM4⟩
  have hc := cnt_of (FF4.get 0 rfl)
  refine rg_seq FF4 MM4 [o_, o_, o_, o_] [5, 0, 1, 14] (fun Kt => Kt [(14, .bool (decide (i < n))), (5, iN i), (0, .slice p n c), (1, .slice q n d)] O) (by kernel_rfl) (fun _ => by kernel_rfl) (fun ac5 wd5 FF5 MM5 => ?_)
  by_cases hlt : i < n
  · skip
    refine then_n (.inl ⟨(FF5.ev 0 rfl).trans (dec_t hlt), ?_⟩)
    refine wp_seq (rg_draw FF5 MM5 [.inl (.slice p n c), .inl (iN i), .inl (.pointer (some ⟨gOf p, oOf p + i, none⟩)), .inl (.int .i64 (F i : Int)), .inl (.slice q n d), .inl (iN i), .inl (.pointer (some ⟨gOf q, oOf q + i, none⟩)), .inl (.int .i64 (G i : Int)), .inl (.bool false)] [] [o_, o_, f_ (.pointer (some ⟨gOf p, oOf p + i, none⟩)), f_ (.int .i64 (F i : Int)), o_, o_, f_ (.pointer (some ⟨gOf q, oOf q + i, none⟩)), f_ (.int .i64 (G i : Int)), u_ 4 (.bool false)] [] [5, 0, 1, 25] (fun nb => [RunV Try.prog [(17, .slice p n c), (18, iN i), (14, .bool (decide (i < n))), (5, iN i), (0, .slice p n c), (1, .slice q n d)] O (opAt Try.f11 6 2) (.pointer (some ⟨gOf p, oOf p + i, none⟩)), RunV Try.prog [(19, .pointer (some ⟨gOf p, oOf p + i, none⟩)), (14, .bool (decide (i < n))), (5, iN i), (0, .slice p n c), (1, .slice q n d)] O (opAt Try.f11 6 3) (.int .i64 (F i : Int)), RunV Try.prog [(21, .slice q n d), (22, iN i), (14, .bool (decide (i < n))), (5, iN i), (0, .slice p n c), (1, .slice q n d)] O (opAt Try.f11 6 6) (.pointer (some ⟨gOf q, oOf q + i, none⟩)), RunV Try.prog [(23, .pointer (some ⟨gOf q, oOf q + i, none⟩)), (14, .bool (decide (i < n))), (5, iN i), (0, .slice p n c), (1, .slice q n d)] O (opAt Try.f11 6 7) (.int .i64 (G i : Int)), Value.bool (decide ((F i) ≠ (G i))) = .bool false]) (fun nb Kt => Kt [(25, .bool false), (5, iN i), (0, .slice p n c), (1, .slice q n d)] O) (by kernel_rfl) (by kernel_rfl) (by kernel_rfl) (fun _ => by kernel_rfl) (fun _ _ => by kernel_rfl) trivial (fun nb => ⟨(rowX_addr (x := (.tmp 17)) (y := (.tmp 18)) (k := 1) (i := i) (by kernel_rfl) rfl rfl Try.underlying23 (by kernel_rfl) hF (by omega) (by omega)), (rowX_load (x := (.tmp 19)) (j := i) (by kernel_rfl) rfl Try.underlying3 rfl hF (fun _ hx => hx) (by omega) rfl), (rowX_addr (x := (.tmp 21)) (y := (.tmp 22)) (k := 1) (i := i) (by kernel_rfl) rfl rfl Try.underlying23 (by kernel_rfl) hG (by omega) (by omega)), (rowX_load (x := (.tmp 23)) (j := i) (by kernel_rfl) rfl Try.underlying3 rfl hG (fun _ hx => hx) (by omega) rfl), (dec_f (fun h => h (hE i hlt))), trivial⟩) (fun nb => fun ac6 wd6 FF6 MM6 => then_n ?_))
    refine wp_cond_false (FF6.ev 0 rfl) ?_
    refine wp_skip ?_
    refine inb_n (then_n ?_)
    refine rg_seq FF6 MM6 [o_, o_, o_] [5, 0, 1] (fun Kt => i + 1 < 9223372036854775808 ∧ Kt [(5, iN (i + 1)), (0, .slice p n c), (1, .slice q n d)] O) (by kernel_rfl) (fun _ => by kernel_rfl) (⟨(by omega), fun ac7 wd7 FF7 MM7 => ?_⟩)
    have hd := cnt_of (FF7.get 0 rfl)
    refine then_n ⟨⟨i + 1, by omega, FF7.pick [0, 1, 2], MM7⟩, ?_⟩
    rw [hc, hd]; omega
  · skip
    refine then_n (.inr ⟨(FF5.ev 0 rfl).trans (dec_f hlt), ?_⟩)
    refine then_n ?_
    refine wp_seq (rg_seq FF5 MM5 [o_] [5, 0, 1, 4] (fun Kt => Kt [(4, .bool true), (5, iN i), (0, .slice p n c), (1, .slice q n d)] O) (by kernel_rfl) (fun _ => by kernel_rfl) (fun ac8 wd8 FF8 MM8 => then_n ?_))
    refine wp_ret ?_
    repeat first | refine then_ret ?_ | refine inb_ret ?_
    exact (ret_fr FF8 0 Try.results11 rfl ⟨rfl, MM8.belowN H (fun _ hx => hx)⟩)
theorem kints_w (p : Option Addr) (n c : Nat) (q : Option Addr) (d : Nat) (F G : Nat → Int) (hn : n ≤ 1000000) (hE : ∀ i, i < n → F i = G i) (w : World) (hF : RowIn w p n (fun k9 => .int .i64 (F k9))) (hG : RowIn w q n (fun k9 => .int .i64 (G k9))) :
    Calls Try.prog 11 #[.slice p n c, .slice q n d] w fun e w' => e = .returned (.bool true) ∧ Below w.heap.size w w' := by
  obtain ⟨O, h1, h2, h3, h4⟩ := row_O2 hF hG
  exact kints_O O h2 p n c q d F G hn hE h3 h4 w h1
set_option maxRecDepth 100000 in
theorem ktexts_O (O : Blks) (hD : Distinct O) (p : Option Addr) (n c : Nat) (q : Option Addr) (d : Nat) (s r : Nat → List Nat) (hn : n ≤ 1000000) (hE : ∀ i, i < n → s i = r i) (hF : RowO O p n (fun k9 => sB (s k9))) (hG : RowO O q n (fun k9 => sB (r k9))) (w0 : World) (H : Has w0 O) :
    Calls Try.prog 16 #[.slice p n c, .slice q n d] w0 fun e w' => e = .returned (.bool true) ∧ Below w0.heap.size w0 w' := by
  refine enter_fr Try.func16 rfl Try.ntmps16 (by simp) fun ac (FF : Fr 26 ac [(0, .slice p n c), (1, .slice q n d)]) => ?_
  have MM : MemS (fun k => k < w0.heap.size ∧ ∀ x ∈ O, x.1 ≠ k) w0 w0 O [] := MemS.startN H hD
  refine wp_seq (rg_seq FF MM [o_] [0, 1, 4] (fun Kt => Kt [(4, .bool false), (0, .slice p n c), (1, .slice q n d)] O) (by kernel_rfl) (fun _ => by kernel_rfl) (fun ac1 wd1 FF1 MM1 => then_n ?_))
  refine wp_seq ?_
  refine wp_seq (rg_seq FF1 MM1 [o_, o_, o_, o_, w_ 3] [4, 0, 1, 10] (fun Kt => ¬ (n ≠ n) ∧ Kt [(10, .bool false), (4, .bool false), (0, .slice p n c), (1, .slice q n d)] O) (by kernel_rfl) (fun _ => by kernel_rfl) (⟨(fun h => h rfl), fun ac2 wd2 FF2 MM2 => then_n ?_⟩))
  refine wp_cond_false (FF2.ev 0 rfl) ?_
  refine wp_skip ?_
  refine then_n ?_
  refine wp_seq ?_
  refine wp_seq (rg_seq FF2 MM2 [o_] [4, 0, 1, 5] (fun Kt => Kt [(5, iN 0), (4, .bool false), (0, .slice p n c), (1, .slice q n d)] O) (by kernel_rfl) (fun _ => by kernel_rfl) (fun ac3 wd3 FF3 MM3 => then_n ?_))
  refine wp_for2 (fun a' w' => ∃ i : Nat, i ≤ n ∧ Fr 26 a' [(5, iN i), (0, .slice p n c), (1, .slice q n d)] ∧ MemS (fun k => k < w0.heap.size ∧ ∀ x ∈ O, x.1 ≠ k) w0 w' O []) (fun a' _ => (n - cnt 5 a').toNat) ⟨0, Nat.zero_le _, FF3.pick [0, 2, 3], MM3⟩ ?_
  rintro ac4 wd4 ⟨i, hi, FF4, MM4⟩
  have hc := cnt_of (FF4.get 0 rfl)
  refine rg_seq FF4 MM4 [o_, o_, o_, o_] [5, 0, 1, 14] (fun Kt => Kt [(14, .bool (decide (i < n))), (5, iN i), (0, .slice p n c), (1, .slice q n d)] O) (by kernel_rfl) (fun _ => by kernel_rfl) (fun ac5 wd5 FF5 MM5 => ?_)
  by_cases hlt : i < n
  · skip
    refine then_n (.inl ⟨(FF5.ev 0 rfl).trans (dec_t hlt), ?_⟩)
    refine wp_seq (rg_draw FF5 MM5 [.inl (.slice p n c), .inl (iN i), .inl (.pointer (some ⟨gOf p, oOf p + i, none⟩)), .inl (sB (s i)), .inl (.slice q n d), .inl (iN i), .inl (.pointer (some ⟨gOf q, oOf q + i, none⟩)), .inl (sB (r i)), .inl (.bool false)] [] [o_, o_, f_ (.pointer (some ⟨gOf p, oOf p + i, none⟩)), f_ (sB (s i)), o_, o_, f_ (.pointer (some ⟨gOf q, oOf q + i, none⟩)), f_ (sB (r i)), w_ 3] [] [5, 0, 1, 25] (fun nb => [RunV Try.prog [(17, .slice p n c), (18, iN i), (14, .bool (decide (i < n))), (5, iN i), (0, .slice p n c), (1, .slice q n d)] O (opAt Try.f16 6 2) (.pointer (some ⟨gOf p, oOf p + i, none⟩)), RunV Try.prog [(19, .pointer (some ⟨gOf p, oOf p + i, none⟩)), (14, .bool (decide (i < n))), (5, iN i), (0, .slice p n c), (1, .slice q n d)] O (opAt Try.f16 6 3) (sB (s i)), RunV Try.prog [(21, .slice q n d), (22, iN i), (14, .bool (decide (i < n))), (5, iN i), (0, .slice p n c), (1, .slice q n d)] O (opAt Try.f16 6 6) (.pointer (some ⟨gOf q, oOf q + i, none⟩)), RunV Try.prog [(23, .pointer (some ⟨gOf q, oOf q + i, none⟩)), (14, .bool (decide (i < n))), (5, iN i), (0, .slice p n c), (1, .slice q n d)] O (opAt Try.f16 6 7) (sB (r i)), ¬ (bs (s i) ≠ bs (r i))]) (fun nb Kt => Kt [(25, .bool false), (5, iN i), (0, .slice p n c), (1, .slice q n d)] O) (by kernel_rfl) (by kernel_rfl) (by kernel_rfl) (fun _ => by kernel_rfl) (fun _ _ => by kernel_rfl) trivial (fun nb => ⟨(rowX_addr (x := (.tmp 17)) (y := (.tmp 18)) (k := 1) (i := i) (by kernel_rfl) rfl rfl Try.underlying24 (by kernel_rfl) hF (by omega) (by omega)), (rowX_load (x := (.tmp 19)) (j := i) (by kernel_rfl) rfl Try.underlying9 rfl hF (fun _ hx => hx) (by omega) rfl), (rowX_addr (x := (.tmp 21)) (y := (.tmp 22)) (k := 1) (i := i) (by kernel_rfl) rfl rfl Try.underlying24 (by kernel_rfl) hG (by omega) (by omega)), (rowX_load (x := (.tmp 23)) (j := i) (by kernel_rfl) rfl Try.underlying9 rfl hG (fun _ hx => hx) (by omega) rfl), (fun h => h (congrArg bs (hE i hlt))), trivial⟩) (fun nb => fun ac6 wd6 FF6 MM6 => then_n ?_))
    refine wp_cond_false (FF6.ev 0 rfl) ?_
    refine wp_skip ?_
    refine inb_n (then_n ?_)
    refine rg_seq FF6 MM6 [o_, o_, o_] [5, 0, 1] (fun Kt => i + 1 < 9223372036854775808 ∧ Kt [(5, iN (i + 1)), (0, .slice p n c), (1, .slice q n d)] O) (by kernel_rfl) (fun _ => by kernel_rfl) (⟨(by omega), fun ac7 wd7 FF7 MM7 => ?_⟩)
    have hd := cnt_of (FF7.get 0 rfl)
    refine then_n ⟨⟨i + 1, by omega, FF7.pick [0, 1, 2], MM7⟩, ?_⟩
    rw [hc, hd]; omega
  · skip
    refine then_n (.inr ⟨(FF5.ev 0 rfl).trans (dec_f hlt), ?_⟩)
    refine then_n ?_
    refine wp_seq (rg_seq FF5 MM5 [o_] [5, 0, 1, 4] (fun Kt => Kt [(4, .bool true), (5, iN i), (0, .slice p n c), (1, .slice q n d)] O) (by kernel_rfl) (fun _ => by kernel_rfl) (fun ac8 wd8 FF8 MM8 => then_n ?_))
    refine wp_ret ?_
    repeat first | refine then_ret ?_ | refine inb_ret ?_
    exact (ret_fr FF8 0 Try.results16 rfl ⟨rfl, MM8.belowN H (fun _ hx => hx)⟩)
theorem ktexts_w (p : Option Addr) (n c : Nat) (q : Option Addr) (d : Nat) (s r : Nat → List Nat) (hn : n ≤ 1000000) (hE : ∀ i, i < n → s i = r i) (w : World) (hF : RowIn w p n (fun k9 => sB (s k9))) (hG : RowIn w q n (fun k9 => sB (r k9))) :
    Calls Try.prog 16 #[.slice p n c, .slice q n d] w fun e w' => e = .returned (.bool true) ∧ Below w.heap.size w w' := by
  obtain ⟨O, h1, h2, h3, h4⟩ := row_O2 hF hG
  exact ktexts_O O h2 p n c q d s r hn hE h3 h4 w h1
/-- A row of numbers that was made. -/
def NewF (n : Nat) (F : Nat → Value) (T : TypeId) (w w' : World) (v : Value) : Prop := ∃ g, v = .slice (some ⟨g, 0, none⟩) n n ∧ Below w.heap.size w w' ∧ w.heap.size ≤ g ∧ w'.heap[g]? = some (.cells (fc n F) T)
set_option maxRecDepth 100000 in
theorem inrow_any (n : Nat) (hn : n ≤ 1000000) (w0 : World) : Calls Try.prog 20 #[iN n] w0 fun e w' => ∃ v, e = .returned v ∧ NewF n (fun k9 => iN k9) 3 w0 w' v := by
  refine enter_fr Try.func20 rfl Try.ntmps20 (by simp) fun ac (FF : Fr 18 ac [(0, iN n)]) => ?_
  have MM := MemS.start w0
  refine wp_seq (rg_seq FF MM [o_] [0, 2] (fun Kt => Kt [(2, .slice none 0 0), (0, iN n)] []) (by kernel_rfl) (fun _ => by kernel_rfl) (fun ac1 wd1 FF1 MM1 => then_n ?_))
  refine wp_seq (rg_seq FF1 MM1 [o_, n_ (.slice none n n) (.cells (fc n (fun k9 => iN 0)) 3), o_] [2, 3] (fun Kt => RunN Try.prog [(5, iN n), (2, .slice none 0 0), (0, iN n)] [] (opAt Try.f20 1 1) (mkOf (.slice none n n)) (.cells (fc n (fun k9 => iN 0)) 3) ∧ ∀ bl, Kt [(3, .slice (some ⟨bl, 0, none⟩) n n), (2, .slice none 0 0)] [(bl, .cells (fc n (fun k9 => iN 0)) 3)]) (by kernel_rfl) (fun _ => by kernel_rfl) (⟨(makeF_ok (t := 23) (e := 3) (p := (.tmp 5)) (q := (.tmp 5)) (bb := 8) (z := iN 0) (by kernel_rfl) rfl rfl Try.underlying23 (by kernel_rfl) rfl (by have := hn; omega) (by have := hn; omega)), fun bl => fun ac2 wd2 FF2 MM2 => then_n ?_⟩))
  have MMr3 : MemS (fun k => k < w0.heap.size) w0 wd2 [(bl, .cells (fc n (fun k9 => iN (if k9 < 0 then k9 else 0))) 3)] [] := by rw [show fc n (fun k9 => iN (if k9 < 0 then k9 else 0)) = fc n (fun k9 => iN 0) from fc_cong fun k _ => vI (by rw [if_neg (Nat.not_lt_zero _)])]; exact MM2
  refine wp_seq ?_
  refine wp_seq (rg_seq FF2 MMr3 [o_, o_, o_] [3, 2, 8, 9] (fun Kt => Kt [(9, iN 0), (8, iN n), (3, .slice (some ⟨bl, 0, none⟩) n n), (2, .slice none 0 0)] [(bl, .cells (fc n (fun k9 => iN (if k9 < 0 then k9 else 0))) 3)]) (by kernel_rfl) (fun _ => by kernel_rfl) (fun ac4 wd4 FF4 MM4 => then_n ?_))
  refine wp_for (fun a' w' => ∃ i : Nat, i ≤ n ∧ Fr 18 a' [(9, iN i), (8, iN n), (3, .slice (some ⟨bl, 0, none⟩) n n)] ∧ MemS (fun k => k < w0.heap.size) w0 w' [(bl, .cells (fc n (fun k9 => iN (if k9 < i then k9 else 0))) 3)] []) (fun a' _ => (n - cnt 9 a').toNat) ⟨0, Nat.zero_le _, FF4.pick [0, 1, 2], MM4⟩ ?_
  rintro ac5 wd5 ⟨i, hi, FF5, MM5⟩
  have hc := cnt_of (FF5.get 0 rfl)
  refine rg_seq FF5 MM5 [o_] [9, 8, 3, 10] (fun Kt => Kt [(10, .bool (decide (i < n))), (9, iN i), (8, iN n), (3, .slice (some ⟨bl, 0, none⟩) n n)] [(bl, .cells (fc n (fun k9 => iN (if k9 < i then k9 else 0))) 3)]) (by kernel_rfl) (fun _ => by kernel_rfl) (fun ac6 wd6 FF6 MM6 => ?_)
  by_cases hlt : i < n
  · skip
    refine then_n (.inl ⟨(FF6.ev 0 rfl).trans (dec_t hlt), ?_⟩)
    refine wp_seq (rg_seq FF6 MM6 [o_, o_] [9, 8, 3, 4] (fun Kt => Kt [(4, iN i), (9, iN i), (8, iN n), (3, .slice (some ⟨bl, 0, none⟩) n n)] [(bl, .cells (fc n (fun k9 => iN (if k9 < i then k9 else 0))) 3)]) (by kernel_rfl) (fun _ => by kernel_rfl) (fun ac7 wd7 FF7 MM7 => then_n ?_))
    refine rg_seq FF7 MM7 [o_, o_, o_, w_ 1, s_ 0 (.cells (fc n (fun k9 => iN (if k9 < i + 1 then k9 else 0))) 3)] [4, 9, 8, 3] (fun Kt => i < n ∧ bl = bl ∧ i < (fc n (fun k9 => iN (if k9 < i then k9 else 0))).size ∧ (((0, 0)).2 = 0 ∨ i < ((0, 0)).1) ∧ (fc n (fun k9 => iN (if k9 < i then k9 else 0))).setIfInBounds i (iN i) = fc n (fun k9 => iN (if k9 < i + 1 then k9 else 0)) ∧ Kt [(4, iN i), (9, iN i), (8, iN n), (3, .slice (some ⟨bl, 0, none⟩) n n)] [(bl, .cells (fc n (fun k9 => iN (if k9 < i + 1 then k9 else 0))) 3)]) (by kernel_rfl) (fun _ => by kernel_rfl) (⟨(by omega), rfl, (by rw [fc_size]; omega), (.inl rfl), ((fc_set _ _ _ _).trans (fc_cong fun k _ => ite_int.trans (vI (by by_cases h : k = i <;> by_cases h2 : k < i <;> simp [h, h2] <;> omega)))), fun ac8 wd8 FF8 MM8 => ?_⟩)
    refine inb_n (then_n ?_)
    refine rg_seq FF8 MM8 [o_, o_] [4, 9, 8, 3] (fun Kt => i + 1 < 9223372036854775808 ∧ Kt [(9, iN (i + 1)), (4, iN i), (8, iN n), (3, .slice (some ⟨bl, 0, none⟩) n n)] [(bl, .cells (fc n (fun k9 => iN (if k9 < i + 1 then k9 else 0))) 3)]) (by kernel_rfl) (fun _ => by kernel_rfl) (⟨(by omega), fun ac9 wd9 FF9 MM9 => ?_⟩)
    have hd := cnt_of (FF9.get 0 rfl)
    refine then_n ⟨⟨i + 1, by omega, FF9.pick [0, 2, 3], MM9⟩, ?_⟩
    rw [hc, hd]; omega
  · skip
    refine then_n (.inr ⟨(FF6.ev 0 rfl).trans (dec_f hlt), ?_⟩)
    obtain rfl : n = i := by omega
    have MMr10 : MemS (fun k => k < w0.heap.size) w0 wd6 [(bl, .cells (fc n (fun k9 => iN k9)) 3)] [] := by rw [show fc n (fun k9 => iN k9) = fc n (fun k9 => iN (if k9 < n then k9 else 0)) from fc_cong fun k hk => vI (by rw [if_pos hk])]; exact MM6
    refine then_n ?_
    refine wp_seq (rg_seq FF6 MMr10 [o_, o_] [9, 8, 3, 2] (fun Kt => Kt [(2, .slice (some ⟨bl, 0, none⟩) n n), (9, iN n), (8, iN n), (3, .slice (some ⟨bl, 0, none⟩) n n)] [(bl, .cells (fc n (fun k9 => iN k9)) 3)]) (by kernel_rfl) (fun _ => by kernel_rfl) (fun ac11 wd11 FF11 MM11 => then_n ?_))
    refine wp_ret ?_
    repeat first | refine then_ret ?_ | refine inb_ret ?_
    exact (ret_fr FF11 0 Try.results20 rfl ⟨_, rfl, bl, rfl, MM11.below, MM11.fresh 0 rfl, MM11.get 0 rfl⟩)
set_option maxRecDepth 100000 in
theorem omay_yes (k : Nat) (h1 : k ≥ 1) (hk : k ≤ 16) (w0 : World) :
    Calls Try.prog 19 #[iN k] w0 fun e w' => e = .returned (.bool true) ∧ Below w0.heap.size w0 w' := by
  refine enter_fr Try.func19 rfl Try.ntmps19 (by simp) fun ac (FF : Fr 9 ac [(0, iN k)]) => ?_
  have MM := MemS.start w0
  refine wp_seq (rg_seq FF MM [o_] [0, 2] (fun Kt => Kt [(2, .bool false), (0, iN k)] []) (by kernel_rfl) (fun _ => by kernel_rfl) (fun ac1 wd1 FF1 MM1 => then_n ?_))
  refine wp_seq (rg_seq FF1 MM1 [o_, w_ 2, o_, o_, w_ 2, o_, o_] [2] (fun Kt => k ≥ 1 ∧ k ≤ 16 ∧ Kt [(2, .bool true)] []) (by kernel_rfl) (fun _ => by kernel_rfl) (⟨h1, hk, fun ac2 wd2 FF2 MM2 => then_n ?_⟩))
  refine wp_ret ?_
  repeat first | refine then_ret ?_ | refine inb_ret ?_
  exact (ret_fr FF2 0 Try.results19 rfl ⟨rfl, MM2.below⟩)
theorem seen_setB {F : Nat → Int} {i m : Nat} (h : F i = (m : Int)) (k : Nat) : (if k = m then Value.bool true else Value.bool (decide (seenN F i k = 1))) = Value.bool (decide (seenN F (i + 1) k = 1)) := by
  rw [← seen_set h k]
  split
  · exact (dec_t rfl).symm
  · rfl
set_option maxRecDepth 100000 in
theorem isord_O (O : Blks) (hD : Distinct O) (p : Option Addr) (n c : Nat) (F : Nat → Int) (hn : n ≤ 1000000) (b : Bool) (hb : b = true ↔ OrdZ n F) (hF : RowO O p n (fun k9 => .int .i64 (F k9))) (w0 : World) (H : Has w0 O) :
    Calls Try.prog 24 #[.slice p n c] w0 fun e w' => e = .returned (.bool b) ∧ Below w0.heap.size w0 w' := by
  refine enter_fr Try.func24 rfl Try.ntmps24 (by simp) fun ac (FF : Fr 33 ac [(0, .slice p n c)]) => ?_
  have MM : MemS (fun k => k < w0.heap.size ∧ ∀ x ∈ O, x.1 ≠ k) w0 w0 O [] := MemS.startN H hD
  refine wp_seq (rg_seq FF MM [o_] [0, 2] (fun Kt => Kt [(2, .bool false), (0, .slice p n c)] O) (by kernel_rfl) (fun _ => by kernel_rfl) (fun ac1 wd1 FF1 MM1 => then_n ?_))
  refine wp_seq (rg_seq FF1 MM1 [o_, o_, n_ (.slice none n n) (.cells (fc n (fun k9 => Value.bool false)) 4), o_] [2, 0, 3] (fun Kt => RunN Try.prog [(7, iN n), (6, .slice p n c), (2, .bool false), (0, .slice p n c)] O (opAt Try.f24 1 2) (mkOf (.slice none n n)) (.cells (fc n (fun k9 => Value.bool false)) 4) ∧ ∀ bs_, Kt [(3, .slice (some ⟨bs_, 0, none⟩) n n), (2, .bool false), (0, .slice p n c)] ((bs_, .cells (fc n (fun k9 => Value.bool false)) 4) :: O)) (by kernel_rfl) (fun _ => by kernel_rfl) (⟨(makeF_ok (t := 61) (e := 4) (p := (.tmp 7)) (q := (.tmp 7)) (bb := 1) (z := .bool false) (by kernel_rfl) rfl rfl Try.underlying61 (by kernel_rfl) rfl (by omega) (by omega)), fun bs_ => fun ac2 wd2 FF2 MM2 => then_n ?_⟩))
  have MMr3 : MemS (fun k => k < w0.heap.size ∧ ∀ x ∈ O, x.1 ≠ k) w0 wd2 ((bs_, .cells (fc n (fun k9 => Value.bool (decide (seenN F 0 k9 = 1)))) 4) :: O) [] := by rw [show fc n (fun k9 => Value.bool (decide (seenN F 0 k9 = 1))) = fc n (fun k9 => Value.bool false) from fc_cong fun k _ => dec_f (show ¬ (0 : Nat) = 1 by decide)]; exact MM2
  refine wp_seq ?_
  refine wp_seq (rg_seq FF2 MMr3 [o_, o_, o_] [3, 2, 0, 9, 10, 11] (fun Kt => Kt [(11, iN 0), (10, iN n), (9, .slice p n c), (3, .slice (some ⟨bs_, 0, none⟩) n n), (2, .bool false), (0, .slice p n c)] ((bs_, .cells (fc n (fun k9 => Value.bool (decide (seenN F 0 k9 = 1)))) 4) :: O)) (by kernel_rfl) (fun _ => by kernel_rfl) (fun ac4 wd4 FF4 MM4 => then_n ?_))
  refine wp_for (fun a' w' => ∃ i : Nat, i ≤ n ∧ (∀ j, j < i → (0 ≤ F j ∧ F j < n) ∧ ∀ k, k < j → F k ≠ F j) ∧ Fr 33 a' [(11, iN i), (10, iN n), (9, .slice p n c), (3, .slice (some ⟨bs_, 0, none⟩) n n), (0, .slice p n c)] ∧ MemS (fun k => k < w0.heap.size ∧ ∀ x ∈ O, x.1 ≠ k) w0 w' ((bs_, .cells (fc n (fun k9 => Value.bool (decide (seenN F i k9 = 1)))) 4) :: O) []) (fun a' _ => (n - cnt 11 a').toNat) ⟨0, Nat.zero_le _, (fun j hj => absurd hj (Nat.not_lt_zero _)), FF4.pick [0, 1, 2, 3, 5], MM4⟩ ?_
  rintro ac5 wd5 ⟨i, hi, hG, FF5, MM5⟩
  have hc := cnt_of (FF5.get 0 rfl)
  refine rg_seq FF5 MM5 [o_] [11, 10, 9, 3, 0, 12] (fun Kt => Kt [(12, .bool (decide (i < n))), (11, iN i), (10, iN n), (9, .slice p n c), (3, .slice (some ⟨bs_, 0, none⟩) n n), (0, .slice p n c)] ((bs_, .cells (fc n (fun k9 => Value.bool (decide (seenN F i k9 = 1)))) 4) :: O)) (by kernel_rfl) (fun _ => by kernel_rfl) (fun ac6 wd6 FF6 MM6 => ?_)
  by_cases hlt : i < n
  · skip
    refine then_n (.inl ⟨(FF6.ev 0 rfl).trans (dec_t hlt), ?_⟩)
    refine wp_seq (rg_seq FF6 MM6 [f_ (.pointer (some ⟨gOf p, oOf p + i, none⟩)), f_ (.int .i64 (F i : Int)), o_] [11, 10, 9, 3, 0, 5] (fun Kt => RunV Try.prog [(12, .bool (decide (i < n))), (11, iN i), (10, iN n), (9, .slice p n c), (3, .slice (some ⟨bs_, 0, none⟩) n n), (0, .slice p n c)] ((bs_, .cells (fc n (fun k9 => Value.bool (decide (seenN F i k9 = 1)))) 4) :: O) (opAt Try.f24 4 0) (.pointer (some ⟨gOf p, oOf p + i, none⟩)) ∧ RunV Try.prog [(13, .pointer (some ⟨gOf p, oOf p + i, none⟩)), (12, .bool (decide (i < n))), (11, iN i), (10, iN n), (9, .slice p n c), (3, .slice (some ⟨bs_, 0, none⟩) n n), (0, .slice p n c)] ((bs_, .cells (fc n (fun k9 => Value.bool (decide (seenN F i k9 = 1)))) 4) :: O) (opAt Try.f24 4 1) (.int .i64 (F i : Int)) ∧ Kt [(5, .int .i64 (F i : Int)), (11, iN i), (10, iN n), (9, .slice p n c), (3, .slice (some ⟨bs_, 0, none⟩) n n), (0, .slice p n c)] ((bs_, .cells (fc n (fun k9 => Value.bool (decide (seenN F i k9 = 1)))) 4) :: O)) (by kernel_rfl) (fun _ => by kernel_rfl) (⟨(rowX_addr (x := (.tmp 9)) (y := (.tmp 11)) (k := 1) (i := i) (by kernel_rfl) rfl rfl Try.underlying23 (by kernel_rfl) hF (by omega) (by omega)), (rowX_load (x := (.tmp 13)) (j := i) (by kernel_rfl) rfl Try.underlying3 rfl hF (fun _ hx => List.mem_cons_of_mem _ (hx)) (by omega) rfl), fun ac7 wd7 FF7 MM7 => then_n ?_⟩))
    refine wp_seq ?_
    by_cases a1 : F i < ((0 : Nat) : Int)
    · skip
      have hno : ¬ OrdZ n F := fun h => by have := (h i hlt).1; omega
      refine wp_seq (rg_seq FF7 MM7 [o_, w_ 6, o_, o_, o_, o_, o_, o_, o_, o_, o_, o_, o_, o_] [5, 11, 10, 9, 3, 0, 28] (fun Kt => (F i) < ((0 : Nat) : Int) ∧ Kt [(28, .bool true), (5, .int .i64 (F i : Int)), (11, iN i), (10, iN n), (9, .slice p n c), (3, .slice (some ⟨bs_, 0, none⟩) n n), (0, .slice p n c)] ((bs_, .cells (fc n (fun k9 => Value.bool (decide (seenN F i k9 = 1)))) 4) :: O)) (by kernel_rfl) (fun _ => by kernel_rfl) (⟨a1, fun ac8 wd8 FF8 MM8 => then_n ?_⟩))
      refine wp_cond_true (FF8.ev 0 rfl) ?_
      refine wp_seq (rg_seq FF8 MM8 [o_] [5, 11, 10, 9, 3, 0, 2] (fun Kt => Kt [(2, .bool false), (5, .int .i64 (F i : Int)), (11, iN i), (10, iN n), (9, .slice p n c), (3, .slice (some ⟨bs_, 0, none⟩) n n), (0, .slice p n c)] ((bs_, .cells (fc n (fun k9 => Value.bool (decide (seenN F i k9 = 1)))) 4) :: O)) (by kernel_rfl) (fun _ => by kernel_rfl) (fun ac9 wd9 FF9 MM9 => then_n ?_))
      refine wp_ret ?_
      repeat first | refine then_ret ?_ | refine inb_ret ?_
      exact (ret_fr FF9 0 Try.results24 rfl ⟨congrArg (fun b => Ending.returned (Value.bool b)) (Bool.eq_false_iff.2 (fun h => hno (hb.1 h))).symm, MM9.belowN H (fun _ hx => List.mem_cons_of_mem _ (hx))⟩)
    · by_cases a2 : F i ≥ ((n : Nat) : Int)
      · skip
        have hno : ¬ OrdZ n F := fun h => by have := (h i hlt).1; omega
        refine wp_seq (rg_seq FF7 MM7 [o_, u_ 4 (.bool false), o_, o_, o_, o_, w_ 6, o_, o_, o_, o_, o_, o_, o_] [5, 11, 10, 9, 3, 0, 28] (fun Kt => Value.bool (decide ((F i) < ((0 : Nat) : Int))) = .bool false ∧ (F i) ≥ ((n : Nat) : Int) ∧ Kt [(28, .bool true), (5, .int .i64 (F i : Int)), (11, iN i), (10, iN n), (9, .slice p n c), (3, .slice (some ⟨bs_, 0, none⟩) n n), (0, .slice p n c)] ((bs_, .cells (fc n (fun k9 => Value.bool (decide (seenN F i k9 = 1)))) 4) :: O)) (by kernel_rfl) (fun _ => by kernel_rfl) (⟨(dec_f a1), a2, fun ac10 wd10 FF10 MM10 => then_n ?_⟩))
        refine wp_cond_true (FF10.ev 0 rfl) ?_
        refine wp_seq (rg_seq FF10 MM10 [o_] [5, 11, 10, 9, 3, 0, 2] (fun Kt => Kt [(2, .bool false), (5, .int .i64 (F i : Int)), (11, iN i), (10, iN n), (9, .slice p n c), (3, .slice (some ⟨bs_, 0, none⟩) n n), (0, .slice p n c)] ((bs_, .cells (fc n (fun k9 => Value.bool (decide (seenN F i k9 = 1)))) 4) :: O)) (by kernel_rfl) (fun _ => by kernel_rfl) (fun ac11 wd11 FF11 MM11 => then_n ?_))
        refine wp_ret ?_
        repeat first | refine then_ret ?_ | refine inb_ret ?_
        exact (ret_fr FF11 0 Try.results24 rfl ⟨congrArg (fun b => Ending.returned (Value.bool b)) (Bool.eq_false_iff.2 (fun h => hno (hb.1 h))).symm, MM11.belowN H (fun _ hx => List.mem_cons_of_mem _ (hx))⟩)
      · obtain ⟨m, hm⟩ := Int.eq_ofNat_of_zero_le (a := F i) (by omega)
        have hm : F i = (m : Int) := hm
        have hmn : m < n := by omega
        by_cases a3 : seenN F i m = 1
        · skip
          have hno := seen_yes hm a3 hlt
          refine wp_seq (rg_seq FF7 MM7 [o_, u_ 4 (.bool false), o_, o_, o_, o_, u_ 4 (.bool false), o_, o_, o_, t_ (iN m), w_ 1, l_ 0 (.bool true), o_] [5, 11, 10, 9, 3, 0, 28] (fun Kt => Value.bool (decide ((F i) < ((0 : Nat) : Int))) = .bool false ∧ Value.bool (decide ((F i) ≥ ((n : Nat) : Int))) = .bool false ∧ Value.int .i64 (F i : Int) = iN m ∧ m < n ∧ bs_ = bs_ ∧ (fc n (fun k9 => Value.bool (decide (seenN F i k9 = 1))))[m]? = some (.bool true) ∧ Kt [(28, .bool true), (5, .int .i64 (F i : Int)), (11, iN i), (10, iN n), (9, .slice p n c), (3, .slice (some ⟨bs_, 0, none⟩) n n), (0, .slice p n c)] ((bs_, .cells (fc n (fun k9 => Value.bool (decide (seenN F i k9 = 1)))) 4) :: O)) (by kernel_rfl) (fun _ => by kernel_rfl) (⟨(dec_f a1), (dec_f a2), (vZ hm), hmn, rfl, ((fc_get _ hmn).trans (congrArg some (dec_t a3))), fun ac12 wd12 FF12 MM12 => then_n ?_⟩))
          refine wp_cond_true (FF12.ev 0 rfl) ?_
          refine wp_seq (rg_seq FF12 MM12 [o_] [5, 11, 10, 9, 3, 0, 2] (fun Kt => Kt [(2, .bool false), (5, .int .i64 (F i : Int)), (11, iN i), (10, iN n), (9, .slice p n c), (3, .slice (some ⟨bs_, 0, none⟩) n n), (0, .slice p n c)] ((bs_, .cells (fc n (fun k9 => Value.bool (decide (seenN F i k9 = 1)))) 4) :: O)) (by kernel_rfl) (fun _ => by kernel_rfl) (fun ac13 wd13 FF13 MM13 => then_n ?_))
          refine wp_ret ?_
          repeat first | refine then_ret ?_ | refine inb_ret ?_
          exact (ret_fr FF13 0 Try.results24 rfl ⟨congrArg (fun b => Ending.returned (Value.bool b)) (Bool.eq_false_iff.2 (fun h => hno (hb.1 h))).symm, MM13.belowN H (fun _ hx => List.mem_cons_of_mem _ (hx))⟩)
        · skip
          have hgi := seen_no (n := n) hm a3 hmn
          refine wp_seq (rg_seq FF7 MM7 [o_, u_ 4 (.bool false), o_, o_, o_, o_, u_ 4 (.bool false), o_, o_, o_, t_ (iN m), w_ 1, l_ 0 (.bool false), o_] [5, 11, 10, 9, 3, 0, 28] (fun Kt => Value.bool (decide ((F i) < ((0 : Nat) : Int))) = .bool false ∧ Value.bool (decide ((F i) ≥ ((n : Nat) : Int))) = .bool false ∧ Value.int .i64 (F i : Int) = iN m ∧ m < n ∧ bs_ = bs_ ∧ (fc n (fun k9 => Value.bool (decide (seenN F i k9 = 1))))[m]? = some (.bool false) ∧ Kt [(28, .bool false), (5, .int .i64 (F i : Int)), (11, iN i), (10, iN n), (9, .slice p n c), (3, .slice (some ⟨bs_, 0, none⟩) n n), (0, .slice p n c)] ((bs_, .cells (fc n (fun k9 => Value.bool (decide (seenN F i k9 = 1)))) 4) :: O)) (by kernel_rfl) (fun _ => by kernel_rfl) (⟨(dec_f a1), (dec_f a2), (vZ hm), hmn, rfl, ((fc_get _ hmn).trans (congrArg some (dec_f a3))), fun ac14 wd14 FF14 MM14 => then_n ?_⟩))
          refine wp_cond_false (FF14.ev 0 rfl) ?_
          refine wp_skip ?_
          refine then_n ?_
          refine rg_seq FF14 MM14 [o_, t_ (iN m), w_ 1, s_ 0 (.cells (fc n (fun k9 => Value.bool (decide (seenN F (i + 1) k9 = 1)))) 4)] [5, 11, 10, 9, 3, 0] (fun Kt => Value.int .i64 (F i : Int) = iN m ∧ m < n ∧ bs_ = bs_ ∧ m < (fc n (fun k9 => Value.bool (decide (seenN F i k9 = 1)))).size ∧ (((0, 0)).2 = 0 ∨ m < ((0, 0)).1) ∧ (fc n (fun k9 => Value.bool (decide (seenN F i k9 = 1)))).setIfInBounds m (.bool true) = fc n (fun k9 => Value.bool (decide (seenN F (i + 1) k9 = 1))) ∧ Kt [(5, .int .i64 (F i : Int)), (11, iN i), (10, iN n), (9, .slice p n c), (3, .slice (some ⟨bs_, 0, none⟩) n n), (0, .slice p n c)] ((bs_, .cells (fc n (fun k9 => Value.bool (decide (seenN F (i + 1) k9 = 1)))) 4) :: O)) (by kernel_rfl) (fun _ => by kernel_rfl) (⟨(vZ hm), hmn, rfl, (by rw [fc_size]; exact hmn), (.inl rfl), ((fc_set _ _ _ _).trans (fc_cong fun k _ => seen_setB hm k)), fun ac15 wd15 FF15 MM15 => ?_⟩)
          refine inb_n (then_n ?_)
          refine rg_seq FF15 MM15 [o_, o_] [5, 11, 10, 9, 3, 0] (fun Kt => i + 1 < 9223372036854775808 ∧ Kt [(11, iN (i + 1)), (5, .int .i64 (F i : Int)), (10, iN n), (9, .slice p n c), (3, .slice (some ⟨bs_, 0, none⟩) n n), (0, .slice p n c)] ((bs_, .cells (fc n (fun k9 => Value.bool (decide (seenN F (i + 1) k9 = 1)))) 4) :: O)) (by kernel_rfl) (fun _ => by kernel_rfl) (⟨(by omega), fun ac16 wd16 FF16 MM16 => ?_⟩)
          have hd := cnt_of (FF16.get 0 rfl)
          refine then_n ⟨⟨i + 1, by omega, (fun j hj => (Nat.lt_or_ge j i).elim (hG j) (fun h => (show i = j by omega) ▸ hgi)), FF16.pick [0, 2, 3, 4, 5], MM16⟩, ?_⟩
          rw [hc, hd]; omega
  · skip
    refine then_n (.inr ⟨(FF6.ev 0 rfl).trans (dec_f hlt), ?_⟩)
    have hO : OrdZ n F := fun j hj => hG j (by omega)
    refine then_n ?_
    refine wp_seq (rg_seq FF6 MM6 [o_] [11, 10, 9, 3, 0, 2] (fun Kt => Kt [(2, .bool true), (11, iN i), (10, iN n), (9, .slice p n c), (3, .slice (some ⟨bs_, 0, none⟩) n n), (0, .slice p n c)] ((bs_, .cells (fc n (fun k9 => Value.bool (decide (seenN F i k9 = 1)))) 4) :: O)) (by kernel_rfl) (fun _ => by kernel_rfl) (fun ac17 wd17 FF17 MM17 => then_n ?_))
    refine wp_ret ?_
    repeat first | refine then_ret ?_ | refine inb_ret ?_
    exact (ret_fr FF17 0 Try.results24 rfl ⟨congrArg (fun b => Ending.returned (Value.bool b)) (hb.2 hO).symm, MM17.belowN H (fun _ hx => List.mem_cons_of_mem _ (hx))⟩)
theorem isord_w (p : Option Addr) (n c : Nat) (F : Nat → Int) (hn : n ≤ 1000000) (b : Bool) (hb : b = true ↔ OrdZ n F) (w : World) (hF : RowIn w p n (fun k9 => .int .i64 (F k9))) :
    Calls Try.prog 24 #[.slice p n c] w fun e w' => e = .returned (.bool b) ∧ Below w.heap.size w w' := by
  obtain ⟨O, h1, h2, h3⟩ := row_O hF
  exact isord_O O h2 p n c F hn b hb h3 w h1
set_option maxRecDepth 100000 in
theorem rmay_O (O : Blks) (hD : Distinct O) (p : Option Addr) (n c : Nat) (F : Nat → Int) (hn : n ≤ 1000000) (b : Bool) (hb : b = true ↔ OrdZ n F) (hF : RowO O p n (fun k9 => .int .i64 (F k9))) (w0 : World) (H : Has w0 O) :
    Calls Try.prog 13 #[.slice p n c] w0 fun e w' => e = .returned (.bool b) ∧ Below w0.heap.size w0 w' := by
  refine enter_fr Try.func13 rfl Try.ntmps13 (by simp) fun ac (FF : Fr 44 ac [(0, .slice p n c)]) => ?_
  have MM : MemS (fun k => k < w0.heap.size ∧ ∀ x ∈ O, x.1 ≠ k) w0 w0 O [] := MemS.startN H hD
  refine wp_seq (rg_seq FF MM [o_] [0, 2] (fun Kt => Kt [(2, .bool false), (0, .slice p n c)] O) (by kernel_rfl) (fun _ => by kernel_rfl) (fun ac1 wd1 FF1 MM1 => then_n ?_))
  refine wp_seq (rg_seq FF1 MM1 [o_, o_, n_ (.slice none n n) (.cells (fc n (fun k9 => iN 0)) 3), o_] [2, 0, 3] (fun Kt => RunN Try.prog [(6, iN n), (5, .slice p n c), (2, .bool false), (0, .slice p n c)] O (opAt Try.f13 1 2) (mkOf (.slice none n n)) (.cells (fc n (fun k9 => iN 0)) 3) ∧ ∀ bs_, Kt [(3, .slice (some ⟨bs_, 0, none⟩) n n), (2, .bool false), (0, .slice p n c)] ((bs_, .cells (fc n (fun k9 => iN 0)) 3) :: O)) (by kernel_rfl) (fun _ => by kernel_rfl) (⟨(makeF_ok (t := 23) (e := 3) (p := (.tmp 6)) (q := (.tmp 6)) (bb := 8) (z := iN 0) (by kernel_rfl) rfl rfl Try.underlying23 (by kernel_rfl) rfl (by omega) (by omega)), fun bs_ => fun ac2 wd2 FF2 MM2 => then_n ?_⟩))
  have MMr3 : MemS (fun k => k < w0.heap.size ∧ ∀ x ∈ O, x.1 ≠ k) w0 wd2 ((bs_, .cells (fc n (fun k9 => iN (seenN F 0 k9))) 3) :: O) [] := by rw [show fc n (fun k9 => iN (seenN F 0 k9)) = fc n (fun k9 => iN 0) from fc_cong fun k _ => rfl]; exact MM2
  refine wp_seq ?_
  refine wp_seq (rg_seq FF2 MMr3 [o_] [3, 2, 0, 4] (fun Kt => Kt [(4, iN 0), (3, .slice (some ⟨bs_, 0, none⟩) n n), (2, .bool false), (0, .slice p n c)] ((bs_, .cells (fc n (fun k9 => iN (seenN F 0 k9))) 3) :: O)) (by kernel_rfl) (fun _ => by kernel_rfl) (fun ac4 wd4 FF4 MM4 => then_n ?_))
  refine wp_for2 (fun a' w' => ∃ i : Nat, i ≤ n ∧ (∀ j, j < i → (0 ≤ F j ∧ F j < n) ∧ ∀ k, k < j → F k ≠ F j) ∧ Fr 44 a' [(4, iN i), (3, .slice (some ⟨bs_, 0, none⟩) n n), (0, .slice p n c)] ∧ MemS (fun k => k < w0.heap.size ∧ ∀ x ∈ O, x.1 ≠ k) w0 w' ((bs_, .cells (fc n (fun k9 => iN (seenN F i k9))) 3) :: O) []) (fun a' _ => (n - cnt 4 a').toNat) ⟨0, Nat.zero_le _, (fun j hj => absurd hj (Nat.not_lt_zero _)), FF4.pick [0, 1, 3], MM4⟩ ?_
  rintro ac5 wd5 ⟨i, hi, hG, FF5, MM5⟩
  have hc := cnt_of (FF5.get 0 rfl)
  refine rg_seq FF5 MM5 [o_, o_, o_, o_] [4, 3, 0, 11] (fun Kt => Kt [(11, .bool (decide (i < n))), (4, iN i), (3, .slice (some ⟨bs_, 0, none⟩) n n), (0, .slice p n c)] ((bs_, .cells (fc n (fun k9 => iN (seenN F i k9))) 3) :: O)) (by kernel_rfl) (fun _ => by kernel_rfl) (fun ac6 wd6 FF6 MM6 => ?_)
  by_cases hlt : i < n
  · skip
    refine then_n (.inl ⟨(FF6.ev 0 rfl).trans (dec_t hlt), ?_⟩)
    refine wp_seq ?_
    by_cases a1 : F i < ((0 : Nat) : Int)
    · skip
      have hno : ¬ OrdZ n F := fun h => by have := (h i hlt).1; omega
      refine wp_seq (rg_seq FF6 MM6 [o_, o_, f_ (.pointer (some ⟨gOf p, oOf p + i, none⟩)), f_ (.int .i64 (F i : Int)), w_ 6, o_, o_, o_, o_, o_, o_, o_, o_, o_, o_, o_, o_, o_, o_, o_, o_, o_, o_, o_] [4, 3, 0, 37] (fun Kt => RunV Try.prog [(15, iN i), (14, .slice p n c), (11, .bool (decide (i < n))), (4, iN i), (3, .slice (some ⟨bs_, 0, none⟩) n n), (0, .slice p n c)] ((bs_, .cells (fc n (fun k9 => iN (seenN F i k9))) 3) :: O) (opAt Try.f13 5 2) (.pointer (some ⟨gOf p, oOf p + i, none⟩)) ∧ RunV Try.prog [(16, .pointer (some ⟨gOf p, oOf p + i, none⟩)), (15, iN i), (14, .slice p n c), (11, .bool (decide (i < n))), (4, iN i), (3, .slice (some ⟨bs_, 0, none⟩) n n), (0, .slice p n c)] ((bs_, .cells (fc n (fun k9 => iN (seenN F i k9))) 3) :: O) (opAt Try.f13 5 3) (.int .i64 (F i : Int)) ∧ (F i) < ((0 : Nat) : Int) ∧ Kt [(37, .bool true), (4, iN i), (3, .slice (some ⟨bs_, 0, none⟩) n n), (0, .slice p n c)] ((bs_, .cells (fc n (fun k9 => iN (seenN F i k9))) 3) :: O)) (by kernel_rfl) (fun _ => by kernel_rfl) (⟨(rowX_addr (x := (.tmp 14)) (y := (.tmp 15)) (k := 1) (i := i) (by kernel_rfl) rfl rfl Try.underlying23 (by kernel_rfl) hF (by omega) (by omega)), (rowX_load (x := (.tmp 16)) (j := i) (by kernel_rfl) rfl Try.underlying3 rfl hF (fun _ hx => List.mem_cons_of_mem _ (hx)) (by omega) rfl), a1, fun ac7 wd7 FF7 MM7 => then_n ?_⟩))
      refine wp_cond_true (FF7.ev 0 rfl) ?_
      refine wp_seq (rg_seq FF7 MM7 [o_] [4, 3, 0, 2] (fun Kt => Kt [(2, .bool false), (4, iN i), (3, .slice (some ⟨bs_, 0, none⟩) n n), (0, .slice p n c)] ((bs_, .cells (fc n (fun k9 => iN (seenN F i k9))) 3) :: O)) (by kernel_rfl) (fun _ => by kernel_rfl) (fun ac8 wd8 FF8 MM8 => then_n ?_))
      refine wp_ret ?_
      repeat first | refine then_ret ?_ | refine inb_ret ?_
      exact (ret_fr FF8 0 Try.results13 rfl ⟨congrArg (fun b => Ending.returned (Value.bool b)) (Bool.eq_false_iff.2 (fun h => hno (hb.1 h))).symm, MM8.belowN H (fun _ hx => List.mem_cons_of_mem _ (hx))⟩)
    · by_cases a2 : F i ≥ ((n : Nat) : Int)
      · skip
        have hno : ¬ OrdZ n F := fun h => by have := (h i hlt).1; omega
        refine wp_seq (rg_seq FF6 MM6 [o_, o_, f_ (.pointer (some ⟨gOf p, oOf p + i, none⟩)), f_ (.int .i64 (F i : Int)), u_ 4 (.bool false), o_, o_, o_, f_ (.pointer (some ⟨gOf p, oOf p + i, none⟩)), f_ (.int .i64 (F i : Int)), o_, o_, w_ 6, o_, o_, o_, o_, o_, o_, o_, o_, o_, o_, o_] [4, 3, 0, 37] (fun Kt => RunV Try.prog [(15, iN i), (14, .slice p n c), (11, .bool (decide (i < n))), (4, iN i), (3, .slice (some ⟨bs_, 0, none⟩) n n), (0, .slice p n c)] ((bs_, .cells (fc n (fun k9 => iN (seenN F i k9))) 3) :: O) (opAt Try.f13 5 2) (.pointer (some ⟨gOf p, oOf p + i, none⟩)) ∧ RunV Try.prog [(16, .pointer (some ⟨gOf p, oOf p + i, none⟩)), (15, iN i), (14, .slice p n c), (11, .bool (decide (i < n))), (4, iN i), (3, .slice (some ⟨bs_, 0, none⟩) n n), (0, .slice p n c)] ((bs_, .cells (fc n (fun k9 => iN (seenN F i k9))) 3) :: O) (opAt Try.f13 5 3) (.int .i64 (F i : Int)) ∧ Value.bool (decide ((F i) < ((0 : Nat) : Int))) = .bool false ∧ RunV Try.prog [(21, iN i), (20, .slice p n c), (19, .bool false), (18, .bool false), (17, .int .i64 (F i : Int)), (16, .pointer (some ⟨gOf p, oOf p + i, none⟩)), (15, iN i), (14, .slice p n c), (11, .bool (decide (i < n))), (4, iN i), (3, .slice (some ⟨bs_, 0, none⟩) n n), (0, .slice p n c)] ((bs_, .cells (fc n (fun k9 => iN (seenN F i k9))) 3) :: O) (opAt Try.f13 5 8) (.pointer (some ⟨gOf p, oOf p + i, none⟩)) ∧ RunV Try.prog [(22, .pointer (some ⟨gOf p, oOf p + i, none⟩)), (21, iN i), (20, .slice p n c), (19, .bool false), (18, .bool false), (17, .int .i64 (F i : Int)), (16, .pointer (some ⟨gOf p, oOf p + i, none⟩)), (15, iN i), (14, .slice p n c), (11, .bool (decide (i < n))), (4, iN i), (3, .slice (some ⟨bs_, 0, none⟩) n n), (0, .slice p n c)] ((bs_, .cells (fc n (fun k9 => iN (seenN F i k9))) 3) :: O) (opAt Try.f13 5 9) (.int .i64 (F i : Int)) ∧ (F i) ≥ ((n : Nat) : Int) ∧ Kt [(37, .bool true), (4, iN i), (3, .slice (some ⟨bs_, 0, none⟩) n n), (0, .slice p n c)] ((bs_, .cells (fc n (fun k9 => iN (seenN F i k9))) 3) :: O)) (by kernel_rfl) (fun _ => by kernel_rfl) (⟨(rowX_addr (x := (.tmp 14)) (y := (.tmp 15)) (k := 1) (i := i) (by kernel_rfl) rfl rfl Try.underlying23 (by kernel_rfl) hF (by omega) (by omega)), (rowX_load (x := (.tmp 16)) (j := i) (by kernel_rfl) rfl Try.underlying3 rfl hF (fun _ hx => List.mem_cons_of_mem _ (hx)) (by omega) rfl), (dec_f a1), (rowX_addr (x := (.tmp 20)) (y := (.tmp 21)) (k := 1) (i := i) (by kernel_rfl) rfl rfl Try.underlying23 (by kernel_rfl) hF (by omega) (by omega)), (rowX_load (x := (.tmp 22)) (j := i) (by kernel_rfl) rfl Try.underlying3 rfl hF (fun _ hx => List.mem_cons_of_mem _ (hx)) (by omega) rfl), a2, fun ac9 wd9 FF9 MM9 => then_n ?_⟩))
        refine wp_cond_true (FF9.ev 0 rfl) ?_
        refine wp_seq (rg_seq FF9 MM9 [o_] [4, 3, 0, 2] (fun Kt => Kt [(2, .bool false), (4, iN i), (3, .slice (some ⟨bs_, 0, none⟩) n n), (0, .slice p n c)] ((bs_, .cells (fc n (fun k9 => iN (seenN F i k9))) 3) :: O)) (by kernel_rfl) (fun _ => by kernel_rfl) (fun ac10 wd10 FF10 MM10 => then_n ?_))
        refine wp_ret ?_
        repeat first | refine then_ret ?_ | refine inb_ret ?_
        exact (ret_fr FF10 0 Try.results13 rfl ⟨congrArg (fun b => Ending.returned (Value.bool b)) (Bool.eq_false_iff.2 (fun h => hno (hb.1 h))).symm, MM10.belowN H (fun _ hx => List.mem_cons_of_mem _ (hx))⟩)
      · obtain ⟨m, hm⟩ := Int.eq_ofNat_of_zero_le (a := F i) (by omega)
        have hm : F i = (m : Int) := hm
        have hmn : m < n := by omega
        by_cases a3 : seenN F i m = 1
        · skip
          have hno := seen_yes hm a3 hlt
          refine wp_seq (rg_seq FF6 MM6 [o_, o_, f_ (.pointer (some ⟨gOf p, oOf p + i, none⟩)), f_ (.int .i64 (F i : Int)), u_ 4 (.bool false), o_, o_, o_, f_ (.pointer (some ⟨gOf p, oOf p + i, none⟩)), f_ (.int .i64 (F i : Int)), o_, o_, u_ 4 (.bool false), o_, o_, o_, o_, o_, f_ (.pointer (some ⟨gOf p, oOf p + i, none⟩)), f_ (iN m), w_ 1, l_ 0 (iN (seenN F i m)), w_ 2, o_] [4, 3, 0, 37] (fun Kt => RunV Try.prog [(15, iN i), (14, .slice p n c), (11, .bool (decide (i < n))), (4, iN i), (3, .slice (some ⟨bs_, 0, none⟩) n n), (0, .slice p n c)] ((bs_, .cells (fc n (fun k9 => iN (seenN F i k9))) 3) :: O) (opAt Try.f13 5 2) (.pointer (some ⟨gOf p, oOf p + i, none⟩)) ∧ RunV Try.prog [(16, .pointer (some ⟨gOf p, oOf p + i, none⟩)), (15, iN i), (14, .slice p n c), (11, .bool (decide (i < n))), (4, iN i), (3, .slice (some ⟨bs_, 0, none⟩) n n), (0, .slice p n c)] ((bs_, .cells (fc n (fun k9 => iN (seenN F i k9))) 3) :: O) (opAt Try.f13 5 3) (.int .i64 (F i : Int)) ∧ Value.bool (decide ((F i) < ((0 : Nat) : Int))) = .bool false ∧ RunV Try.prog [(21, iN i), (20, .slice p n c), (19, .bool false), (18, .bool false), (17, .int .i64 (F i : Int)), (16, .pointer (some ⟨gOf p, oOf p + i, none⟩)), (15, iN i), (14, .slice p n c), (11, .bool (decide (i < n))), (4, iN i), (3, .slice (some ⟨bs_, 0, none⟩) n n), (0, .slice p n c)] ((bs_, .cells (fc n (fun k9 => iN (seenN F i k9))) 3) :: O) (opAt Try.f13 5 8) (.pointer (some ⟨gOf p, oOf p + i, none⟩)) ∧ RunV Try.prog [(22, .pointer (some ⟨gOf p, oOf p + i, none⟩)), (21, iN i), (20, .slice p n c), (19, .bool false), (18, .bool false), (17, .int .i64 (F i : Int)), (16, .pointer (some ⟨gOf p, oOf p + i, none⟩)), (15, iN i), (14, .slice p n c), (11, .bool (decide (i < n))), (4, iN i), (3, .slice (some ⟨bs_, 0, none⟩) n n), (0, .slice p n c)] ((bs_, .cells (fc n (fun k9 => iN (seenN F i k9))) 3) :: O) (opAt Try.f13 5 9) (.int .i64 (F i : Int)) ∧ Value.bool (decide ((F i) ≥ ((n : Nat) : Int))) = .bool false ∧ RunV Try.prog [(31, iN i), (30, .slice p n c), (29, .slice (some ⟨bs_, 0, none⟩) n n), (28, .bool false), (27, .bool false), (26, .bool false), (25, iN n), (24, .slice p n c), (23, .int .i64 (F i : Int)), (22, .pointer (some ⟨gOf p, oOf p + i, none⟩)), (21, iN i), (20, .slice p n c), (19, .bool false), (18, .bool false), (17, .int .i64 (F i : Int)), (16, .pointer (some ⟨gOf p, oOf p + i, none⟩)), (15, iN i), (14, .slice p n c), (11, .bool (decide (i < n))), (4, iN i), (3, .slice (some ⟨bs_, 0, none⟩) n n), (0, .slice p n c)] ((bs_, .cells (fc n (fun k9 => iN (seenN F i k9))) 3) :: O) (opAt Try.f13 5 18) (.pointer (some ⟨gOf p, oOf p + i, none⟩)) ∧ RunV Try.prog [(32, .pointer (some ⟨gOf p, oOf p + i, none⟩)), (31, iN i), (30, .slice p n c), (29, .slice (some ⟨bs_, 0, none⟩) n n), (28, .bool false), (27, .bool false), (26, .bool false), (25, iN n), (24, .slice p n c), (23, .int .i64 (F i : Int)), (22, .pointer (some ⟨gOf p, oOf p + i, none⟩)), (21, iN i), (20, .slice p n c), (19, .bool false), (18, .bool false), (17, .int .i64 (F i : Int)), (16, .pointer (some ⟨gOf p, oOf p + i, none⟩)), (15, iN i), (14, .slice p n c), (11, .bool (decide (i < n))), (4, iN i), (3, .slice (some ⟨bs_, 0, none⟩) n n), (0, .slice p n c)] ((bs_, .cells (fc n (fun k9 => iN (seenN F i k9))) 3) :: O) (opAt Try.f13 5 19) (iN m) ∧ m < n ∧ bs_ = bs_ ∧ (fc n (fun k9 => iN (seenN F i k9)))[m]? = some (iN (seenN F i m)) ∧ (seenN F i m) > 0 ∧ Kt [(37, .bool true), (4, iN i), (3, .slice (some ⟨bs_, 0, none⟩) n n), (0, .slice p n c)] ((bs_, .cells (fc n (fun k9 => iN (seenN F i k9))) 3) :: O)) (by kernel_rfl) (fun _ => by kernel_rfl) (⟨(rowX_addr (x := (.tmp 14)) (y := (.tmp 15)) (k := 1) (i := i) (by kernel_rfl) rfl rfl Try.underlying23 (by kernel_rfl) hF (by omega) (by omega)), (rowX_load (x := (.tmp 16)) (j := i) (by kernel_rfl) rfl Try.underlying3 rfl hF (fun _ hx => List.mem_cons_of_mem _ (hx)) (by omega) rfl), (dec_f a1), (rowX_addr (x := (.tmp 20)) (y := (.tmp 21)) (k := 1) (i := i) (by kernel_rfl) rfl rfl Try.underlying23 (by kernel_rfl) hF (by omega) (by omega)), (rowX_load (x := (.tmp 22)) (j := i) (by kernel_rfl) rfl Try.underlying3 rfl hF (fun _ hx => List.mem_cons_of_mem _ (hx)) (by omega) rfl), (dec_f a2), (rowX_addr (x := (.tmp 30)) (y := (.tmp 31)) (k := 1) (i := i) (by kernel_rfl) rfl rfl Try.underlying23 (by kernel_rfl) hF (by omega) (by omega)), (rowX_load (x := (.tmp 32)) (j := i) (by kernel_rfl) rfl Try.underlying3 rfl hF (fun _ hx => List.mem_cons_of_mem _ (hx)) (by omega) (vZ hm)), hmn, rfl, (fc_get _ (by omega)), (by omega), fun ac11 wd11 FF11 MM11 => then_n ?_⟩))
          refine wp_cond_true (FF11.ev 0 rfl) ?_
          refine wp_seq (rg_seq FF11 MM11 [o_] [4, 3, 0, 2] (fun Kt => Kt [(2, .bool false), (4, iN i), (3, .slice (some ⟨bs_, 0, none⟩) n n), (0, .slice p n c)] ((bs_, .cells (fc n (fun k9 => iN (seenN F i k9))) 3) :: O)) (by kernel_rfl) (fun _ => by kernel_rfl) (fun ac12 wd12 FF12 MM12 => then_n ?_))
          refine wp_ret ?_
          repeat first | refine then_ret ?_ | refine inb_ret ?_
          exact (ret_fr FF12 0 Try.results13 rfl ⟨congrArg (fun b => Ending.returned (Value.bool b)) (Bool.eq_false_iff.2 (fun h => hno (hb.1 h))).symm, MM12.belowN H (fun _ hx => List.mem_cons_of_mem _ (hx))⟩)
        · skip
          have hgi := seen_no (n := n) hm a3 hmn; have hs0 : seenN F i m = 0 := by rcases seen_cases F i m with ⟨q, _⟩ | ⟨q, _⟩ <;> omega
          refine wp_seq (rg_seq FF6 MM6 [o_, o_, f_ (.pointer (some ⟨gOf p, oOf p + i, none⟩)), f_ (.int .i64 (F i : Int)), u_ 4 (.bool false), o_, o_, o_, f_ (.pointer (some ⟨gOf p, oOf p + i, none⟩)), f_ (.int .i64 (F i : Int)), o_, o_, u_ 4 (.bool false), o_, o_, o_, o_, o_, f_ (.pointer (some ⟨gOf p, oOf p + i, none⟩)), f_ (iN m), w_ 1, l_ 0 (iN (seenN F i m)), w_ 3, o_] [4, 3, 0, 37] (fun Kt => RunV Try.prog [(15, iN i), (14, .slice p n c), (11, .bool (decide (i < n))), (4, iN i), (3, .slice (some ⟨bs_, 0, none⟩) n n), (0, .slice p n c)] ((bs_, .cells (fc n (fun k9 => iN (seenN F i k9))) 3) :: O) (opAt Try.f13 5 2) (.pointer (some ⟨gOf p, oOf p + i, none⟩)) ∧ RunV Try.prog [(16, .pointer (some ⟨gOf p, oOf p + i, none⟩)), (15, iN i), (14, .slice p n c), (11, .bool (decide (i < n))), (4, iN i), (3, .slice (some ⟨bs_, 0, none⟩) n n), (0, .slice p n c)] ((bs_, .cells (fc n (fun k9 => iN (seenN F i k9))) 3) :: O) (opAt Try.f13 5 3) (.int .i64 (F i : Int)) ∧ Value.bool (decide ((F i) < ((0 : Nat) : Int))) = .bool false ∧ RunV Try.prog [(21, iN i), (20, .slice p n c), (19, .bool false), (18, .bool false), (17, .int .i64 (F i : Int)), (16, .pointer (some ⟨gOf p, oOf p + i, none⟩)), (15, iN i), (14, .slice p n c), (11, .bool (decide (i < n))), (4, iN i), (3, .slice (some ⟨bs_, 0, none⟩) n n), (0, .slice p n c)] ((bs_, .cells (fc n (fun k9 => iN (seenN F i k9))) 3) :: O) (opAt Try.f13 5 8) (.pointer (some ⟨gOf p, oOf p + i, none⟩)) ∧ RunV Try.prog [(22, .pointer (some ⟨gOf p, oOf p + i, none⟩)), (21, iN i), (20, .slice p n c), (19, .bool false), (18, .bool false), (17, .int .i64 (F i : Int)), (16, .pointer (some ⟨gOf p, oOf p + i, none⟩)), (15, iN i), (14, .slice p n c), (11, .bool (decide (i < n))), (4, iN i), (3, .slice (some ⟨bs_, 0, none⟩) n n), (0, .slice p n c)] ((bs_, .cells (fc n (fun k9 => iN (seenN F i k9))) 3) :: O) (opAt Try.f13 5 9) (.int .i64 (F i : Int)) ∧ Value.bool (decide ((F i) ≥ ((n : Nat) : Int))) = .bool false ∧ RunV Try.prog [(31, iN i), (30, .slice p n c), (29, .slice (some ⟨bs_, 0, none⟩) n n), (28, .bool false), (27, .bool false), (26, .bool false), (25, iN n), (24, .slice p n c), (23, .int .i64 (F i : Int)), (22, .pointer (some ⟨gOf p, oOf p + i, none⟩)), (21, iN i), (20, .slice p n c), (19, .bool false), (18, .bool false), (17, .int .i64 (F i : Int)), (16, .pointer (some ⟨gOf p, oOf p + i, none⟩)), (15, iN i), (14, .slice p n c), (11, .bool (decide (i < n))), (4, iN i), (3, .slice (some ⟨bs_, 0, none⟩) n n), (0, .slice p n c)] ((bs_, .cells (fc n (fun k9 => iN (seenN F i k9))) 3) :: O) (opAt Try.f13 5 18) (.pointer (some ⟨gOf p, oOf p + i, none⟩)) ∧ RunV Try.prog [(32, .pointer (some ⟨gOf p, oOf p + i, none⟩)), (31, iN i), (30, .slice p n c), (29, .slice (some ⟨bs_, 0, none⟩) n n), (28, .bool false), (27, .bool false), (26, .bool false), (25, iN n), (24, .slice p n c), (23, .int .i64 (F i : Int)), (22, .pointer (some ⟨gOf p, oOf p + i, none⟩)), (21, iN i), (20, .slice p n c), (19, .bool false), (18, .bool false), (17, .int .i64 (F i : Int)), (16, .pointer (some ⟨gOf p, oOf p + i, none⟩)), (15, iN i), (14, .slice p n c), (11, .bool (decide (i < n))), (4, iN i), (3, .slice (some ⟨bs_, 0, none⟩) n n), (0, .slice p n c)] ((bs_, .cells (fc n (fun k9 => iN (seenN F i k9))) 3) :: O) (opAt Try.f13 5 19) (iN m) ∧ m < n ∧ bs_ = bs_ ∧ (fc n (fun k9 => iN (seenN F i k9)))[m]? = some (iN (seenN F i m)) ∧ ¬ ((seenN F i m) > 0) ∧ Kt [(37, .bool false), (4, iN i), (3, .slice (some ⟨bs_, 0, none⟩) n n), (0, .slice p n c)] ((bs_, .cells (fc n (fun k9 => iN (seenN F i k9))) 3) :: O)) (by kernel_rfl) (fun _ => by kernel_rfl) (⟨(rowX_addr (x := (.tmp 14)) (y := (.tmp 15)) (k := 1) (i := i) (by kernel_rfl) rfl rfl Try.underlying23 (by kernel_rfl) hF (by omega) (by omega)), (rowX_load (x := (.tmp 16)) (j := i) (by kernel_rfl) rfl Try.underlying3 rfl hF (fun _ hx => List.mem_cons_of_mem _ (hx)) (by omega) rfl), (dec_f a1), (rowX_addr (x := (.tmp 20)) (y := (.tmp 21)) (k := 1) (i := i) (by kernel_rfl) rfl rfl Try.underlying23 (by kernel_rfl) hF (by omega) (by omega)), (rowX_load (x := (.tmp 22)) (j := i) (by kernel_rfl) rfl Try.underlying3 rfl hF (fun _ hx => List.mem_cons_of_mem _ (hx)) (by omega) rfl), (dec_f a2), (rowX_addr (x := (.tmp 30)) (y := (.tmp 31)) (k := 1) (i := i) (by kernel_rfl) rfl rfl Try.underlying23 (by kernel_rfl) hF (by omega) (by omega)), (rowX_load (x := (.tmp 32)) (j := i) (by kernel_rfl) rfl Try.underlying3 rfl hF (fun _ hx => List.mem_cons_of_mem _ (hx)) (by omega) (vZ hm)), hmn, rfl, (fc_get _ (by omega)), (by omega), fun ac13 wd13 FF13 MM13 => then_n ?_⟩))
          refine wp_cond_false (FF13.ev 0 rfl) ?_
          refine wp_skip ?_
          refine then_n ?_
          refine rg_seq FF13 MM13 [o_, o_, o_, f_ (.pointer (some ⟨gOf p, oOf p + i, none⟩)), f_ (iN m), w_ 1, s_ 0 (.cells (fc n (fun k9 => iN (seenN F (i + 1) k9))) 3)] [4, 3, 0] (fun Kt => RunV Try.prog [(40, iN i), (39, .slice p n c), (38, .slice (some ⟨bs_, 0, none⟩) n n), (37, .bool false), (4, iN i), (3, .slice (some ⟨bs_, 0, none⟩) n n), (0, .slice p n c)] ((bs_, .cells (fc n (fun k9 => iN (seenN F i k9))) 3) :: O) (opAt Try.f13 7 3) (.pointer (some ⟨gOf p, oOf p + i, none⟩)) ∧ RunV Try.prog [(41, .pointer (some ⟨gOf p, oOf p + i, none⟩)), (40, iN i), (39, .slice p n c), (38, .slice (some ⟨bs_, 0, none⟩) n n), (37, .bool false), (4, iN i), (3, .slice (some ⟨bs_, 0, none⟩) n n), (0, .slice p n c)] ((bs_, .cells (fc n (fun k9 => iN (seenN F i k9))) 3) :: O) (opAt Try.f13 7 4) (iN m) ∧ m < n ∧ bs_ = bs_ ∧ m < (fc n (fun k9 => iN (seenN F i k9))).size ∧ (((0, 0)).2 = 0 ∨ m < ((0, 0)).1) ∧ (fc n (fun k9 => iN (seenN F i k9))).setIfInBounds m (iN 1) = fc n (fun k9 => iN (seenN F (i + 1) k9)) ∧ Kt [(4, iN i), (3, .slice (some ⟨bs_, 0, none⟩) n n), (0, .slice p n c)] ((bs_, .cells (fc n (fun k9 => iN (seenN F (i + 1) k9))) 3) :: O)) (by kernel_rfl) (fun _ => by kernel_rfl) (⟨(rowX_addr (x := (.tmp 39)) (y := (.tmp 40)) (k := 1) (i := i) (by kernel_rfl) rfl rfl Try.underlying23 (by kernel_rfl) hF (by omega) (by omega)), (rowX_load (x := (.tmp 41)) (j := i) (by kernel_rfl) rfl Try.underlying3 rfl hF (fun _ hx => List.mem_cons_of_mem _ (hx)) (by omega) (vZ hm)), hmn, rfl, (by rw [fc_size]; exact hmn), (.inl rfl), ((fc_set _ _ _ _).trans (fc_cong fun k _ => ite_int.trans (vI (seen_set hm k)))), fun ac14 wd14 FF14 MM14 => ?_⟩)
          refine inb_n (then_n ?_)
          refine rg_seq FF14 MM14 [o_, o_, o_] [4, 3, 0] (fun Kt => i + 1 < 9223372036854775808 ∧ Kt [(4, iN (i + 1)), (3, .slice (some ⟨bs_, 0, none⟩) n n), (0, .slice p n c)] ((bs_, .cells (fc n (fun k9 => iN (seenN F (i + 1) k9))) 3) :: O)) (by kernel_rfl) (fun _ => by kernel_rfl) (⟨(by omega), fun ac15 wd15 FF15 MM15 => ?_⟩)
          have hd := cnt_of (FF15.get 0 rfl)
          refine then_n ⟨⟨i + 1, by omega, (fun j hj => (Nat.lt_or_ge j i).elim (hG j) (fun h => (show i = j by omega) ▸ hgi)), FF15.pick [0, 1, 2], MM15⟩, ?_⟩
          rw [hc, hd]; omega
  · skip
    refine then_n (.inr ⟨(FF6.ev 0 rfl).trans (dec_f hlt), ?_⟩)
    have hO : OrdZ n F := fun j hj => hG j (by omega)
    refine then_n ?_
    refine wp_seq (rg_seq FF6 MM6 [o_] [4, 3, 0, 2] (fun Kt => Kt [(2, .bool true), (4, iN i), (3, .slice (some ⟨bs_, 0, none⟩) n n), (0, .slice p n c)] ((bs_, .cells (fc n (fun k9 => iN (seenN F i k9))) 3) :: O)) (by kernel_rfl) (fun _ => by kernel_rfl) (fun ac16 wd16 FF16 MM16 => then_n ?_))
    refine wp_ret ?_
    repeat first | refine then_ret ?_ | refine inb_ret ?_
    exact (ret_fr FF16 0 Try.results13 rfl ⟨congrArg (fun b => Ending.returned (Value.bool b)) (hb.2 hO).symm, MM16.belowN H (fun _ hx => List.mem_cons_of_mem _ (hx))⟩)
theorem rmay_w (p : Option Addr) (n c : Nat) (F : Nat → Int) (hn : n ≤ 1000000) (b : Bool) (hb : b = true ↔ OrdZ n F) (w : World) (hF : RowIn w p n (fun k9 => .int .i64 (F k9))) :
    Calls Try.prog 13 #[.slice p n c] w fun e w' => e = .returned (.bool b) ∧ Below w.heap.size w w' := by
  obtain ⟨O, h1, h2, h3⟩ := row_O hF
  exact rmay_O O h2 p n c F hn b hb h3 w h1
end Go.Proofs.Ytdckihmiggcpfaa
namespace Go.Proofs.Ytdckihmiggcpfaa
open Go.RowKit
set_option maxRecDepth 100000 in
theorem oinv_O (O : Blks) (hD : Distinct O) (p : Option Addr) (n c : Nat) (f : Nat → Nat) (hn : n ≤ 1000000) (hf : IsOrd n f) (hF : RowO O p n (fun k9 => iN (f k9))) (w0 : World) (H : Has w0 O) :
    Calls Try.prog 14 #[.slice p n c] w0 fun e w' => ∃ v, e = .returned (.tuple #[.slice (pOf v) n (cOf v), .bool true]) ∧ Below w0.heap.size w0 w' ∧ RowNew w0.heap.size w' (pOf v) n (fun k9 => iN (invI f n k9)) := by
  refine enter_fr Try.func14 rfl Try.ntmps14 (by simp) fun ac (FF : Fr 26 ac [(0, .slice p n c)]) => ?_
  have MM : MemS (fun k => k < w0.heap.size ∧ ∀ x ∈ O, x.1 ≠ k) w0 w0 O [] := MemS.startN H hD
  have hz := ord_z hf
  refine wp_seq (rg_seq FF MM [o_, o_] [0, 2, 3] (fun Kt => Kt [(3, .bool false), (2, .slice none 0 0), (0, .slice p n c)] O) (by kernel_rfl) (fun _ => by kernel_rfl) (fun ac1 wd1 FF1 MM1 => then_n ?_))
  refine wp_seq ?_
  refine wp_seq (rg_seq FF1 MM1 [o_, u_ 1 (.bool true), o_] [3, 2, 0, 9] (fun Kt => CallP Try.prog 24 [.slice p n c] O (.bool true) ∧ Kt [(9, .bool false), (3, .bool false), (2, .slice none 0 0), (0, .slice p n c)] O) (by kernel_rfl) (fun _ => by kernel_rfl) (⟨⟨en_isord, fun w Hw => isord_w p n c (fun k9 => ((f k9 : Nat) : Int)) (by omega) true ⟨fun _ => hz, fun _ => rfl⟩ w (hF.at Hw)⟩, fun ac2 wd2 FF2 MM2 => then_n ?_⟩))
  refine wp_cond_false (FF2.ev 0 rfl) ?_
  refine wp_skip ?_
  refine then_n ?_
  refine wp_seq (rg_seq FF2 MM2 [o_, o_, n_ (.slice none n n) (.cells (fc n (fun k9 => iN 0)) 3), o_] [3, 2, 0, 4] (fun Kt => RunN Try.prog [(11, iN n), (10, .slice p n c), (9, .bool false), (3, .bool false), (2, .slice none 0 0), (0, .slice p n c)] O (opAt Try.f14 3 2) (mkOf (.slice none n n)) (.cells (fc n (fun k9 => iN 0)) 3) ∧ ∀ bl, Kt [(4, .slice (some ⟨bl, 0, none⟩) n n), (3, .bool false), (2, .slice none 0 0), (0, .slice p n c)] ((bl, .cells (fc n (fun k9 => iN 0)) 3) :: O)) (by kernel_rfl) (fun _ => by kernel_rfl) (⟨(makeF_ok (t := 23) (e := 3) (p := (.tmp 11)) (q := (.tmp 11)) (bb := 8) (z := iN 0) (by kernel_rfl) rfl rfl Try.underlying23 (by kernel_rfl) rfl (by omega) (by omega)), fun bl => fun ac3 wd3 FF3 MM3 => then_n ?_⟩))
  have MMr4 : MemS (fun k => k < w0.heap.size ∧ ∀ x ∈ O, x.1 ≠ k) w0 wd3 ((bl, .cells (fc n (fun k9 => iN (invI f 0 k9))) 3) :: O) [] := by rw [show fc n (fun k9 => iN (invI f 0 k9)) = fc n (fun k9 => iN 0) from fc_cong fun k _ => rfl]; exact MM3
  refine wp_seq ?_
  refine wp_seq (rg_seq FF3 MMr4 [o_, o_, o_] [4, 3, 2, 0, 13, 14, 15] (fun Kt => Kt [(15, iN 0), (14, iN n), (13, .slice p n c), (4, .slice (some ⟨bl, 0, none⟩) n n), (3, .bool false), (2, .slice none 0 0), (0, .slice p n c)] ((bl, .cells (fc n (fun k9 => iN (invI f 0 k9))) 3) :: O)) (by kernel_rfl) (fun _ => by kernel_rfl) (fun ac5 wd5 FF5 MM5 => then_n ?_))
  refine wp_for (fun a' w' => ∃ i : Nat, i ≤ n ∧ Fr 26 a' [(15, iN i), (14, iN n), (13, .slice p n c), (4, .slice (some ⟨bl, 0, none⟩) n n), (0, .slice p n c)] ∧ MemS (fun k => k < w0.heap.size ∧ ∀ x ∈ O, x.1 ≠ k) w0 w' ((bl, .cells (fc n (fun k9 => iN (invI f i k9))) 3) :: O) []) (fun a' _ => (n - cnt 15 a').toNat) ⟨0, Nat.zero_le _, FF5.pick [0, 1, 2, 3, 6], MM5⟩ ?_
  rintro ac6 wd6 ⟨i, hi, FF6, MM6⟩
  have hc := cnt_of (FF6.get 0 rfl)
  refine rg_seq FF6 MM6 [o_] [15, 14, 13, 4, 0, 16] (fun Kt => Kt [(16, .bool (decide (i < n))), (15, iN i), (14, iN n), (13, .slice p n c), (4, .slice (some ⟨bl, 0, none⟩) n n), (0, .slice p n c)] ((bl, .cells (fc n (fun k9 => iN (invI f i k9))) 3) :: O)) (by kernel_rfl) (fun _ => by kernel_rfl) (fun ac7 wd7 FF7 MM7 => ?_)
  by_cases hlt : i < n
  · skip
    refine then_n (.inl ⟨(FF7.ev 0 rfl).trans (dec_t hlt), ?_⟩)
    have hfi := hf.1 i hlt
    refine wp_seq (rg_seq FF7 MM7 [o_, f_ (.pointer (some ⟨gOf p, oOf p + i, none⟩)), f_ (iN (f i)), o_, o_] [15, 14, 13, 4, 0, 5, 6] (fun Kt => RunV Try.prog [(17, iN i), (16, .bool (decide (i < n))), (15, iN i), (14, iN n), (13, .slice p n c), (4, .slice (some ⟨bl, 0, none⟩) n n), (0, .slice p n c)] ((bl, .cells (fc n (fun k9 => iN (invI f i k9))) 3) :: O) (opAt Try.f14 6 1) (.pointer (some ⟨gOf p, oOf p + i, none⟩)) ∧ RunV Try.prog [(18, .pointer (some ⟨gOf p, oOf p + i, none⟩)), (17, iN i), (16, .bool (decide (i < n))), (15, iN i), (14, iN n), (13, .slice p n c), (4, .slice (some ⟨bl, 0, none⟩) n n), (0, .slice p n c)] ((bl, .cells (fc n (fun k9 => iN (invI f i k9))) 3) :: O) (opAt Try.f14 6 2) (iN (f i)) ∧ Kt [(6, iN (f i)), (5, iN i), (15, iN i), (14, iN n), (13, .slice p n c), (4, .slice (some ⟨bl, 0, none⟩) n n), (0, .slice p n c)] ((bl, .cells (fc n (fun k9 => iN (invI f i k9))) 3) :: O)) (by kernel_rfl) (fun _ => by kernel_rfl) (⟨(rowX_addr (x := (.tmp 13)) (y := (.tmp 15)) (k := 1) (i := i) (by kernel_rfl) rfl rfl Try.underlying23 (by kernel_rfl) hF (by omega) (by omega)), (rowX_load (x := (.tmp 18)) (j := i) (by kernel_rfl) rfl Try.underlying3 rfl hF (fun _ hx => List.mem_cons_of_mem _ (hx)) (by omega) rfl), fun ac8 wd8 FF8 MM8 => then_n ?_⟩))
    refine rg_seq FF8 MM8 [o_, o_, o_, w_ 1, s_ 0 (.cells (fc n (fun k9 => iN (invI f (i + 1) k9))) 3)] [6, 5, 15, 14, 13, 4, 0] (fun Kt => (f i) < n ∧ bl = bl ∧ f i < (fc n (fun k9 => iN (invI f i k9))).size ∧ (((0, 0)).2 = 0 ∨ f i < ((0, 0)).1) ∧ (fc n (fun k9 => iN (invI f i k9))).setIfInBounds (f i) (iN i) = fc n (fun k9 => iN (invI f (i + 1) k9)) ∧ Kt [(6, iN (f i)), (5, iN i), (15, iN i), (14, iN n), (13, .slice p n c), (4, .slice (some ⟨bl, 0, none⟩) n n), (0, .slice p n c)] ((bl, .cells (fc n (fun k9 => iN (invI f (i + 1) k9))) 3) :: O)) (by kernel_rfl) (fun _ => by kernel_rfl) (⟨(by have := hfi; omega), rfl, (by rw [fc_size]; exact hfi), (.inl rfl), ((fc_set _ _ _ _).trans (fc_cong fun k _ => ite_int.trans (vI (inv_set k)))), fun ac9 wd9 FF9 MM9 => ?_⟩)
    refine inb_n (then_n ?_)
    refine rg_seq FF9 MM9 [o_, o_] [6, 5, 15, 14, 13, 4, 0] (fun Kt => i + 1 < 9223372036854775808 ∧ Kt [(15, iN (i + 1)), (6, iN (f i)), (5, iN i), (14, iN n), (13, .slice p n c), (4, .slice (some ⟨bl, 0, none⟩) n n), (0, .slice p n c)] ((bl, .cells (fc n (fun k9 => iN (invI f (i + 1) k9))) 3) :: O)) (by kernel_rfl) (fun _ => by kernel_rfl) (⟨(by omega), fun ac10 wd10 FF10 MM10 => ?_⟩)
    have hd := cnt_of (FF10.get 0 rfl)
    refine then_n ⟨⟨i + 1, by omega, FF10.pick [0, 3, 4, 5, 6], MM10⟩, ?_⟩
    rw [hc, hd]; omega
  · skip
    refine then_n (.inr ⟨(FF7.ev 0 rfl).trans (dec_f hlt), ?_⟩)
    obtain rfl : n = i := by omega
    refine then_n ?_
    refine wp_seq (rg_seq FF7 MM7 [o_, o_, o_] [15, 14, 13, 4, 0, 2, 3] (fun Kt => Kt [(3, .bool true), (2, .slice (some ⟨bl, 0, none⟩) n n), (15, iN n), (14, iN n), (13, .slice p n c), (4, .slice (some ⟨bl, 0, none⟩) n n), (0, .slice p n c)] ((bl, .cells (fc n (fun k9 => iN (invI f n k9))) 3) :: O)) (by kernel_rfl) (fun _ => by kernel_rfl) (fun ac11 wd11 FF11 MM11 => then_n ?_))
    refine wp_ret ?_
    repeat first | refine then_ret ?_ | refine inb_ret ?_
    exact (ret_tup2 FF11 1 0 Try.results14 rfl rfl ⟨.slice (some ⟨bl, 0, none⟩) n n, rfl, MM11.belowN H (fun _ hx => List.mem_cons_of_mem _ (hx)), rowNew_fc (MM11.get 0 rfl) (MM11.newest (fun _ hx => hx))⟩)
theorem oinv_w (p : Option Addr) (n c : Nat) (f : Nat → Nat) (hn : n ≤ 1000000) (hf : IsOrd n f) (w : World) (hF : RowIn w p n (fun k9 => iN (f k9))) :
    Calls Try.prog 14 #[.slice p n c] w fun e w' => ∃ v, e = .returned (.tuple #[.slice (pOf v) n (cOf v), .bool true]) ∧ Below w.heap.size w w' ∧ RowNew w.heap.size w' (pOf v) n (fun k9 => iN (invI f n k9)) := by
  obtain ⟨O, h1, h2, h3⟩ := row_O hF
  exact oinv_O O h2 p n c f hn hf h3 w h1
set_option maxRecDepth 100000 in
theorem oinv_noO (O : Blks) (hD : Distinct O) (p : Option Addr) (n c : Nat) (F : Nat → Int) (hn : n ≤ 1000000) (hno : ¬ OrdZ n F) (hF : RowO O p n (fun k9 => .int .i64 (F k9))) (w0 : World) (H : Has w0 O) :
    Calls Try.prog 14 #[.slice p n c] w0 fun e w' => e = .returned (.tuple #[.slice none 0 0, .bool false]) ∧ Below w0.heap.size w0 w' := by
  refine enter_fr Try.func14 rfl Try.ntmps14 (by simp) fun ac (FF : Fr 26 ac [(0, .slice p n c)]) => ?_
  have MM : MemS (fun k => k < w0.heap.size ∧ ∀ x ∈ O, x.1 ≠ k) w0 w0 O [] := MemS.startN H hD
  refine wp_seq (rg_seq FF MM [o_, o_] [0, 2, 3] (fun Kt => Kt [(3, .bool false), (2, .slice none 0 0), (0, .slice p n c)] O) (by kernel_rfl) (fun _ => by kernel_rfl) (fun ac1 wd1 FF1 MM1 => then_n ?_))
  refine wp_seq ?_
  refine wp_seq (rg_seq FF1 MM1 [o_, u_ 1 (.bool false), o_] [3, 2, 0, 9] (fun Kt => CallP Try.prog 24 [.slice p n c] O (.bool false) ∧ Kt [(9, .bool true), (3, .bool false), (2, .slice none 0 0), (0, .slice p n c)] O) (by kernel_rfl) (fun _ => by kernel_rfl) (⟨⟨en_isord, fun w Hw => isord_w p n c (fun k9 => F k9) (by omega) false ⟨fun h => (by cases h), fun h => (hno h).elim⟩ w (hF.at Hw)⟩, fun ac2 wd2 FF2 MM2 => then_n ?_⟩))
  refine wp_cond_true (FF2.ev 0 rfl) ?_
  refine wp_seq (rg_seq FF2 MM2 [o_, o_] [3, 2, 0] (fun Kt => Kt [(3, .bool false), (2, .slice none 0 0), (0, .slice p n c)] O) (by kernel_rfl) (fun _ => by kernel_rfl) (fun ac3 wd3 FF3 MM3 => then_n ?_))
  refine wp_ret ?_
  repeat first | refine then_ret ?_ | refine inb_ret ?_
  exact (ret_tup2 FF3 1 0 Try.results14 rfl rfl ⟨rfl, MM3.belowN H (fun _ hx => hx)⟩)
theorem oinv_no_w (p : Option Addr) (n c : Nat) (F : Nat → Int) (hn : n ≤ 1000000) (hno : ¬ OrdZ n F) (w : World) (hF : RowIn w p n (fun k9 => .int .i64 (F k9))) :
    Calls Try.prog 14 #[.slice p n c] w fun e w' => e = .returned (.tuple #[.slice none 0 0, .bool false]) ∧ Below w.heap.size w w' := by
  obtain ⟨O, h1, h2, h3⟩ := row_O hF
  exact oinv_noO O h2 p n c F hn hno h3 w h1
set_option maxRecDepth 100000 in
theorem olay_O (O : Blks) (hD : Distinct O) (p : Option Addr) (n c : Nat) (q : Option Addr) (d : Nat) (f : Nat → Nat) (s : Nat → List Nat) (hn : n ≤ 1000000) (hf : IsOrd n f) (hF : RowO O p n (fun k9 => iN (f k9))) (hG : RowO O q n (fun k9 => sB (s k9))) (w0 : World) (H : Has w0 O) :
    Calls Try.prog 15 #[.slice p n c, .slice q n d] w0 fun e w' => ∃ v, e = .returned (.tuple #[.slice (pOf v) n (cOf v), .bool true]) ∧ Below w0.heap.size w0 w' ∧ RowNew w0.heap.size w' (pOf v) n (fun k9 => sB (s (f k9))) := by
  refine enter_fr Try.func15 rfl Try.ntmps15 (by simp) fun ac (FF : Fr 38 ac [(0, .slice p n c), (1, .slice q n d)]) => ?_
  have MM : MemS (fun k => k < w0.heap.size ∧ ∀ x ∈ O, x.1 ≠ k) w0 w0 O [] := MemS.startN H hD
  have hz := ord_z hf
  refine wp_seq (rg_seq FF MM [o_, o_] [0, 1, 4, 5] (fun Kt => Kt [(5, .bool false), (4, .slice none 0 0), (0, .slice p n c), (1, .slice q n d)] O) (by kernel_rfl) (fun _ => by kernel_rfl) (fun ac1 wd1 FF1 MM1 => then_n ?_))
  refine wp_seq ?_
  refine wp_seq (rg_seq FF1 MM1 [o_, o_, o_, o_, w_ 3, o_, o_, u_ 1 (.bool true), o_, o_] [5, 4, 0, 1, 18] (fun Kt => ¬ (n ≠ n) ∧ CallP Try.prog 24 [.slice p n c] O (.bool true) ∧ Kt [(18, .bool false), (5, .bool false), (4, .slice none 0 0), (0, .slice p n c), (1, .slice q n d)] O) (by kernel_rfl) (fun _ => by kernel_rfl) (⟨(fun h => h rfl), ⟨en_isord, fun w Hw => isord_w p n c (fun k9 => ((f k9 : Nat) : Int)) (by omega) true ⟨fun _ => hz, fun _ => rfl⟩ w (hF.at Hw)⟩, fun ac2 wd2 FF2 MM2 => then_n ?_⟩))
  refine wp_cond_false (FF2.ev 0 rfl) ?_
  refine wp_skip ?_
  refine then_n ?_
  refine wp_seq (rg_seq FF2 MM2 [o_, o_, n_ (.slice none n n) (.cells (fc n (fun k9 => sB [])) 9), o_] [5, 4, 0, 1, 6] (fun Kt => RunN Try.prog [(20, iN n), (19, .slice p n c), (18, .bool false), (5, .bool false), (4, .slice none 0 0), (0, .slice p n c), (1, .slice q n d)] O (opAt Try.f15 3 2) (mkOf (.slice none n n)) (.cells (fc n (fun k9 => sB [])) 9) ∧ ∀ bl, Kt [(6, .slice (some ⟨bl, 0, none⟩) n n), (5, .bool false), (4, .slice none 0 0), (0, .slice p n c), (1, .slice q n d)] ((bl, .cells (fc n (fun k9 => sB [])) 9) :: O)) (by kernel_rfl) (fun _ => by kernel_rfl) (⟨(makeF_ok (t := 24) (e := 9) (p := (.tmp 20)) (q := (.tmp 20)) (bb := 16) (z := sB []) (by kernel_rfl) rfl rfl Try.underlying24 (by kernel_rfl) rfl (by omega) (by omega)), fun bl => fun ac3 wd3 FF3 MM3 => then_n ?_⟩))
  have MMr4 : MemS (fun k => k < w0.heap.size ∧ ∀ x ∈ O, x.1 ≠ k) w0 wd3 ((bl, .cells (fc n (fun k9 => sB (layI f s 0 k9))) 9) :: O) [] := by rw [show fc n (fun k9 => sB (layI f s 0 k9)) = fc n (fun k9 => sB []) from fc_cong fun k _ => vS (lay_zero f s k)]; exact MM3
  refine wp_seq ?_
  refine wp_seq (rg_seq FF3 MMr4 [o_, o_, o_] [6, 5, 4, 0, 1, 22, 23, 24] (fun Kt => Kt [(24, iN 0), (23, iN n), (22, .slice p n c), (6, .slice (some ⟨bl, 0, none⟩) n n), (5, .bool false), (4, .slice none 0 0), (0, .slice p n c), (1, .slice q n d)] ((bl, .cells (fc n (fun k9 => sB (layI f s 0 k9))) 9) :: O)) (by kernel_rfl) (fun _ => by kernel_rfl) (fun ac5 wd5 FF5 MM5 => then_n ?_))
  refine wp_for (fun a' w' => ∃ i : Nat, i ≤ n ∧ Fr 38 a' [(24, iN i), (23, iN n), (22, .slice p n c), (6, .slice (some ⟨bl, 0, none⟩) n n), (0, .slice p n c), (1, .slice q n d)] ∧ MemS (fun k => k < w0.heap.size ∧ ∀ x ∈ O, x.1 ≠ k) w0 w' ((bl, .cells (fc n (fun k9 => sB (layI f s i k9))) 9) :: O) []) (fun a' _ => (n - cnt 24 a').toNat) ⟨0, Nat.zero_le _, FF5.pick [0, 1, 2, 3, 6, 7], MM5⟩ ?_
  rintro ac6 wd6 ⟨i, hi, FF6, MM6⟩
  have hc := cnt_of (FF6.get 0 rfl)
  refine rg_seq FF6 MM6 [o_] [24, 23, 22, 6, 0, 1, 25] (fun Kt => Kt [(25, .bool (decide (i < n))), (24, iN i), (23, iN n), (22, .slice p n c), (6, .slice (some ⟨bl, 0, none⟩) n n), (0, .slice p n c), (1, .slice q n d)] ((bl, .cells (fc n (fun k9 => sB (layI f s i k9))) 9) :: O)) (by kernel_rfl) (fun _ => by kernel_rfl) (fun ac7 wd7 FF7 MM7 => ?_)
  by_cases hlt : i < n
  · skip
    refine then_n (.inl ⟨(FF7.ev 0 rfl).trans (dec_t hlt), ?_⟩)
    have hfi := hf.1 i hlt
    refine wp_seq (rg_seq FF7 MM7 [o_, f_ (.pointer (some ⟨gOf p, oOf p + i, none⟩)), f_ (iN (f i)), o_, o_] [24, 23, 22, 6, 0, 1, 7, 8] (fun Kt => RunV Try.prog [(26, iN i), (25, .bool (decide (i < n))), (24, iN i), (23, iN n), (22, .slice p n c), (6, .slice (some ⟨bl, 0, none⟩) n n), (0, .slice p n c), (1, .slice q n d)] ((bl, .cells (fc n (fun k9 => sB (layI f s i k9))) 9) :: O) (opAt Try.f15 6 1) (.pointer (some ⟨gOf p, oOf p + i, none⟩)) ∧ RunV Try.prog [(27, .pointer (some ⟨gOf p, oOf p + i, none⟩)), (26, iN i), (25, .bool (decide (i < n))), (24, iN i), (23, iN n), (22, .slice p n c), (6, .slice (some ⟨bl, 0, none⟩) n n), (0, .slice p n c), (1, .slice q n d)] ((bl, .cells (fc n (fun k9 => sB (layI f s i k9))) 9) :: O) (opAt Try.f15 6 2) (iN (f i)) ∧ Kt [(8, iN (f i)), (7, iN i), (24, iN i), (23, iN n), (22, .slice p n c), (6, .slice (some ⟨bl, 0, none⟩) n n), (0, .slice p n c), (1, .slice q n d)] ((bl, .cells (fc n (fun k9 => sB (layI f s i k9))) 9) :: O)) (by kernel_rfl) (fun _ => by kernel_rfl) (⟨(rowX_addr (x := (.tmp 22)) (y := (.tmp 24)) (k := 1) (i := i) (by kernel_rfl) rfl rfl Try.underlying23 (by kernel_rfl) hF (by omega) (by omega)), (rowX_load (x := (.tmp 27)) (j := i) (by kernel_rfl) rfl Try.underlying3 rfl hF (fun _ hx => List.mem_cons_of_mem _ (hx)) (by omega) rfl), fun ac8 wd8 FF8 MM8 => then_n ?_⟩))
    refine rg_seq FF8 MM8 [o_, o_, o_, o_, f_ (.pointer (some ⟨gOf q, oOf q + f i, none⟩)), f_ (sB (s (f i))), w_ 1, s_ 0 (.cells (fc n (fun k9 => sB (layI f s (i + 1) k9))) 9)] [8, 7, 24, 23, 22, 6, 0, 1] (fun Kt => RunV Try.prog [(32, iN (f i)), (31, .slice q n d), (30, iN i), (29, .slice (some ⟨bl, 0, none⟩) n n), (8, iN (f i)), (7, iN i), (24, iN i), (23, iN n), (22, .slice p n c), (6, .slice (some ⟨bl, 0, none⟩) n n), (0, .slice p n c), (1, .slice q n d)] ((bl, .cells (fc n (fun k9 => sB (layI f s i k9))) 9) :: O) (opAt Try.f15 7 4) (.pointer (some ⟨gOf q, oOf q + f i, none⟩)) ∧ RunV Try.prog [(33, .pointer (some ⟨gOf q, oOf q + f i, none⟩)), (32, iN (f i)), (31, .slice q n d), (30, iN i), (29, .slice (some ⟨bl, 0, none⟩) n n), (8, iN (f i)), (7, iN i), (24, iN i), (23, iN n), (22, .slice p n c), (6, .slice (some ⟨bl, 0, none⟩) n n), (0, .slice p n c), (1, .slice q n d)] ((bl, .cells (fc n (fun k9 => sB (layI f s i k9))) 9) :: O) (opAt Try.f15 7 5) (sB (s (f i))) ∧ i < n ∧ bl = bl ∧ i < (fc n (fun k9 => sB (layI f s i k9))).size ∧ (((0, 0)).2 = 0 ∨ i < ((0, 0)).1) ∧ (fc n (fun k9 => sB (layI f s i k9))).setIfInBounds i (sB (s (f i))) = fc n (fun k9 => sB (layI f s (i + 1) k9)) ∧ Kt [(8, iN (f i)), (7, iN i), (24, iN i), (23, iN n), (22, .slice p n c), (6, .slice (some ⟨bl, 0, none⟩) n n), (0, .slice p n c), (1, .slice q n d)] ((bl, .cells (fc n (fun k9 => sB (layI f s (i + 1) k9))) 9) :: O)) (by kernel_rfl) (fun _ => by kernel_rfl) (⟨(rowX_addr (x := (.tmp 31)) (y := (.tmp 32)) (k := 1) (i := f i) (by kernel_rfl) rfl rfl Try.underlying24 (by kernel_rfl) hG (by omega) hfi), (rowX_load (x := (.tmp 33)) (j := f i) (by kernel_rfl) rfl Try.underlying9 rfl hG (fun _ hx => List.mem_cons_of_mem _ (hx)) (by omega) rfl), (by omega), rfl, (by rw [fc_size]; exact hlt), (.inl rfl), ((fc_set _ _ _ _).trans (fc_cong fun k _ => ite_str.trans (vS (lay_set f s i k)))), fun ac9 wd9 FF9 MM9 => ?_⟩)
    refine inb_n (then_n ?_)
    refine rg_seq FF9 MM9 [o_, o_] [8, 7, 24, 23, 22, 6, 0, 1] (fun Kt => i + 1 < 9223372036854775808 ∧ Kt [(24, iN (i + 1)), (8, iN (f i)), (7, iN i), (23, iN n), (22, .slice p n c), (6, .slice (some ⟨bl, 0, none⟩) n n), (0, .slice p n c), (1, .slice q n d)] ((bl, .cells (fc n (fun k9 => sB (layI f s (i + 1) k9))) 9) :: O)) (by kernel_rfl) (fun _ => by kernel_rfl) (⟨(by omega), fun ac10 wd10 FF10 MM10 => ?_⟩)
    have hd := cnt_of (FF10.get 0 rfl)
    refine then_n ⟨⟨i + 1, by omega, FF10.pick [0, 3, 4, 5, 6, 7], MM10⟩, ?_⟩
    rw [hc, hd]; omega
  · skip
    refine then_n (.inr ⟨(FF7.ev 0 rfl).trans (dec_f hlt), ?_⟩)
    obtain rfl : n = i := by omega
    have MMr11 : MemS (fun k => k < w0.heap.size ∧ ∀ x ∈ O, x.1 ≠ k) w0 wd7 ((bl, .cells (fc n (fun k9 => sB (s (f k9)))) 9) :: O) [] := by rw [show fc n (fun k9 => sB (s (f k9))) = fc n (fun k9 => sB (layI f s n k9)) from fc_cong fun k hk => vS (lay_at hk).symm]; exact MM7
    refine then_n ?_
    refine wp_seq (rg_seq FF7 MMr11 [o_, o_, o_] [24, 23, 22, 6, 0, 1, 4, 5] (fun Kt => Kt [(5, .bool true), (4, .slice (some ⟨bl, 0, none⟩) n n), (24, iN n), (23, iN n), (22, .slice p n c), (6, .slice (some ⟨bl, 0, none⟩) n n), (0, .slice p n c), (1, .slice q n d)] ((bl, .cells (fc n (fun k9 => sB (s (f k9)))) 9) :: O)) (by kernel_rfl) (fun _ => by kernel_rfl) (fun ac12 wd12 FF12 MM12 => then_n ?_))
    refine wp_ret ?_
    repeat first | refine then_ret ?_ | refine inb_ret ?_
    exact (ret_tup2 FF12 1 0 Try.results15 rfl rfl ⟨.slice (some ⟨bl, 0, none⟩) n n, rfl, MM12.belowN H (fun _ hx => List.mem_cons_of_mem _ (hx)), rowNew_fc (MM12.get 0 rfl) (MM12.newest (fun _ hx => hx))⟩)
theorem olay_w (p : Option Addr) (n c : Nat) (q : Option Addr) (d : Nat) (f : Nat → Nat) (s : Nat → List Nat) (hn : n ≤ 1000000) (hf : IsOrd n f) (w : World) (hF : RowIn w p n (fun k9 => iN (f k9))) (hG : RowIn w q n (fun k9 => sB (s k9))) :
    Calls Try.prog 15 #[.slice p n c, .slice q n d] w fun e w' => ∃ v, e = .returned (.tuple #[.slice (pOf v) n (cOf v), .bool true]) ∧ Below w.heap.size w w' ∧ RowNew w.heap.size w' (pOf v) n (fun k9 => sB (s (f k9))) := by
  obtain ⟨O, h1, h2, h3, h4⟩ := row_O2 hF hG
  exact olay_O O h2 p n c q d f s hn hf h3 h4 w h1
end Go.Proofs.Ytdckihmiggcpfaa
namespace Go.Proofs.Ytdckihmiggcpfaa
open Go.RowKit
theorem shL_no {t n : Nat} {X : List Nat} (h : ¬ (shufN t n (fun k => k) X).2.1 = 0) : shL t n X = 0 := by rw [shL, if_neg h]
theorem shL_ok {t n : Nat} {X : List Nat} (h : (shufN t n (fun k => k) X).2.1 = 0) : shL t n X = n := by rw [shL, if_pos h]
set_option maxRecDepth 100000 in
theorem oshuf_ok (g : Nat) (X : List Nat) (u : Nat) (hX : ∀ i, X.getD i 0 < 256) (hu : u < 1000000000) (n t : Nat) (hn : n ≤ 64) (h1 : 1 ≤ t) (ht : t ≤ 16) (w0 : World) (hg : w0.heap[g]? = some (TB X u)) :
    Calls Try.prog 9 #[pT g, iN n, iN t] w0 fun e w' => ∃ v, e = .returned (.tuple #[.slice (pOf v) (shL t n X) (cOf v), iN ((shufN t n (fun k => k) X).2.1)]) ∧ Turn g (TB (X.drop (shufN t n (fun k => k) X).2.2) (u + (shufN t n (fun k => k) X).2.2)) w0 w' ∧ RowNew w0.heap.size w' (pOf v) (shL t n X) (fun k9 => iN ((shufN t n (fun k => k) X).1 k9)) := by
  refine enter_fr Try.func9 rfl Try.ntmps9 (by simp) fun ac (FF : Fr 61 ac [(0, pT g), (1, iN n), (2, iN t)]) => ?_
  have MM : MemS (fun k => k < w0.heap.size ∧ ∀ x ∈ (g, oC #[sB X, iN u] 53) :: ([] : Blks), x.1 ≠ k) w0 w0 ((g, oC #[sB X, iN u] 53) :: ([] : Blks)) [] := MemS.startN (one_has hg) ⟨fun y hy => (nomatch hy), trivial⟩
  refine wp_seq (rg_seq FF MM [o_, o_] [0, 1, 2, 6, 7] (fun Kt => Kt [(7, iN 0), (6, .slice none 0 0), (0, pT g), (1, iN n), (2, iN t)] ((g, oC #[sB X, iN u] 53) :: ([] : Blks))) (by kernel_rfl) (fun _ => by kernel_rfl) (fun ac1 wd1 FF1 MM1 => then_n ?_))
  refine wp_seq ?_
  refine wp_seq (rg_seq FF1 MM1 [o_, f_ (.bool false), o_, o_, w_ 3, o_, o_, o_, w_ 3, o_, o_, o_, t_ (.bool true), o_, o_] [7, 6, 0, 1, 2, 26] (fun Kt => RunV Try.prog [(12, pT g), (7, iN 0), (6, .slice none 0 0), (0, pT g), (1, iN n), (2, iN t)] ((g, oC #[sB X, iN u] 53) :: ([] : Blks)) (opAt Try.f9 1 1) (.bool false) ∧ ¬ (n < 0) ∧ ¬ (n > 64) ∧ CallP Try.prog 19 [iN t] [] (.bool true) ∧ Kt [(26, .bool false), (7, iN 0), (6, .slice none 0 0), (0, pT g), (1, iN n), (2, iN t)] ((g, oC #[sB X, iN u] 53) :: ([] : Blks))) (by kernel_rfl) (fun _ => by kernel_rfl) (⟨(ptrSome_ok (t := 28) (t' := 28) (x := (.tmp 12)) (y := (.const (.pointer none))) (by kernel_rfl) rfl rfl Try.underlying28), (by omega), (by omega), (callP_of en_omay (omay_yes t (by omega) (by omega)) _), fun ac2 wd2 FF2 MM2 => then_n ?_⟩))
  refine wp_cond_false (FF2.ev 0 rfl) ?_
  refine wp_skip ?_
  refine then_n ?_
  refine wp_seq (wp_region_list ?_)
  refine rg_part 1 FF2 MM2 [o_] [7, 6, 0, 1, 2, 27] (fun Kt => Kt [(27, iN n), (7, iN 0), (6, .slice none 0 0), (0, pT g), (1, iN n), (2, iN t)] ((g, oC #[sB X, iN u] 53) :: ([] : Blks))) (by kernel_rfl) (fun _ => by kernel_rfl) (fun ac3 wd3 FF3 MM3 => ?_)
  refine st_callE [7, 6, 0, 1, 2, 28] FF3 (d := 28) (mk := fun v => v) en_inrow rfl rfl (inrow_any n (by omega) _) rfl (by kernel_rfl) (by decide) fun ac5 wd5 lv4 (FF5 : Fr 61 ac5 [(28, lv4), (7, iN 0), (6, .slice none 0 0), (0, pT g), (1, iN n), (2, iN t)]) hr6 => ?_
  obtain ⟨gl, rfl, hB_gl, hf_gl, hb_gl⟩ := hr6
  have MM7 := MM3.keep hB_gl
  have hz_gl := MM3.size
  have MM8 : MemS (fun k => k < w0.heap.size ∧ ∀ x ∈ (g, oC #[sB X, iN u] 53) :: ([] : Blks), x.1 ≠ k) w0 wd5 ((gl, .cells (fc n (fun k9 => iN k9)) 3) :: (g, oC #[sB X, iN u] 53) :: ([] : Blks)) [] := MM3.addFresh MM7 hb_gl hf_gl
  refine rg_part 1 FF5 MM8 [o_] [7, 6, 0, 1, 2, 8] (fun Kt => Kt [(8, .slice (some ⟨gl, 0, none⟩) n n), (7, iN 0), (6, .slice none 0 0), (0, pT g), (1, iN n), (2, iN t)] ((gl, .cells (fc n (fun k9 => iN k9)) 3) :: (g, oC #[sB X, iN u] 53) :: ([] : Blks))) (by kernel_rfl) (fun _ => by kernel_rfl) (fun ac9 wd9 FF9 MM9 => ?_)
  refine wpl_nil (then_n ?_)
  refine wp_seq ?_
  refine wp_seq (rg_seq FF9 MM9 [o_, u_ 4 (.int .i64 (((n : Nat) : Int) - 1 : Int)), o_] [8, 7, 6, 0, 1, 2, 9] (fun Kt => -(9223372036854775808 : Int) ≤ ((n : Nat) : Int) - ((1 : Nat) : Int) ∧ ((n : Nat) : Int) - ((1 : Nat) : Int) < (9223372036854775808 : Nat) ∧ Value.int .i64 (((n : Nat) : Int) - ((1 : Nat) : Int) : Int) = .int .i64 (((n : Nat) : Int) - 1 : Int) ∧ Kt [(9, .int .i64 (((n : Nat) : Int) - 1 : Int)), (8, .slice (some ⟨gl, 0, none⟩) n n), (7, iN 0), (6, .slice none 0 0), (0, pT g), (1, iN n), (2, iN t)] ((gl, .cells (fc n (fun k9 => iN k9)) 3) :: (g, oC #[sB X, iN u] 53) :: ([] : Blks))) (by kernel_rfl) (fun _ => by kernel_rfl) (⟨(by have := hn; omega), (by have := hn; omega), (vZ (by omega)), fun ac10 wd10 FF10 MM10 => then_n ?_⟩))
  refine wp_for2 (fun a' w' => ∃ j : Nat, ∃ f : Nat → Nat, ∃ uu : Nat, j ≤ n ∧ ShI t n (X) j f uu ∧ uu + 32 * j ≤ 32 * n ∧ Fr 61 a' [(9, .int .i64 (((j : Nat) : Int) - 1 : Int)), (8, .slice (some ⟨gl, 0, none⟩) n n), (0, pT g), (1, iN n), (2, iN t)] ∧ MemS (fun k => k < w0.heap.size ∧ ∀ x ∈ (g, oC #[sB X, iN u] 53) :: ([] : Blks), x.1 ≠ k) w0 w' ((gl, .cells (fc n (fun k9 => iN (f k9))) 3) :: (g, oC #[sB (X.drop uu), iN (u + uu)] 53) :: ([] : Blks)) []) (fun a' _ => (cnt 9 a' + 1).toNat) ⟨n, (fun k => k), 0, Nat.le_refl _, sh_start _ _ _, (by omega), FF10.pick [0, 1, 4, 5, 6], MM10⟩ ?_
  rintro ac11 wd11 ⟨j, f, uu, hj, hI, hub, FF11, MM11⟩
  have hc := cnt_of (FF11.get 0 rfl)
  refine rg_seq FF11 MM11 [o_, w_ 4] [9, 8, 0, 1, 2, 32] (fun Kt => Kt [(32, .bool (decide ((((j : Nat) : Int) - 1) ≥ ((1 : Nat) : Int)))), (9, .int .i64 (((j : Nat) : Int) - 1 : Int)), (8, .slice (some ⟨gl, 0, none⟩) n n), (0, pT g), (1, iN n), (2, iN t)] ((gl, .cells (fc n (fun k9 => iN (f k9))) 3) :: (g, oC #[sB (X.drop uu), iN (u + uu)] 53) :: ([] : Blks))) (by kernel_rfl) (fun _ => by kernel_rfl) (fun ac12 wd12 FF12 MM12 => ?_)
  by_cases hlt : (((j : Nat) : Int) - 1) ≥ ((1 : Nat) : Int)
  · skip
    refine then_n (.inl ⟨(FF12.ev 0 rfl).trans (dec_t hlt), ?_⟩)
    obtain ⟨i, rfl⟩ : ∃ z, j = z + 2 := ⟨j - 2, by omega⟩
    have FFz13 : Fr 61 ac12 [(32, .bool (decide (((((i + 2) : Nat) : Int) - 1) ≥ ((1 : Nat) : Int)))), (9, iN (i + 1)), (8, .slice (some ⟨gl, 0, none⟩) n n), (0, pT g), (1, iN n), (2, iN t)] := by rw [show iN (i + 1) = Value.int .i64 (((i + 2 : Nat) : Int) - 1) from vZ (by omega)]; exact FF12
    have hbd : (belN (i + 2) t (X.drop uu)).2.2 ≤ 32 := Nat.le_trans (bel_bd _ _ _) (by omega)
    refine wp_seq (rg_seq FFz13 MM12 [o_, o_, t_ (iN (i + 2)), o_, c_ (.tuple #[iN ((belN (i + 2) t (X.drop uu)).1), iN ((belN (i + 2) t (X.drop uu)).2.1)]) [(1, oC #[sB (X.drop (uu + (belN (i + 2) t (X.drop uu)).2.2)), iN (u + (uu + (belN (i + 2) t (X.drop uu)).2.2))] 53)], o_, o_, o_, o_, o_] [9, 8, 0, 1, 2, 10, 11] (fun Kt => (i + 1) + 1 < 9223372036854775808 ∧ iN ((i + 1) + 1) = iN (i + 2) ∧ CallU Try.prog 21 [pT g, iN (i + 2), iN t] ((gl, .cells (fc n (fun k9 => iN (f k9))) 3) :: (g, oC #[sB (X.drop uu), iN (u + uu)] 53) :: ([] : Blks)) (.tuple #[iN ((belN (i + 2) t (X.drop uu)).1), iN ((belN (i + 2) t (X.drop uu)).2.1)]) [(1, oC #[sB (X.drop (uu + (belN (i + 2) t (X.drop uu)).2.2)), iN (u + (uu + (belN (i + 2) t (X.drop uu)).2.2))] 53)] ∧ Kt [(11, iN ((belN (i + 2) t (X.drop uu)).2.1)), (10, iN ((belN (i + 2) t (X.drop uu)).1)), (9, iN (i + 1)), (8, .slice (some ⟨gl, 0, none⟩) n n), (0, pT g), (1, iN n), (2, iN t)] ((gl, .cells (fc n (fun k9 => iN (f k9))) 3) :: (g, oC #[sB (X.drop (uu + (belN (i + 2) t (X.drop uu)).2.2)), iN (u + (uu + (belN (i + 2) t (X.drop uu)).2.2))] 53) :: ([] : Blks))) (by kernel_rfl) (fun _ => by kernel_rfl) (⟨(by omega), (vI (by omega)), (callU_turn en_tbelow (g := g) (ob := TB (X.drop uu) (u + uu)) rfl fun w hg => by have h0 := tbelow_any g (X.drop uu) (u + uu) (dropX_lt hX _) (by omega) (i + 2) t (by omega) (by omega) (by omega) (by omega) w hg; rw [List.drop_drop, Nat.add_assoc] at h0; exact h0), fun ac14 wd14 FF14 MM14 => then_n ?_⟩))
    refine wp_seq ?_
    refine wp_seq (rg_seq FF14 MM14 [o_, o_] [11, 10, 9, 8, 0, 1, 2, 44] (fun Kt => Kt [(44, .bool (decide (((belN (i + 2) t (X.drop uu)).2.1) ≠ 0))), (11, iN ((belN (i + 2) t (X.drop uu)).2.1)), (10, iN ((belN (i + 2) t (X.drop uu)).1)), (9, iN (i + 1)), (8, .slice (some ⟨gl, 0, none⟩) n n), (0, pT g), (1, iN n), (2, iN t)] ((gl, .cells (fc n (fun k9 => iN (f k9))) 3) :: (g, oC #[sB (X.drop (uu + (belN (i + 2) t (X.drop uu)).2.2)), iN (u + (uu + (belN (i + 2) t (X.drop uu)).2.2))] 53) :: ([] : Blks))) (by kernel_rfl) (fun _ => by kernel_rfl) (fun ac15 wd15 FF15 MM15 => then_n ?_))
    by_cases hs44 : ((belN (i + 2) t (X.drop uu)).2.1) ≠ 0
    · refine wp_cond_true ((FF15.ev 0 rfl).trans (dec_t hs44)) ?_
      have hs := hs44
      have hE := sh_no hI hs
      refine wp_seq (rg_seq FF15 MM15 [o_, o_, o_] [11, 10, 9, 8, 0, 1, 2, 6, 7] (fun Kt => Kt [(7, iN ((belN (i + 2) t (X.drop uu)).2.1)), (6, .slice none 0 0), (11, iN ((belN (i + 2) t (X.drop uu)).2.1)), (10, iN ((belN (i + 2) t (X.drop uu)).1)), (9, iN (i + 1)), (8, .slice (some ⟨gl, 0, none⟩) n n), (0, pT g), (1, iN n), (2, iN t)] ((gl, .cells (fc n (fun k9 => iN (f k9))) 3) :: (g, oC #[sB (X.drop (uu + (belN (i + 2) t (X.drop uu)).2.2)), iN (u + (uu + (belN (i + 2) t (X.drop uu)).2.2))] 53) :: ([] : Blks))) (by kernel_rfl) (fun _ => by kernel_rfl) (fun ac16 wd16 FF16 MM16 => then_n ?_))
      refine wp_ret ?_
      repeat first | refine then_ret ?_ | refine inb_ret ?_
      exact (ret_tup2 FF16 1 0 Try.results9 rfl rfl (by rw [shL_no (by rw [hE]; exact hs), hE]; exact ⟨.slice none 0 0, rfl, MM16.turn (O := []) (fun i x hx => by simp at hx) 1 rfl (fun x hx => (nomatch hx)), .inl rfl⟩))
    · refine wp_cond_false ((FF15.ev 0 rfl).trans (dec_f hs44)) ?_
      have he : (belN (i + 2) t (X.drop uu)).2.1 = 0 := by omega
      have hbl : (belN (i + 2) t (X.drop uu)).1 < i + 2 := bel_lt (by omega) _ _ he
      have hI2 := sh_yes hI he
      refine wp_skip ?_
      refine then_n ?_
      have hil : i + 1 < n := by omega
      have hjl : (belN (i + 2) t (X.drop uu)).1 < n := by omega
      refine draw_open (N := 16) (by kernel_rfl) (by kernel_rfl) MM15 fun wd17 (MM18 : MemS (fun k => k < w0.heap.size ∧ ∀ x ∈ (g, oC #[sB X, iN u] 53) :: ([] : Blks), x.1 ≠ k) w0 wd17 ((gl, .cells (fc n (fun k9 => iN (f k9))) 3) :: (g, oC #[sB (X.drop (uu + (belN (i + 2) t (X.drop uu)).2.2)), iN (u + (uu + (belN (i + 2) t (X.drop uu)).2.2))] 53) :: ([] : Blks)) []) => ?_
      refine take_op FF15 (i := 0) (oi := opAt Try.f9 10 0) (v := (.slice (some ⟨gl, 0, none⟩) n n)) (d := 46) (by kernel_rfl) (by kernel_rfl) (by kernel_rfl) (by kernel_rfl) (fun _ _ _ _ _ h => h) (by kernel_rfl) (by decide) (by kernel_rfl) (mvV (x := .tmp 8) (by kernel_rfl) rfl) fun ac19 (FF20 : Fr 61 ac19 [(46, .slice (some ⟨gl, 0, none⟩) n n), (44, .bool (decide (((belN (i + 2) t (X.drop uu)).2.1) ≠ 0))), (11, iN ((belN (i + 2) t (X.drop uu)).2.1)), (10, iN ((belN (i + 2) t (X.drop uu)).1)), (9, iN (i + 1)), (8, .slice (some ⟨gl, 0, none⟩) n n), (0, pT g), (1, iN n), (2, iN t)]) => ?_
      refine take_op FF20 (i := 1) (oi := opAt Try.f9 10 1) (v := (iN (i + 1))) (d := 47) (by kernel_rfl) (by kernel_rfl) (by kernel_rfl) (by kernel_rfl) (fun _ _ _ _ _ h => h) (by kernel_rfl) (by decide) (by kernel_rfl) (mvV (x := .tmp 9) (by kernel_rfl) rfl) fun ac21 (FF22 : Fr 61 ac21 [(47, iN (i + 1)), (46, .slice (some ⟨gl, 0, none⟩) n n), (44, .bool (decide (((belN (i + 2) t (X.drop uu)).2.1) ≠ 0))), (11, iN ((belN (i + 2) t (X.drop uu)).2.1)), (10, iN ((belN (i + 2) t (X.drop uu)).1)), (9, iN (i + 1)), (8, .slice (some ⟨gl, 0, none⟩) n n), (0, pT g), (1, iN n), (2, iN t)]) => ?_
      refine take_op FF22 (i := 2) (oi := opAt Try.f9 10 2) (v := (.slice (some ⟨gl, 0, none⟩) n n)) (d := 48) (by kernel_rfl) (by kernel_rfl) (by kernel_rfl) (by kernel_rfl) (fun _ _ _ _ _ h => h) (by kernel_rfl) (by decide) (by kernel_rfl) (mvV (x := .tmp 8) (by kernel_rfl) rfl) fun ac23 (FF24 : Fr 61 ac23 [(48, .slice (some ⟨gl, 0, none⟩) n n), (47, iN (i + 1)), (46, .slice (some ⟨gl, 0, none⟩) n n), (44, .bool (decide (((belN (i + 2) t (X.drop uu)).2.1) ≠ 0))), (11, iN ((belN (i + 2) t (X.drop uu)).2.1)), (10, iN ((belN (i + 2) t (X.drop uu)).1)), (9, iN (i + 1)), (8, .slice (some ⟨gl, 0, none⟩) n n), (0, pT g), (1, iN n), (2, iN t)]) => ?_
      refine take_op FF24 (i := 3) (oi := opAt Try.f9 10 3) (v := (iN ((belN (i + 2) t (X.drop uu)).1))) (d := 49) (by kernel_rfl) (by kernel_rfl) (by kernel_rfl) (by kernel_rfl) (fun _ _ _ _ _ h => h) (by kernel_rfl) (by decide) (by kernel_rfl) (mvV (x := .tmp 10) (by kernel_rfl) rfl) fun ac25 (FF26 : Fr 61 ac25 [(49, iN ((belN (i + 2) t (X.drop uu)).1)), (48, .slice (some ⟨gl, 0, none⟩) n n), (47, iN (i + 1)), (46, .slice (some ⟨gl, 0, none⟩) n n), (44, .bool (decide (((belN (i + 2) t (X.drop uu)).2.1) ≠ 0))), (11, iN ((belN (i + 2) t (X.drop uu)).2.1)), (10, iN ((belN (i + 2) t (X.drop uu)).1)), (9, iN (i + 1)), (8, .slice (some ⟨gl, 0, none⟩) n n), (0, pT g), (1, iN n), (2, iN t)]) => ?_
      refine take_op FF26 (i := 4) (oi := opAt Try.f9 10 4) (v := (.slice (some ⟨gl, 0, none⟩) n n)) (d := 50) (by kernel_rfl) (by kernel_rfl) (by kernel_rfl) (by kernel_rfl) (fun _ _ _ _ _ h => h) (by kernel_rfl) (by decide) (by kernel_rfl) (mvV (x := .tmp 8) (by kernel_rfl) rfl) fun ac27 (FF28 : Fr 61 ac27 [(50, .slice (some ⟨gl, 0, none⟩) n n), (49, iN ((belN (i + 2) t (X.drop uu)).1)), (48, .slice (some ⟨gl, 0, none⟩) n n), (47, iN (i + 1)), (46, .slice (some ⟨gl, 0, none⟩) n n), (44, .bool (decide (((belN (i + 2) t (X.drop uu)).2.1) ≠ 0))), (11, iN ((belN (i + 2) t (X.drop uu)).2.1)), (10, iN ((belN (i + 2) t (X.drop uu)).1)), (9, iN (i + 1)), (8, .slice (some ⟨gl, 0, none⟩) n n), (0, pT g), (1, iN n), (2, iN t)]) => ?_
      refine take_op FF28 (i := 5) (oi := opAt Try.f9 10 5) (v := (iN ((belN (i + 2) t (X.drop uu)).1))) (d := 51) (by kernel_rfl) (by kernel_rfl) (by kernel_rfl) (by kernel_rfl) (fun _ _ _ _ _ h => h) (by kernel_rfl) (by decide) (by kernel_rfl) (mvV (x := .tmp 10) (by kernel_rfl) rfl) fun ac29 (FF30 : Fr 61 ac29 [(51, iN ((belN (i + 2) t (X.drop uu)).1)), (50, .slice (some ⟨gl, 0, none⟩) n n), (49, iN ((belN (i + 2) t (X.drop uu)).1)), (48, .slice (some ⟨gl, 0, none⟩) n n), (47, iN (i + 1)), (46, .slice (some ⟨gl, 0, none⟩) n n), (44, .bool (decide (((belN (i + 2) t (X.drop uu)).2.1) ≠ 0))), (11, iN ((belN (i + 2) t (X.drop uu)).2.1)), (10, iN ((belN (i + 2) t (X.drop uu)).1)), (9, iN (i + 1)), (8, .slice (some ⟨gl, 0, none⟩) n n), (0, pT g), (1, iN n), (2, iN t)]) => ?_
      refine take_op FF30 (i := 6) (oi := opAt Try.f9 10 6) (v := (.pointer (some ⟨gl, (belN (i + 2) t (X.drop uu)).1, none⟩))) (d := 52) (by kernel_rfl) (by kernel_rfl) (by kernel_rfl) (by kernel_rfl) (fun _ _ _ _ _ h => h) (by kernel_rfl) (by decide) (by kernel_rfl) (addrV (x := .tmp 50) (y := .tmp 51) (t := 23) (by kernel_rfl) rfl rfl Try.underlying23 (by kernel_rfl) hjl) fun ac31 (FF32 : Fr 61 ac31 [(52, .pointer (some ⟨gl, (belN (i + 2) t (X.drop uu)).1, none⟩)), (51, iN ((belN (i + 2) t (X.drop uu)).1)), (50, .slice (some ⟨gl, 0, none⟩) n n), (49, iN ((belN (i + 2) t (X.drop uu)).1)), (48, .slice (some ⟨gl, 0, none⟩) n n), (47, iN (i + 1)), (46, .slice (some ⟨gl, 0, none⟩) n n), (44, .bool (decide (((belN (i + 2) t (X.drop uu)).2.1) ≠ 0))), (11, iN ((belN (i + 2) t (X.drop uu)).2.1)), (10, iN ((belN (i + 2) t (X.drop uu)).1)), (9, iN (i + 1)), (8, .slice (some ⟨gl, 0, none⟩) n n), (0, pT g), (1, iN n), (2, iN t)]) => ?_
      refine take_op FF32 (i := 8) (oi := opAt Try.f9 10 8) (v := (.slice (some ⟨gl, 0, none⟩) n n)) (d := 54) (by kernel_rfl) (by kernel_rfl) (by kernel_rfl) (by kernel_rfl) (fun _ _ _ _ _ h => h) (by kernel_rfl) (by decide) (by kernel_rfl) (mvV (x := .tmp 8) (by kernel_rfl) rfl) fun ac33 (FF34 : Fr 61 ac33 [(54, .slice (some ⟨gl, 0, none⟩) n n), (52, .pointer (some ⟨gl, (belN (i + 2) t (X.drop uu)).1, none⟩)), (51, iN ((belN (i + 2) t (X.drop uu)).1)), (50, .slice (some ⟨gl, 0, none⟩) n n), (49, iN ((belN (i + 2) t (X.drop uu)).1)), (48, .slice (some ⟨gl, 0, none⟩) n n), (47, iN (i + 1)), (46, .slice (some ⟨gl, 0, none⟩) n n), (44, .bool (decide (((belN (i + 2) t (X.drop uu)).2.1) ≠ 0))), (11, iN ((belN (i + 2) t (X.drop uu)).2.1)), (10, iN ((belN (i + 2) t (X.drop uu)).1)), (9, iN (i + 1)), (8, .slice (some ⟨gl, 0, none⟩) n n), (0, pT g), (1, iN n), (2, iN t)]) => ?_
      refine take_op FF34 (i := 9) (oi := opAt Try.f9 10 9) (v := (iN (i + 1))) (d := 55) (by kernel_rfl) (by kernel_rfl) (by kernel_rfl) (by kernel_rfl) (fun _ _ _ _ _ h => h) (by kernel_rfl) (by decide) (by kernel_rfl) (mvV (x := .tmp 9) (by kernel_rfl) rfl) fun ac35 (FF36 : Fr 61 ac35 [(55, iN (i + 1)), (54, .slice (some ⟨gl, 0, none⟩) n n), (52, .pointer (some ⟨gl, (belN (i + 2) t (X.drop uu)).1, none⟩)), (51, iN ((belN (i + 2) t (X.drop uu)).1)), (50, .slice (some ⟨gl, 0, none⟩) n n), (49, iN ((belN (i + 2) t (X.drop uu)).1)), (48, .slice (some ⟨gl, 0, none⟩) n n), (47, iN (i + 1)), (46, .slice (some ⟨gl, 0, none⟩) n n), (44, .bool (decide (((belN (i + 2) t (X.drop uu)).2.1) ≠ 0))), (11, iN ((belN (i + 2) t (X.drop uu)).2.1)), (10, iN ((belN (i + 2) t (X.drop uu)).1)), (9, iN (i + 1)), (8, .slice (some ⟨gl, 0, none⟩) n n), (0, pT g), (1, iN n), (2, iN t)]) => ?_
      refine take_op FF36 (i := 10) (oi := opAt Try.f9 10 10) (v := (.pointer (some ⟨gl, i + 1, none⟩))) (d := 56) (by kernel_rfl) (by kernel_rfl) (by kernel_rfl) (by kernel_rfl) (fun _ _ _ _ _ h => h) (by kernel_rfl) (by decide) (by kernel_rfl) (addrV (x := .tmp 54) (y := .tmp 55) (t := 23) (by kernel_rfl) rfl rfl Try.underlying23 (by kernel_rfl) hil) fun ac37 (FF38 : Fr 61 ac37 [(56, .pointer (some ⟨gl, i + 1, none⟩)), (55, iN (i + 1)), (54, .slice (some ⟨gl, 0, none⟩) n n), (52, .pointer (some ⟨gl, (belN (i + 2) t (X.drop uu)).1, none⟩)), (51, iN ((belN (i + 2) t (X.drop uu)).1)), (50, .slice (some ⟨gl, 0, none⟩) n n), (49, iN ((belN (i + 2) t (X.drop uu)).1)), (48, .slice (some ⟨gl, 0, none⟩) n n), (47, iN (i + 1)), (46, .slice (some ⟨gl, 0, none⟩) n n), (44, .bool (decide (((belN (i + 2) t (X.drop uu)).2.1) ≠ 0))), (11, iN ((belN (i + 2) t (X.drop uu)).2.1)), (10, iN ((belN (i + 2) t (X.drop uu)).1)), (9, iN (i + 1)), (8, .slice (some ⟨gl, 0, none⟩) n n), (0, pT g), (1, iN n), (2, iN t)]) => ?_
      refine take_two FF38 MM18.hasL (i := 7) (j := 11) (oi := opAt Try.f9 10 7) (oj := opAt Try.f9 10 11) (u := (iN (f ((belN (i + 2) t (X.drop uu)).1)))) (v := (iN (f (i + 1)))) (d := 53) (e := 57) (by kernel_rfl) (by kernel_rfl) (by kernel_rfl) (by kernel_rfl) (by kernel_rfl) (by kernel_rfl) (by kernel_rfl) (by decide) (by decide) (by decide) (by decide) (by kernel_rfl) (by kernel_rfl) (by kernel_rfl) (by kernel_rfl) (loadV (x := .tmp 52) (t := 3) (by kernel_rfl) rfl Try.underlying3 rfl (List.mem_of_getElem? (i := 0) rfl) (fc_get _ hjl)) (loadV (x := .tmp 56) (t := 3) (by kernel_rfl) rfl Try.underlying3 rfl (List.mem_of_getElem? (i := 0) rfl) (fc_get _ hil)) (loadV (x := .tmp 52) (t := 3) (by kernel_rfl) rfl Try.underlying3 rfl (List.mem_of_getElem? (i := 0) rfl) (fc_get _ hjl)) (loadV (x := .tmp 56) (t := 3) (by kernel_rfl) rfl Try.underlying3 rfl (List.mem_of_getElem? (i := 0) rfl) (fc_get _ hil)) fun ac39 (FF40 : Fr 61 ac39 [(57, iN (f (i + 1))), (53, iN (f ((belN (i + 2) t (X.drop uu)).1))), (56, .pointer (some ⟨gl, i + 1, none⟩)), (55, iN (i + 1)), (54, .slice (some ⟨gl, 0, none⟩) n n), (52, .pointer (some ⟨gl, (belN (i + 2) t (X.drop uu)).1, none⟩)), (51, iN ((belN (i + 2) t (X.drop uu)).1)), (50, .slice (some ⟨gl, 0, none⟩) n n), (49, iN ((belN (i + 2) t (X.drop uu)).1)), (48, .slice (some ⟨gl, 0, none⟩) n n), (47, iN (i + 1)), (46, .slice (some ⟨gl, 0, none⟩) n n), (44, .bool (decide (((belN (i + 2) t (X.drop uu)).2.1) ≠ 0))), (11, iN ((belN (i + 2) t (X.drop uu)).2.1)), (10, iN ((belN (i + 2) t (X.drop uu)).1)), (9, iN (i + 1)), (8, .slice (some ⟨gl, 0, none⟩) n n), (0, pT g), (1, iN n), (2, iN t)]) => ?_
      refine to_row 12 (by kernel_rfl) (by kernel_rfl) (Nat.le_of_ble_eq_true (by kernel_rfl)) (by kernel_rfl) (by kernel_rfl) (by kernel_rfl) (Nat.le_of_ble_eq_true (by kernel_rfl)) ?_
      refine rg_part 4 FF40 MM18 [w_ 1, s_ 0 (.cells (fc n (fun k9 => iN (if k9 = i + 1 then f ((belN (i + 2) t (X.drop uu)).1) else f k9))) 3), w_ 1, s_ 0 (.cells (fc n (fun k9 => iN (swapF f (i + 1) ((belN (i + 2) t (X.drop uu)).1) k9))) 3)] [11, 10, 9, 8, 0, 1, 2] (fun Kt => (i + 1) < n ∧ gl = gl ∧ i + 1 < (fc n (fun k9 => iN (f k9))).size ∧ (((0, 0)).2 = 0 ∨ i + 1 < ((0, 0)).1) ∧ (fc n (fun k9 => iN (f k9))).setIfInBounds (i + 1) (iN (f ((belN (i + 2) t (X.drop uu)).1))) = fc n (fun k9 => iN (if k9 = i + 1 then f ((belN (i + 2) t (X.drop uu)).1) else f k9)) ∧ ((belN (i + 2) t (X.drop uu)).1) < n ∧ gl = gl ∧ (belN (i + 2) t (X.drop uu)).1 < (fc n (fun k9 => iN (if k9 = i + 1 then f ((belN (i + 2) t (X.drop uu)).1) else f k9))).size ∧ (((0, 0)).2 = 0 ∨ (belN (i + 2) t (X.drop uu)).1 < ((0, 0)).1) ∧ (fc n (fun k9 => iN (if k9 = i + 1 then f ((belN (i + 2) t (X.drop uu)).1) else f k9))).setIfInBounds ((belN (i + 2) t (X.drop uu)).1) (iN (f (i + 1))) = fc n (fun k9 => iN (swapF f (i + 1) ((belN (i + 2) t (X.drop uu)).1) k9)) ∧ Kt [(11, iN ((belN (i + 2) t (X.drop uu)).2.1)), (10, iN ((belN (i + 2) t (X.drop uu)).1)), (9, iN (i + 1)), (8, .slice (some ⟨gl, 0, none⟩) n n), (0, pT g), (1, iN n), (2, iN t)] ((gl, .cells (fc n (fun k9 => iN (swapF f (i + 1) ((belN (i + 2) t (X.drop uu)).1) k9))) 3) :: (g, oC #[sB (X.drop (uu + (belN (i + 2) t (X.drop uu)).2.2)), iN (u + (uu + (belN (i + 2) t (X.drop uu)).2.2))] 53) :: ([] : Blks))) (by kernel_rfl) (fun _ => by kernel_rfl) (⟨hil, rfl, (by rw [fc_size]; exact hil), (.inl rfl), ((fc_set _ _ _ _).trans (fc_cong fun k _ => ite_int)), hjl, rfl, (by rw [fc_size]; exact hjl), (.inl rfl), ((fc_set _ _ _ _).trans (fc_cong fun k _ => ite_int)), fun ac41 wd41 FF41 MM41 => ?_⟩)
      refine wpl_nil ?_
      refine inb_n (then_n ?_)
      refine rg_seq FF41 MM41 [o_, u_ 4 (.int .i64 (((i + 1 : Nat) : Int) - 1 : Int)), o_] [11, 10, 9, 8, 0, 1, 2] (fun Kt => -(9223372036854775808 : Int) ≤ ((i + 1 : Nat) : Int) - ((1 : Nat) : Int) ∧ ((i + 1 : Nat) : Int) - ((1 : Nat) : Int) < (9223372036854775808 : Nat) ∧ Value.int .i64 (((i + 1 : Nat) : Int) - ((1 : Nat) : Int) : Int) = .int .i64 (((i + 1 : Nat) : Int) - 1 : Int) ∧ Kt [(9, .int .i64 (((i + 1 : Nat) : Int) - 1 : Int)), (11, iN ((belN (i + 2) t (X.drop uu)).2.1)), (10, iN ((belN (i + 2) t (X.drop uu)).1)), (8, .slice (some ⟨gl, 0, none⟩) n n), (0, pT g), (1, iN n), (2, iN t)] ((gl, .cells (fc n (fun k9 => iN (swapF f (i + 1) ((belN (i + 2) t (X.drop uu)).1) k9))) 3) :: (g, oC #[sB (X.drop (uu + (belN (i + 2) t (X.drop uu)).2.2)), iN (u + (uu + (belN (i + 2) t (X.drop uu)).2.2))] 53) :: ([] : Blks))) (by kernel_rfl) (fun _ => by kernel_rfl) (⟨(by omega), (by omega), (vZ (by omega)), fun ac42 wd42 FF42 MM42 => ?_⟩)
      have hd := cnt_of (FF42.get 0 rfl)
      refine then_n ⟨⟨i + 1, (swapF f (i + 1) (belN (i + 2) t (X.drop uu)).1), (uu + (belN (i + 2) t (X.drop uu)).2.2), by omega, hI2, by omega, FF42.pick [0, 3, 4, 5, 6], MM42⟩, ?_⟩
      rw [hc, hd]; omega
  · skip
    refine then_n (.inr ⟨(FF12.ev 0 rfl).trans (dec_f hlt), ?_⟩)
    have hj1 : j ≤ 1 := by omega
    have hE := sh_end hI hj1
    refine then_n ?_
    refine wp_seq (rg_seq FF12 MM12 [o_, o_, o_] [9, 8, 0, 1, 2, 6, 7] (fun Kt => Kt [(7, iN 0), (6, .slice (some ⟨gl, 0, none⟩) n n), (9, .int .i64 (((j : Nat) : Int) - 1 : Int)), (8, .slice (some ⟨gl, 0, none⟩) n n), (0, pT g), (1, iN n), (2, iN t)] ((gl, .cells (fc n (fun k9 => iN (f k9))) 3) :: (g, oC #[sB (X.drop uu), iN (u + uu)] 53) :: ([] : Blks))) (by kernel_rfl) (fun _ => by kernel_rfl) (fun ac43 wd43 FF43 MM43 => then_n ?_))
    refine wp_ret ?_
    repeat first | refine then_ret ?_ | refine inb_ret ?_
    exact (ret_tup2 FF43 1 0 Try.results9 rfl rfl (by rw [shL_ok (by rw [hE]), hE]; exact ⟨.slice (some ⟨gl, 0, none⟩) n n, rfl, MM43.turn (O := []) (fun i x hx => by simp at hx) 1 rfl (fun x hx => (nomatch hx)), rowNew_fc (MM43.get 0 rfl) (Nat.le_trans hz_gl hf_gl)⟩))
end Go.Proofs.Ytdckihmiggcpfaa
namespace Go.Proofs.Ytdckihmiggcpfaa
open Go.RowKit
theorem en_wakes : Enters Try.prog 7 := fun args w => by simp [go_sem]
theorem max2_ok {P : Program} {l : Slots} {L : Blks} {o : Oper} {x y : Operand} {ts : Array TypeId} {k : IntKind} {a b : Int} {v : Value} (ho : o.op = .call ⟨.builtin .max, #[x, y], ts⟩) (hx : evO l x = some (.int k a)) (hy : evO l y = some (.int k b)) (hv : Value.int k (if b > a then b else a) = v) : RunV P l L o v := fun ρ w A _ => by
  have h1 := A x _ hx
  have h2 := A y _ hy
  subst hv
  simp [execOp, ho, resolve, invoke, builtin, h1, h2, run_max_int2]
theorem ord3_fin : ∀ i j : Fin 3, [1, 2, 0].getD i.val 0 < 3 ∧ ([1, 2, 0].getD i.val 0 = [1, 2, 0].getD j.val 0 → i.val = j.val) := by decide
theorem ord3 : IsOrd 3 (fun k9 => [1, 2, 0].getD k9 0) := ⟨fun i hi => (ord3_fin ⟨i, hi⟩ ⟨i, hi⟩).1, fun i j hi hj => (ord3_fin ⟨i, hi⟩ ⟨j, hj⟩).2⟩
theorem inv3 : ∀ i : Fin 3, invI (fun k9 => [1, 2, 0].getD k9 0) 3 i.val = [2, 0, 1].getD i.val 0 := by decide
theorem sh3 : (shufN 1 3 (fun k => k) []).2.1 = 0 := by decide +kernel
theorem sh3_at : ∀ i : Fin 3, (shufN 1 3 (fun k => k) []).1 i.val = [1, 2, 0].getD i.val 0 := by decide +kernel
theorem lay3 : ∀ i : Fin 3, [[97], [98], [99]].getD ([1, 2, 0].getD i.val 0) [] = [[98], [99], [97]].getD i.val [] := by decide
theorem no2 : ¬ OrdZ 2 (fun k9 => (([0, 0].getD k9 0 : Nat) : Int)) := fun h => (h 1 (by decide)).2 0 (by decide) rfl
set_option maxRecDepth 100000 in
theorem wakes_any (O : Blks) (hD : Distinct O)  (w0 : World) (H : Has w0 O) :
    Calls Try.prog 7 #[] w0 fun e w' => e = .returned (.bool true) ∧ Below w0.heap.size w0 w' := by
  refine enter_fr Try.func7 rfl Try.ntmps7 (by simp) fun ac (FF : Fr 57 ac []) => ?_
  have MM : MemS (fun k => k < w0.heap.size ∧ ∀ x ∈ O, x.1 ≠ k) w0 w0 O [] := MemS.startN H hD
  refine wp_seq (rg_seq FF MM [o_] [0] (fun Kt => Kt [(0, .bool false)] O) (by kernel_rfl) (fun _ => by kernel_rfl) (fun ac1 wd1 FF1 MM1 => then_n ?_))
  refine wp_seq (wp_region_list ?_)
  refine st_callE [0, 10] FF1 (d := 10) (mk := fun v => v) en_tnew rfl rfl (tnew_any [] _) rfl (by kernel_rfl) (by decide) fun ac3 wd3 lv2 (FF3 : Fr 57 ac3 [(10, lv2), (0, .bool false)]) hr4 => ?_
  obtain ⟨gt, rfl, hB_gt, hf_gt, hb_gt⟩ := hr4
  have MM5 := MM1.keep hB_gt
  have MM6 : MemS (fun k => k < w0.heap.size ∧ ∀ x ∈ O, x.1 ≠ k) w0 wd3 ((gt, oC #[sB [], iN 0] 53) :: O) [] := MM1.addFresh MM5 hb_gt hf_gt
  refine st_callE [0, 11] FF3 (d := 11) (mk := fun v => .tuple #[.slice (pOf v) 3 (cOf v), iN 0]) en_oshuf rfl rfl (by have h0 := oshuf_ok gt [] 0 (lit_lt (by kernel_rfl)) (by decide) 3 1 (by decide) (by decide) (by decide) wd3 (MM6.get 0 rfl); rw [shL_ok sh3, sh3] at h0; exact h0) rfl (by kernel_rfl) (by decide) fun ac9 wd9 lv8 (FF9 : Fr 57 ac9 [(11, .tuple #[.slice (pOf lv8) 3 (cOf lv8), iN 0]), (0, .bool false)]) hr10 => ?_
  have ht9 := hr10.1
  have MM11 : MemS (fun k => k < w0.heap.size ∧ ∀ x ∈ O, x.1 ≠ k) w0 wd9 ((gt, oC #[sB ([].drop (shufN 1 3 (fun k => k) []).2.2), iN (0 + (shufN 1 3 (fun k => k) []).2.2)] 53) :: O) [] := MM6.turnAt ht9 0 rfl
  obtain ⟨O12, MM130, hR14, hs15⟩ := MemS.addRowT (K := [(gt, oC #[sB ([].drop (shufN 1 3 (fun k => k) []).2.2), iN (0 + (shufN 1 3 (fun k => k) []).2.2)] 53)]) (O := O) MM6 MM11 rfl hr10.2
  have MM13 : MemS (fun k => k < w0.heap.size ∧ ∀ x ∈ O, x.1 ≠ k) w0 wd9 ((gt, oC #[sB ([].drop (shufN 1 3 (fun k => k) []).2.2), iN (0 + (shufN 1 3 (fun k => k) []).2.2)] 53) :: O12) [] := MM130
  refine rg_part 5 FF9 MM13 [o_, o_, o_, o_, o_] [0, 1, 2] (fun Kt => Kt [(2, iN 0), (1, .slice (pOf lv8) 3 (cOf lv8)), (0, .bool false)] ((gt, oC #[sB ([].drop (shufN 1 3 (fun k => k) []).2.2), iN (0 + (shufN 1 3 (fun k => k) []).2.2)] 53) :: O12)) (by kernel_rfl) (fun _ => by kernel_rfl) (fun ac16 wd16 FF16 MM16 => ?_)
  refine wpl_nil (then_n ?_)
  refine wp_seq (wp_region_list ?_)
  refine rg_part 1 FF16 MM16 [o_] [2, 1, 0, 15] (fun Kt => ∀ b1, Kt [(15, .slice (some ⟨b1, 0, none⟩) 3 3), (2, iN 0), (1, .slice (pOf lv8) 3 (cOf lv8)), (0, .bool false)] ((b1, .cells (cn .i64 ([1, 2, 0])) 3) :: (gt, oC #[sB ([].drop (shufN 1 3 (fun k => k) []).2.2), iN (0 + (shufN 1 3 (fun k => k) []).2.2)] 53) :: O12)) (by kernel_rfl) (fun _ => by kernel_rfl) (fun b1 => fun ac17 wd17 FF17 MM17 => ?_)
  refine st_callE [2, 1, 0, 16] FF17 (d := 16) (mk := fun v => .tuple #[.slice (pOf v) 3 (cOf v), .bool true]) en_oinv rfl rfl (oinv_w (some ⟨b1, 0, none⟩) 3 3 (fun k9 => ([1, 2, 0]).getD k9 0) (by decide) ord3 wd17 (rowIn_cn (MM17.hasL 0 _ rfl) rfl)) rfl (by kernel_rfl) (by decide) fun ac20 wd20 lv19 (FF20 : Fr 57 ac20 [(16, .tuple #[.slice (pOf lv19) 3 (cOf lv19), .bool true]), (2, iN 0), (1, .slice (pOf lv8) 3 (cOf lv8)), (0, .bool false)]) hr21 => ?_
  obtain ⟨O22, MM230, hR24, hs25⟩ := MemS.addRow (K := [(b1, .cells (cn .i64 ([1, 2, 0])) 3), (gt, oC #[sB ([].drop (shufN 1 3 (fun k => k) []).2.2), iN (0 + (shufN 1 3 (fun k => k) []).2.2)] 53)]) (O := O12) MM17 hr21.1 hr21.2
  have MM23 : MemS (fun k => k < w0.heap.size ∧ ∀ x ∈ O, x.1 ≠ k) w0 wd20 ((b1, .cells (cn .i64 ([1, 2, 0])) 3) :: (gt, oC #[sB ([].drop (shufN 1 3 (fun k => k) []).2.2), iN (0 + (shufN 1 3 (fun k => k) []).2.2)] 53) :: O22) [] := MM230
  have hk26 := hR14.mono hs25
  have hz27 : ∀ x ∈ O, x ∈ O22 := fun x hx => hs25 x (hs15 x hx)
  refine rg_part 5 FF20 MM23 [o_, o_, o_, o_, o_] [2, 1, 0, 3, 4] (fun Kt => Kt [(4, .bool true), (3, .slice (pOf lv19) 3 (cOf lv19)), (2, iN 0), (1, .slice (pOf lv8) 3 (cOf lv8)), (0, .bool false)] ((b1, .cells (cn .i64 ([1, 2, 0])) 3) :: (gt, oC #[sB ([].drop (shufN 1 3 (fun k => k) []).2.2), iN (0 + (shufN 1 3 (fun k => k) []).2.2)] 53) :: O22)) (by kernel_rfl) (fun _ => by kernel_rfl) (fun ac28 wd28 FF28 MM28 => ?_)
  refine wpl_nil (then_n ?_)
  refine wp_seq (wp_region_list ?_)
  refine rg_part 2 FF28 MM28 [o_, o_] [4, 3, 2, 1, 0, 20, 21] (fun Kt => ∀ b2, ∀ b3, Kt [(21, .slice (some ⟨b3, 0, none⟩) 3 3), (20, .slice (some ⟨b2, 0, none⟩) 3 3), (4, .bool true), (3, .slice (pOf lv19) 3 (cOf lv19)), (2, iN 0), (1, .slice (pOf lv8) 3 (cOf lv8)), (0, .bool false)] ((b3, .cells (fc 3 (fun k9 => sB ([[97], [98], [99]].getD k9 []))) 9) :: (b2, .cells (cn .i64 ([1, 2, 0])) 3) :: (b1, .cells (cn .i64 ([1, 2, 0])) 3) :: (gt, oC #[sB ([].drop (shufN 1 3 (fun k => k) []).2.2), iN (0 + (shufN 1 3 (fun k => k) []).2.2)] 53) :: O22)) (by kernel_rfl) (fun _ => by kernel_rfl) (fun b2 => fun b3 => fun ac29 wd29 FF29 MM29 => ?_)
  refine st_callE [4, 3, 2, 1, 0, 22] FF29 (d := 22) (mk := fun v => .tuple #[.slice (pOf v) 3 (cOf v), .bool true]) en_olay rfl rfl (olay_w (some ⟨b2, 0, none⟩) 3 3 (some ⟨b3, 0, none⟩) 3 (fun k9 => ([1, 2, 0]).getD k9 0) (fun k9 => [[97], [98], [99]].getD k9 []) (by decide) ord3 wd29 (rowIn_cn (MM29.hasL 1 _ rfl) rfl) (rowIn_fc (MM29.hasL 0 _ rfl))) rfl (by kernel_rfl) (by decide) fun ac32 wd32 lv31 (FF32 : Fr 57 ac32 [(22, .tuple #[.slice (pOf lv31) 3 (cOf lv31), .bool true]), (4, .bool true), (3, .slice (pOf lv19) 3 (cOf lv19)), (2, iN 0), (1, .slice (pOf lv8) 3 (cOf lv8)), (0, .bool false)]) hr33 => ?_
  obtain ⟨O34, MM350, hR36, hs37⟩ := MemS.addRow (K := [(b3, .cells (fc 3 (fun k9 => sB ([[97], [98], [99]].getD k9 []))) 9), (b2, .cells (cn .i64 ([1, 2, 0])) 3), (b1, .cells (cn .i64 ([1, 2, 0])) 3), (gt, oC #[sB ([].drop (shufN 1 3 (fun k => k) []).2.2), iN (0 + (shufN 1 3 (fun k => k) []).2.2)] 53)]) (O := O22) MM29 hr33.1 hr33.2
  have MM35 : MemS (fun k => k < w0.heap.size ∧ ∀ x ∈ O, x.1 ≠ k) w0 wd32 ((b3, .cells (fc 3 (fun k9 => sB ([[97], [98], [99]].getD k9 []))) 9) :: (b2, .cells (cn .i64 ([1, 2, 0])) 3) :: (b1, .cells (cn .i64 ([1, 2, 0])) 3) :: (gt, oC #[sB ([].drop (shufN 1 3 (fun k => k) []).2.2), iN (0 + (shufN 1 3 (fun k => k) []).2.2)] 53) :: O34) [] := MM350
  have hk38 := hk26.mono hs37
  have hk39 := hR24.mono hs37
  have hz40 : ∀ x ∈ O, x ∈ O34 := fun x hx => hs37 x (hz27 x hx)
  refine rg_part 5 FF32 MM35 [o_, o_, o_, o_, o_] [4, 3, 2, 1, 0, 5, 6] (fun Kt => Kt [(6, .bool true), (5, .slice (pOf lv31) 3 (cOf lv31)), (4, .bool true), (3, .slice (pOf lv19) 3 (cOf lv19)), (2, iN 0), (1, .slice (pOf lv8) 3 (cOf lv8)), (0, .bool false)] ((b3, .cells (fc 3 (fun k9 => sB ([[97], [98], [99]].getD k9 []))) 9) :: (b2, .cells (cn .i64 ([1, 2, 0])) 3) :: (b1, .cells (cn .i64 ([1, 2, 0])) 3) :: (gt, oC #[sB ([].drop (shufN 1 3 (fun k => k) []).2.2), iN (0 + (shufN 1 3 (fun k => k) []).2.2)] 53) :: O34)) (by kernel_rfl) (fun _ => by kernel_rfl) (fun ac41 wd41 FF41 MM41 => ?_)
  refine wpl_nil (then_n ?_)
  refine wp_seq (rg_seq FF41 MM41 [o_, u_ 1 (.tuple #[.slice none 0 0, .bool false]), o_, o_, o_, o_, o_] [6, 5, 4, 3, 2, 1, 0, 8] (fun Kt => ∀ b4, CallP Try.prog 14 [.slice (some ⟨b4, 0, none⟩) 2 2] ((b4, .cells (cn .i64 ([0, 0])) 3) :: (b3, .cells (fc 3 (fun k9 => sB ([[97], [98], [99]].getD k9 []))) 9) :: (b2, .cells (cn .i64 ([1, 2, 0])) 3) :: (b1, .cells (cn .i64 ([1, 2, 0])) 3) :: (gt, oC #[sB ([].drop (shufN 1 3 (fun k => k) []).2.2), iN (0 + (shufN 1 3 (fun k => k) []).2.2)] 53) :: O34) (.tuple #[.slice none 0 0, .bool false]) ∧ Kt [(8, .bool false), (6, .bool true), (5, .slice (pOf lv31) 3 (cOf lv31)), (4, .bool true), (3, .slice (pOf lv19) 3 (cOf lv19)), (2, iN 0), (1, .slice (pOf lv8) 3 (cOf lv8)), (0, .bool false)] ((b4, .cells (cn .i64 ([0, 0])) 3) :: (b3, .cells (fc 3 (fun k9 => sB ([[97], [98], [99]].getD k9 []))) 9) :: (b2, .cells (cn .i64 ([1, 2, 0])) 3) :: (b1, .cells (cn .i64 ([1, 2, 0])) 3) :: (gt, oC #[sB ([].drop (shufN 1 3 (fun k => k) []).2.2), iN (0 + (shufN 1 3 (fun k => k) []).2.2)] 53) :: O34)) (by kernel_rfl) (fun _ => by kernel_rfl) (fun b4 => ⟨⟨en_oinv, fun w Hw => oinv_no_w (some ⟨b4, 0, none⟩) 2 2 (fun k9 => ((([0, 0]).getD k9 0 : Nat) : Int)) (by decide) no2 w (rowIn_cn (Hw 0 _ rfl) rfl)⟩, fun ac42 wd42 FF42 MM42 => then_n ?_⟩))
  refine wp_seq (rg_seq FF42 MM42 [o_, w_ 2, o_, o_, o_, u_ 1 (.bool true), o_, o_, o_, o_, o_, o_, o_, u_ 1 (.bool true), o_, o_, o_, o_, o_, o_, o_, u_ 1 (.bool true), o_, o_, o_, o_, o_, o_] [0] (fun Kt => 0 = 0 ∧ ∀ b5, CallP Try.prog 11 [.slice (pOf lv8) 3 (cOf lv8), .slice (some ⟨b5, 0, none⟩) 3 3] ((b5, .cells (cn .i64 ([1, 2, 0])) 3) :: (b4, .cells (cn .i64 ([0, 0])) 3) :: (b3, .cells (fc 3 (fun k9 => sB ([[97], [98], [99]].getD k9 []))) 9) :: (b2, .cells (cn .i64 ([1, 2, 0])) 3) :: (b1, .cells (cn .i64 ([1, 2, 0])) 3) :: (gt, oC #[sB ([].drop (shufN 1 3 (fun k => k) []).2.2), iN (0 + (shufN 1 3 (fun k => k) []).2.2)] 53) :: O34) (.bool true) ∧ ∀ b6, CallP Try.prog 11 [.slice (pOf lv19) 3 (cOf lv19), .slice (some ⟨b6, 0, none⟩) 3 3] ((b6, .cells (cn .i64 ([2, 0, 1])) 3) :: (b5, .cells (cn .i64 ([1, 2, 0])) 3) :: (b4, .cells (cn .i64 ([0, 0])) 3) :: (b3, .cells (fc 3 (fun k9 => sB ([[97], [98], [99]].getD k9 []))) 9) :: (b2, .cells (cn .i64 ([1, 2, 0])) 3) :: (b1, .cells (cn .i64 ([1, 2, 0])) 3) :: (gt, oC #[sB ([].drop (shufN 1 3 (fun k => k) []).2.2), iN (0 + (shufN 1 3 (fun k => k) []).2.2)] 53) :: O34) (.bool true) ∧ ∀ b7, CallP Try.prog 16 [.slice (pOf lv31) 3 (cOf lv31), .slice (some ⟨b7, 0, none⟩) 3 3] ((b7, .cells (fc 3 (fun k9 => sB ([[98], [99], [97]].getD k9 []))) 9) :: (b6, .cells (cn .i64 ([2, 0, 1])) 3) :: (b5, .cells (cn .i64 ([1, 2, 0])) 3) :: (b4, .cells (cn .i64 ([0, 0])) 3) :: (b3, .cells (fc 3 (fun k9 => sB ([[97], [98], [99]].getD k9 []))) 9) :: (b2, .cells (cn .i64 ([1, 2, 0])) 3) :: (b1, .cells (cn .i64 ([1, 2, 0])) 3) :: (gt, oC #[sB ([].drop (shufN 1 3 (fun k => k) []).2.2), iN (0 + (shufN 1 3 (fun k => k) []).2.2)] 53) :: O34) (.bool true) ∧ Kt [(0, .bool true)] ((b7, .cells (fc 3 (fun k9 => sB ([[98], [99], [97]].getD k9 []))) 9) :: (b6, .cells (cn .i64 ([2, 0, 1])) 3) :: (b5, .cells (cn .i64 ([1, 2, 0])) 3) :: (b4, .cells (cn .i64 ([0, 0])) 3) :: (b3, .cells (fc 3 (fun k9 => sB ([[97], [98], [99]].getD k9 []))) 9) :: (b2, .cells (cn .i64 ([1, 2, 0])) 3) :: (b1, .cells (cn .i64 ([1, 2, 0])) 3) :: (gt, oC #[sB ([].drop (shufN 1 3 (fun k => k) []).2.2), iN (0 + (shufN 1 3 (fun k => k) []).2.2)] 53) :: O34)) (by kernel_rfl) (fun _ => by kernel_rfl) (⟨(by decide), fun b5 => ⟨⟨en_kints, fun w Hw => kints_w (pOf lv8) 3 (cOf lv8) (some ⟨b5, 0, none⟩) 3 (fun k9 => (((shufN 1 3 (fun k => k) []).1 k9 : Nat) : Int)) (fun k9 => ((([1, 2, 0]).getD k9 0 : Nat) : Int)) (by decide) (fun i hi => congrArg (fun z : Nat => (z : Int)) (sh3_at ⟨i, hi⟩)) w (hk38.at (Has.tl (Has.tl (Has.tl (Has.tl (Has.tl (Has.tl Hw))))))) (rowIn_cn (Hw 0 _ rfl) rfl)⟩, fun b6 => ⟨⟨en_kints, fun w Hw => kints_w (pOf lv19) 3 (cOf lv19) (some ⟨b6, 0, none⟩) 3 (fun k9 => ((invI (fun k9 => ([1, 2, 0]).getD k9 0) 3 k9 : Nat) : Int)) (fun k9 => ((([2, 0, 1]).getD k9 0 : Nat) : Int)) (by decide) (fun i hi => congrArg (fun z : Nat => (z : Int)) (inv3 ⟨i, hi⟩)) w (hk39.at (Has.tl (Has.tl (Has.tl (Has.tl (Has.tl (Has.tl (Has.tl Hw)))))))) (rowIn_cn (Hw 0 _ rfl) rfl)⟩, fun b7 => ⟨⟨en_ktexts, fun w Hw => ktexts_w (pOf lv31) 3 (cOf lv31) (some ⟨b7, 0, none⟩) 3 (fun k9 => [[97], [98], [99]].getD (([1, 2, 0]).getD k9 0) []) (fun k9 => [[98], [99], [97]].getD k9 []) (by decide) (fun i hi => lay3 ⟨i, hi⟩) w (hR36.at (Has.tl (Has.tl (Has.tl (Has.tl (Has.tl (Has.tl (Has.tl (Has.tl Hw))))))))) (rowIn_fc (Hw 0 _ rfl))⟩, fun ac43 wd43 FF43 MM43 => then_n ?_⟩⟩⟩⟩))
  refine wp_ret ?_
  repeat first | refine then_ret ?_ | refine inb_ret ?_
  exact (ret_fr FF43 0 Try.results7 rfl ⟨rfl, MM43.belowN H (fun _ hx => List.mem_cons_of_mem _ (List.mem_cons_of_mem _ (List.mem_cons_of_mem _ (List.mem_cons_of_mem _ (List.mem_cons_of_mem _ (List.mem_cons_of_mem _ (List.mem_cons_of_mem _ (List.mem_cons_of_mem _ (hz40 _ hx)))))))))⟩)
theorem wakes_w (w : World) : Calls Try.prog 7 #[] w fun e w' => e = .returned (.bool true) ∧ Below w.heap.size w w' := wakes_any [] trivial w (fun i y hy => by simp at hy)
end Go.Proofs.Ytdckihmiggcpfaa
namespace Go.Proofs.Ytdckihmiggcpfaa
open Go.RowKit
set_option maxRecDepth 100000 in
theorem shuffles_any (O : Blks) (hD : Distinct O) (X : List Nat) (hX : ∀ i, X.getD i 0 < 256) (n : Nat) (hn8 : n < 256) (m : Nat) (hm : n % 65 = m) (w0 : World) (H : Has w0 O) :
    Calls Try.prog 5 #[sB X, iB n] w0 fun e w' => e = .returned (.bool true) ∧ Below w0.heap.size w0 w' := by
  refine enter_fr Try.func5 rfl Try.ntmps5 (by simp) fun ac (FF : Fr 56 ac [(0, sB X), (1, iB n)]) => ?_
  have MM : MemS (fun k => k < w0.heap.size ∧ ∀ x ∈ O, x.1 ≠ k) w0 w0 O [] := MemS.startN H hD
  refine wp_seq (rg_seq FF MM [o_] [0, 1, 4] (fun Kt => Kt [(4, .bool false), (0, sB X), (1, iB n)] O) (by kernel_rfl) (fun _ => by kernel_rfl) (fun ac1 wd1 FF1 MM1 => then_n ?_))
  refine wp_seq ?_
  refine wp_seq (rg_seq FF1 MM1 [o_, t_ (iN X.length), o_] [4, 0, 1, 11] (fun Kt => iN ((bs X).size) = iN X.length ∧ Kt [(11, .bool (decide (X.length > 300))), (4, .bool false), (0, sB X), (1, iB n)] O) (by kernel_rfl) (fun _ => by kernel_rfl) (⟨(vI (bs_size _)), fun ac2 wd2 FF2 MM2 => then_n ?_⟩))
  by_cases hs11 : X.length > 300
  · refine wp_cond_true ((FF2.ev 0 rfl).trans (dec_t hs11)) ?_
    refine wp_seq (rg_seq FF2 MM2 [t_ (.bool true), o_] [4, 0, 1] (fun Kt => CallP Try.prog 7 [] [] (.bool true) ∧ Kt [(4, .bool true), (0, sB X), (1, iB n)] O) (by kernel_rfl) (fun _ => by kernel_rfl) (⟨(callP_of en_wakes wakes_w _), fun ac3 wd3 FF3 MM3 => then_n ?_⟩))
    refine wp_ret ?_
    repeat first | refine then_ret ?_ | refine inb_ret ?_
    exact (ret_fr FF3 0 Try.results5 rfl ⟨rfl, MM3.belowN H (fun _ hx => hx)⟩)
  · refine wp_cond_false ((FF2.ev 0 rfl).trans (dec_f hs11)) ?_
    refine wp_skip ?_
    refine then_n ?_
    have hmb : m ≤ 64 := by have := Nat.mod_lt n (show 0 < 65 by decide); omega
    refine wp_seq (rg_seq FF2 MM2 [o_, w_ 1, t_ (iN m), o_] [4, 0, 5] (fun Kt => n < 9223372036854775808 ∧ 65 ≠ 0 ∧ iN (n % 65) = iN m ∧ Kt [(5, iN m), (4, .bool false), (0, sB X)] O) (by kernel_rfl) (fun _ => by kernel_rfl) (⟨(by omega), (by decide), (vI hm), fun ac4 wd4 FF4 MM4 => then_n ?_⟩))
    refine wp_seq (wp_region_list ?_)
    refine rg_part 1 FF4 MM4 [o_] [5, 4, 0, 16] (fun Kt => Kt [(16, sB X), (5, iN m), (4, .bool false), (0, sB X)] O) (by kernel_rfl) (fun _ => by kernel_rfl) (fun ac5 wd5 FF5 MM5 => ?_)
    refine st_callE [5, 4, 0, 17] FF5 (d := 17) (mk := fun v => v) en_tnew rfl rfl (tnew_any X _) rfl (by kernel_rfl) (by decide) fun ac7 wd7 lv6 (FF7 : Fr 56 ac7 [(17, lv6), (5, iN m), (4, .bool false), (0, sB X)]) hr8 => ?_
    obtain ⟨gt, rfl, hB_gt, hf_gt, hb_gt⟩ := hr8
    have MM9 := MM5.keep hB_gt
    have MM10 : MemS (fun k => k < w0.heap.size ∧ ∀ x ∈ O, x.1 ≠ k) w0 wd7 ((gt, oC #[sB X, iN 0] 53) :: O) [] := MM5.addFresh MM9 hb_gt hf_gt
    refine rg_part 1 FF7 MM10 [o_] [5, 4, 0, 6] (fun Kt => Kt [(6, pT gt), (5, iN m), (4, .bool false), (0, sB X)] ((gt, oC #[sB X, iN 0] 53) :: O)) (by kernel_rfl) (fun _ => by kernel_rfl) (fun ac11 wd11 FF11 MM11 => ?_)
    refine wpl_nil (then_n ?_)
    by_cases hE : (shufN 1 m (fun k => k) X).2.1 = 0
    · skip
      have hpm := shuf_perm (t := 1) m (fun k => k) X (Nat.le_refl _) (perm_id m)
      refine wp_seq (wp_region_list ?_)
      refine rg_part 2 FF11 MM11 [o_, o_] [6, 5, 4, 0, 19, 20] (fun Kt => Kt [(20, iN m), (19, pT gt), (6, pT gt), (5, iN m), (4, .bool false), (0, sB X)] ((gt, oC #[sB X, iN 0] 53) :: O)) (by kernel_rfl) (fun _ => by kernel_rfl) (fun ac12 wd12 FF12 MM12 => ?_)
      refine st_callE [6, 5, 4, 0, 21] FF12 (d := 21) (mk := fun v => .tuple #[.slice (pOf v) m (cOf v), iN 0]) en_oshuf rfl rfl (by have h0 := oshuf_ok gt X 0 hX (by decide) m 1 (by omega) (by decide) (by decide) wd12 (MM12.get 0 rfl); rw [shL_ok hE, hE] at h0; exact h0) rfl (by kernel_rfl) (by decide) fun ac15 wd15 lv14 (FF15 : Fr 56 ac15 [(21, .tuple #[.slice (pOf lv14) m (cOf lv14), iN 0]), (6, pT gt), (5, iN m), (4, .bool false), (0, sB X)]) hr16 => ?_
      have ht9 := hr16.1
      have MM17 : MemS (fun k => k < w0.heap.size ∧ ∀ x ∈ O, x.1 ≠ k) w0 wd15 ((gt, oC #[sB (X.drop (shufN 1 m (fun k => k) X).2.2), iN (0 + (shufN 1 m (fun k => k) X).2.2)] 53) :: O) [] := MM12.turnAt ht9 0 rfl
      obtain ⟨O18, MM190, hR20, hs21⟩ := MemS.addRowT (K := [(gt, oC #[sB (X.drop (shufN 1 m (fun k => k) X).2.2), iN (0 + (shufN 1 m (fun k => k) X).2.2)] 53)]) (O := O) MM12 MM17 rfl hr16.2
      have MM19 : MemS (fun k => k < w0.heap.size ∧ ∀ x ∈ O, x.1 ≠ k) w0 wd15 ((gt, oC #[sB (X.drop (shufN 1 m (fun k => k) X).2.2), iN (0 + (shufN 1 m (fun k => k) X).2.2)] 53) :: O18) [] := MM190
      refine rg_part 5 FF15 MM19 [o_, o_, o_, o_, o_] [6, 5, 4, 0, 7, 8] (fun Kt => Kt [(8, iN 0), (7, .slice (pOf lv14) m (cOf lv14)), (6, pT gt), (5, iN m), (4, .bool false), (0, sB X)] ((gt, oC #[sB (X.drop (shufN 1 m (fun k => k) X).2.2), iN (0 + (shufN 1 m (fun k => k) X).2.2)] 53) :: O18)) (by kernel_rfl) (fun _ => by kernel_rfl) (fun ac22 wd22 FF22 MM22 => ?_)
      refine wpl_nil (then_n ?_)
      refine wp_seq ?_
      refine wp_seq (rg_seq FF22 MM22 [o_, w_ 3] [8, 7, 6, 5, 4, 0, 25] (fun Kt => ¬ (0 ≠ 0) ∧ Kt [(25, .bool false), (8, iN 0), (7, .slice (pOf lv14) m (cOf lv14)), (6, pT gt), (5, iN m), (4, .bool false), (0, sB X)] ((gt, oC #[sB (X.drop (shufN 1 m (fun k => k) X).2.2), iN (0 + (shufN 1 m (fun k => k) X).2.2)] 53) :: O18)) (by kernel_rfl) (fun _ => by kernel_rfl) (⟨(by decide), fun ac23 wd23 FF23 MM23 => then_n ?_⟩))
      refine wp_cond_false (FF23.ev 0 rfl) ?_
      refine wp_skip ?_
      refine then_n ?_
      refine wp_seq (rg_seq FF23 MM23 [o_, o_, o_, w_ 2, o_, o_, u_ 1 (.bool true), o_, o_, o_, u_ 1 (iN (0 + (shufN 1 m (fun k => k) X).2.2)), o_, w_ 4, f_ (iN (m - 1)), o_, w_ 2, o_, o_, t_ (.bool true), o_, o_] [8, 7, 6, 5, 4, 0] (fun Kt => m = m ∧ CallP Try.prog 13 [.slice (pOf lv14) m (cOf lv14)] ((gt, oC #[sB (X.drop (shufN 1 m (fun k => k) X).2.2), iN (0 + (shufN 1 m (fun k => k) X).2.2)] 53) :: O18) (.bool true) ∧ CallP Try.prog 12 [pT gt] ((gt, oC #[sB (X.drop (shufN 1 m (fun k => k) X).2.2), iN (0 + (shufN 1 m (fun k => k) X).2.2)] 53) :: O18) (iN (0 + (shufN 1 m (fun k => k) X).2.2)) ∧ -(9223372036854775808 : Int) ≤ ((m : Nat) : Int) - ((1 : Nat) : Int) ∧ ((m : Nat) : Int) - ((1 : Nat) : Int) < (9223372036854775808 : Nat) ∧ RunV Try.prog [(48, .int .i64 (((m : Nat) : Int) - ((1 : Nat) : Int) : Int)), (47, iN m), (46, iN (0 + (shufN 1 m (fun k => k) X).2.2)), (45, pT gt), (44, .bool true), (43, .bool true), (42, .bool true), (41, .slice (pOf lv14) m (cOf lv14)), (40, .bool true), (39, .bool true), (38, iN m), (37, iN m), (36, .slice (pOf lv14) m (cOf lv14)), (25, .bool false), (8, iN 0), (7, .slice (pOf lv14) m (cOf lv14)), (6, pT gt), (5, iN m), (4, .bool false), (0, sB X)] ((gt, oC #[sB (X.drop (shufN 1 m (fun k => k) X).2.2), iN (0 + (shufN 1 m (fun k => k) X).2.2)] 53) :: O18) (opAt Try.f5 8 13) (iN (m - 1)) ∧ 2 * (m - 1) < 9223372036854775808 ∧ (0 + (shufN 1 m (fun k => k) X).2.2) = (2 * (m - 1)) ∧ CallP Try.prog 7 [] [] (.bool true) ∧ Kt [(4, .bool true), (8, iN 0), (7, .slice (pOf lv14) m (cOf lv14)), (6, pT gt), (5, iN m), (0, sB X)] ((gt, oC #[sB (X.drop (shufN 1 m (fun k => k) X).2.2), iN (0 + (shufN 1 m (fun k => k) X).2.2)] 53) :: O18)) (by kernel_rfl) (fun _ => by kernel_rfl) (⟨rfl, ⟨en_rmay, fun w Hw => rmay_w (pOf lv14) m (cOf lv14) (fun k9 => (((shufN 1 m (fun k => k) X).1 k9 : Nat) : Int)) (by omega) true ⟨fun _ => (ord_z hpm.1), fun _ => rfl⟩ w (hR20.at (Has.tl Hw))⟩, ⟨en_tused, fun w Hw => tused_any gt (X.drop (shufN 1 m (fun k => k) X).2.2) (0 + (shufN 1 m (fun k => k) X).2.2) w (Hw 0 _ rfl)⟩, (by omega), (by omega), (max2_ok (ts := #[3, 3]) (x := .const (.int .i64 0)) (y := .tmp 48) (by kernel_rfl) rfl rfl (vZ (by split <;> omega))), (by omega), (by rw [shuf_one _ _ _ hE, Nat.zero_add]), (callP_of en_wakes wakes_w _), fun ac24 wd24 FF24 MM24 => then_n ?_⟩))
      refine wp_ret ?_
      repeat first | refine then_ret ?_ | refine inb_ret ?_
      exact (ret_fr FF24 0 Try.results5 rfl ⟨rfl, MM24.belowN H (fun _ hx => List.mem_cons_of_mem _ (hs21 _ hx))⟩)
    · skip
      have hE3 : (shufN 1 m (fun k => k) X).2.1 = 3 := (shuf_err m (fun k => k) X).resolve_left hE
      refine wp_seq (wp_region_list ?_)
      refine rg_part 2 FF11 MM11 [o_, o_] [6, 5, 4, 0, 19, 20] (fun Kt => Kt [(20, iN m), (19, pT gt), (6, pT gt), (5, iN m), (4, .bool false), (0, sB X)] ((gt, oC #[sB X, iN 0] 53) :: O)) (by kernel_rfl) (fun _ => by kernel_rfl) (fun ac25 wd25 FF25 MM25 => ?_)
      refine st_callE [6, 5, 4, 0, 21] FF25 (d := 21) (mk := fun v => .tuple #[.slice (pOf v) 0 (cOf v), iN 3]) en_oshuf rfl rfl (by have h0 := oshuf_ok gt X 0 hX (by decide) m 1 (by omega) (by decide) (by decide) wd25 (MM25.get 0 rfl); rw [shL_no hE, hE3] at h0; exact h0) rfl (by kernel_rfl) (by decide) fun ac28 wd28 lv27 (FF28 : Fr 56 ac28 [(21, .tuple #[.slice (pOf lv27) 0 (cOf lv27), iN 3]), (6, pT gt), (5, iN m), (4, .bool false), (0, sB X)]) hr29 => ?_
      have ht9 := hr29.1
      have MM30 : MemS (fun k => k < w0.heap.size ∧ ∀ x ∈ O, x.1 ≠ k) w0 wd28 ((gt, oC #[sB (X.drop (shufN 1 m (fun k => k) X).2.2), iN (0 + (shufN 1 m (fun k => k) X).2.2)] 53) :: O) [] := MM25.turnAt ht9 0 rfl
      obtain ⟨O31, MM320, hR33, hs34⟩ := MemS.addRowT (K := [(gt, oC #[sB (X.drop (shufN 1 m (fun k => k) X).2.2), iN (0 + (shufN 1 m (fun k => k) X).2.2)] 53)]) (O := O) MM25 MM30 rfl hr29.2
      have MM32 : MemS (fun k => k < w0.heap.size ∧ ∀ x ∈ O, x.1 ≠ k) w0 wd28 ((gt, oC #[sB (X.drop (shufN 1 m (fun k => k) X).2.2), iN (0 + (shufN 1 m (fun k => k) X).2.2)] 53) :: O31) [] := MM320
      refine rg_part 5 FF28 MM32 [o_, o_, o_, o_, o_] [6, 5, 4, 0, 7, 8] (fun Kt => Kt [(8, iN 3), (7, .slice (pOf lv27) 0 (cOf lv27)), (6, pT gt), (5, iN m), (4, .bool false), (0, sB X)] ((gt, oC #[sB (X.drop (shufN 1 m (fun k => k) X).2.2), iN (0 + (shufN 1 m (fun k => k) X).2.2)] 53) :: O31)) (by kernel_rfl) (fun _ => by kernel_rfl) (fun ac35 wd35 FF35 MM35 => ?_)
      refine wpl_nil (then_n ?_)
      refine wp_seq ?_
      refine wp_seq (rg_seq FF35 MM35 [o_, w_ 2] [8, 7, 6, 5, 4, 0, 25] (fun Kt => 3 ≠ 0 ∧ Kt [(25, .bool true), (8, iN 3), (7, .slice (pOf lv27) 0 (cOf lv27)), (6, pT gt), (5, iN m), (4, .bool false), (0, sB X)] ((gt, oC #[sB (X.drop (shufN 1 m (fun k => k) X).2.2), iN (0 + (shufN 1 m (fun k => k) X).2.2)] 53) :: O31)) (by kernel_rfl) (fun _ => by kernel_rfl) (⟨(by decide), fun ac36 wd36 FF36 MM36 => then_n ?_⟩))
      refine wp_cond_true (FF36.ev 0 rfl) ?_
      refine wp_seq (rg_seq FF36 MM36 [o_, w_ 2, o_, o_, o_, w_ 2, o_, o_, t_ (.bool true), o_, o_] [8, 7, 6, 5, 4, 0] (fun Kt => 3 = 3 ∧ 0 = 0 ∧ CallP Try.prog 7 [] [] (.bool true) ∧ Kt [(4, .bool true), (8, iN 3), (7, .slice (pOf lv27) 0 (cOf lv27)), (6, pT gt), (5, iN m), (0, sB X)] ((gt, oC #[sB (X.drop (shufN 1 m (fun k => k) X).2.2), iN (0 + (shufN 1 m (fun k => k) X).2.2)] 53) :: O31)) (by kernel_rfl) (fun _ => by kernel_rfl) (⟨(by decide), (by decide), (callP_of en_wakes wakes_w _), fun ac37 wd37 FF37 MM37 => then_n ?_⟩))
      refine wp_ret ?_
      repeat first | refine then_ret ?_ | refine inb_ret ?_
      exact (ret_fr FF37 0 Try.results5 rfl ⟨rfl, MM37.belowN H (fun _ hx => List.mem_cons_of_mem _ (hs34 _ hx))⟩)
end Go.Proofs.Ytdckihmiggcpfaa
