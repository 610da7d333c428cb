/- Package billetkeep: Long, Texts, of rows that lie anywhere. -/
import Derived.Test.YtkpindnekaijfaaDoorD3
namespace Go.Proofs.YtkpindnekaijfaaDoor
open Go.RowKit

theorem ext_getL {Ps Qs : List (List Nat)} (hl : Ps.length = Qs.length) (h : ∀ j, j < Ps.length → Ps.getD j [] = Qs.getD j []) : Ps = Qs := by
  refine List.ext_getElem hl fun i h1 h2 => ?_
  have := h i h1
  simpa [List.getD_eq_getElem?_getD, h1, h2] using this
theorem en_Long : Enters Tryd.prog 7 := fun args w => by simp [go_sem]
set_option maxRecDepth 100000 in
theorem longm (Ps : List (List Nat)) (m : Nat) (hm : m < 9223372036854775808) (hn : Ps.length < 9223372036854775808) (pb off cap T9 : Nat) (fr : Nat × Nat) (cs : Array Value) (hp : ∀ j, j < Ps.length → cs[off + j]? = some (.string (bs (Ps.getD j [])))) (w0 : World) (hb : w0.heap[pb]? = some (.cells cs T9 fr)) :
    Calls Tryd.prog 7 #[.slice (some ⟨pb, off, none⟩) Ps.length cap, .int .i64 (m : Nat)] w0 fun e w' => e = .returned (.bool (decide (Ps.flatten.length > m))) ∧ Below w0.heap.size w0 w' := by
  have MM := MemS.start1 hb
  refine enter_fr Tryd.func7 rfl Tryd.ntmps7 (by simp) fun ac (FF : Fr 26 ac [(0, .slice (some ⟨pb, off, none⟩) Ps.length cap), (1, .int .i64 (m : Nat))]) => ?_
  refine wp_seq (rg_seq FF MM [o_] [0, 1, 4] (fun Kt => Kt [(4, .bool false), (0, .slice (some ⟨pb, off, none⟩) Ps.length cap), (1, .int .i64 (m : Nat))] [(pb, .cells cs T9 fr)]) (by kernel_rfl) (fun _ => by kernel_rfl) (fun ac1 wd1 FF1 MM1 => then_n ?_))
  refine wp_seq ?_
  refine wp_seq (rg_seq FF1 MM1 [o_] [4, 0, 1, 5] (fun Kt => Kt [(5, .int .i64 (0 : Nat)), (4, .bool false), (0, .slice (some ⟨pb, off, none⟩) Ps.length cap), (1, .int .i64 (m : Nat))] [(pb, .cells cs T9 fr)]) (by kernel_rfl) (fun _ => by kernel_rfl) (fun ac2 wd2 FF2 MM2 => then_n ?_))
  refine wp_for2 (fun a' w' => ∃ i : Nat, i ≤ Ps.length ∧ (Ps.take i).flatten.length ≤ m ∧ Fr 26 a' [(5, .int .i64 (i : Nat)), (0, .slice (some ⟨pb, off, none⟩) Ps.length cap), (1, .int .i64 (m - (Ps.take i).flatten.length : Nat))] ∧ MemS (fun k => k < w0.heap.size ∧ k ≠ pb) w0 w' [(pb, .cells cs T9 fr)] []) (fun a' _ => (Ps.length - cnt 5 a').toNat) ⟨0, by omega, by simp, FF2.pick [0, 2, 3], MM2⟩ ?_
  rintro ac3 wd3 ⟨i, hi, hs, FF3, MM3⟩
  have hc := cnt_of (FF3.get 0 rfl)
  refine rg_seq FF3 MM3 [o_, o_, o_, o_] [5, 0, 1, 9] (fun Kt => Kt [(9, .bool (decide (i < Ps.length))), (5, .int .i64 (i : Nat)), (0, .slice (some ⟨pb, off, none⟩) Ps.length cap), (1, .int .i64 (m - (Ps.take i).flatten.length : Nat))] [(pb, .cells cs T9 fr)]) (by kernel_rfl) (fun _ => by kernel_rfl) (fun ac4 wd4 FF4 MM4 => ?_)
  by_cases hlt : i < Ps.length
  · skip
    refine then_n (.inl ⟨(FF4.ev 0 rfl).trans (dec_t hlt), ?_⟩)
    refine wp_seq ?_
    have hft := congrArg List.length (flat_take Ps i hlt)
    rw [List.length_append] at hft
    have hfl := flat_le Ps (i + 1)
    refine wp_seq (rg_seq FF4 MM4 [o_, o_, o_, l_ 0 (.string (bs (Ps.getD i []))), t_ (.int .i64 ((Ps.getD i []).length : Nat)), o_, o_] [5, 0, 1, 18] (fun Kt => i < Ps.length ∧ pb = pb ∧ cs[off + i]? = some (.string (bs (Ps.getD i []))) ∧ Value.int .i64 ((bs (Ps.getD i [])).size : Nat) = .int .i64 ((Ps.getD i []).length : Nat) ∧ Kt [(18, .bool (decide (((Ps.getD i []).length) > (m - (Ps.take i).flatten.length)))), (5, .int .i64 (i : Nat)), (0, .slice (some ⟨pb, off, none⟩) Ps.length cap), (1, .int .i64 (m - (Ps.take i).flatten.length : Nat))] [(pb, .cells cs T9 fr)]) (by kernel_rfl) (fun _ => by kernel_rfl) (⟨(by omega), rfl, (hp i hlt), (vI (bs_size _)), fun ac5 wd5 FF5 MM5 => then_n ?_⟩))
    by_cases hs18 : ((Ps.getD i []).length) > (m - (Ps.take i).flatten.length)
    · refine wp_cond_true ((FF5.ev 0 rfl).trans (dec_t hs18)) ?_
      refine wp_seq (rg_seq FF5 MM5 [o_] [5, 0, 1, 4] (fun Kt => Kt [(4, .bool true), (5, .int .i64 (i : Nat)), (0, .slice (some ⟨pb, off, none⟩) Ps.length cap), (1, .int .i64 (m - (Ps.take i).flatten.length : Nat))] [(pb, .cells cs T9 fr)]) (by kernel_rfl) (fun _ => by kernel_rfl) (fun ac6 wd6 FF6 MM6 => then_n ?_))
      refine wp_ret ?_
      repeat first | refine then_ret ?_ | refine inb_ret ?_
      exact (ret_fr FF6 0 Tryd.results7 rfl ⟨by rw [decide_eq_true (by omega)], MM6.below1 0 rfl hb⟩)
    · refine wp_cond_false ((FF5.ev 0 rfl).trans (dec_f hs18)) ?_
      refine wp_skip ?_
      refine then_n ?_
      refine rg_seq FF5 MM5 [o_, o_, o_, o_, l_ 0 (.string (bs (Ps.getD i []))), t_ (.int .i64 ((Ps.getD i []).length : Nat)), t_ (.int .i64 (m - (Ps.take (i + 1)).flatten.length : Nat)), o_] [5, 0, 1] (fun Kt => i < Ps.length ∧ pb = pb ∧ cs[off + i]? = some (.string (bs (Ps.getD i []))) ∧ Value.int .i64 ((bs (Ps.getD i [])).size : Nat) = .int .i64 ((Ps.getD i []).length : Nat) ∧ ((Ps.getD i []).length) ≤ (m - (Ps.take i).flatten.length) ∧ (m - (Ps.take i).flatten.length) - ((Ps.getD i []).length) < 9223372036854775808 ∧ Value.int .i64 ((m - (Ps.take i).flatten.length) - ((Ps.getD i []).length) : Nat) = .int .i64 (m - (Ps.take (i + 1)).flatten.length : Nat) ∧ Kt [(1, .int .i64 (m - (Ps.take (i + 1)).flatten.length : Nat)), (5, .int .i64 (i : Nat)), (0, .slice (some ⟨pb, off, none⟩) Ps.length cap)] [(pb, .cells cs T9 fr)]) (by kernel_rfl) (fun _ => by kernel_rfl) (⟨(by omega), rfl, (hp i hlt), (vI (bs_size _)), (by omega), (by omega), (vI (by omega)), fun ac7 wd7 FF7 MM7 => ?_⟩)
      have hs2 : (Ps.take (i + 1)).flatten.length ≤ m := by omega
      refine inb_n (then_n ?_)
      refine rg_seq FF7 MM7 [o_, o_, o_] [1, 5, 0] (fun Kt => i + 1 < 9223372036854775808 ∧ Kt [(5, .int .i64 (i + 1 : Nat)), (1, .int .i64 (m - (Ps.take (i + 1)).flatten.length : Nat)), (0, .slice (some ⟨pb, off, none⟩) Ps.length cap)] [(pb, .cells cs T9 fr)]) (by kernel_rfl) (fun _ => by kernel_rfl) (⟨(by omega), fun ac8 wd8 FF8 MM8 => ?_⟩)
      have hd := cnt_of (FF8.get 0 rfl)
      refine then_n ⟨⟨i + 1, by omega, hs2, FF8.pick [0, 2, 1], MM8⟩, ?_⟩
      rw [hc, hd]; omega
  · skip
    refine then_n (.inr ⟨(FF4.ev 0 rfl).trans (dec_f hlt), ?_⟩)
    obtain rfl : i = Ps.length := by omega
    rw [List.take_length] at hs
    refine then_n ?_
    refine wp_seq (rg_seq FF4 MM4 [o_] [5, 0, 1, 4] (fun Kt => Kt [(4, .bool false), (5, .int .i64 (Ps.length : Nat)), (0, .slice (some ⟨pb, off, none⟩) Ps.length cap), (1, .int .i64 (m - (Ps.take Ps.length).flatten.length : Nat))] [(pb, .cells cs T9 fr)]) (by kernel_rfl) (fun _ => by kernel_rfl) (fun ac9 wd9 FF9 MM9 => then_n ?_))
    refine wp_ret ?_
    repeat first | refine then_ret ?_ | refine inb_ret ?_
    exact (ret_fr FF9 0 Tryd.results7 rfl ⟨by rw [decide_eq_false (by omega)], MM9.below1 0 rfl hb⟩)
set_option maxRecDepth 100000 in
theorem long_empty (m : Nat) (p : Option Addr) (cap : Nat) (w0 : World) :
    Calls Tryd.prog 7 #[.slice p 0 cap, .int .i64 (m : Nat)] w0 fun e w' => e = .returned (.bool false) ∧ Below w0.heap.size w0 w' := by
  refine enter_fr Tryd.func7 rfl Tryd.ntmps7 (by simp) fun ac (FF : Fr 26 ac [(0, .slice p 0 cap), (1, .int .i64 (m : Nat))]) => ?_
  have MM := MemS.start w0
  refine wp_seq (rg_seq FF MM [o_] [0, 1, 4] (fun Kt => Kt [(4, .bool false), (0, .slice p 0 cap), (1, .int .i64 (m : Nat))] []) (by kernel_rfl) (fun _ => by kernel_rfl) (fun ac1 wd1 FF1 MM1 => then_n ?_))
  refine wp_seq ?_
  refine wp_seq (rg_seq FF1 MM1 [o_] [4, 0, 1, 5] (fun Kt => Kt [(5, .int .i64 (0 : Nat)), (4, .bool false), (0, .slice p 0 cap), (1, .int .i64 (m : Nat))] []) (by kernel_rfl) (fun _ => by kernel_rfl) (fun ac2 wd2 FF2 MM2 => then_n ?_))
  refine wp_for2 (fun a' w' => Fr 26 a' [(5, .int .i64 (0 : Nat)), (0, .slice p 0 cap), (1, .int .i64 (m : Nat))] ∧ MemS (fun k => k < w0.heap.size) w0 w' [] []) (fun a' _ => 0) ⟨FF2.pick [0, 2, 3], MM2⟩ ?_
  rintro ac3 wd3 ⟨FF3, MM3⟩
  refine rg_seq FF3 MM3 [o_, o_, o_, w_ 3] [5, 0, 1, 9] (fun Kt => ¬ (0 < 0) ∧ Kt [(9, .bool false), (5, .int .i64 (0 : Nat)), (0, .slice p 0 cap), (1, .int .i64 (m : Nat))] []) (by kernel_rfl) (fun _ => by kernel_rfl) (⟨(by decide), fun ac4 wd4 FF4 MM4 => ?_⟩)
  refine then_n (.inr ⟨FF4.ev 0 rfl, ?_⟩)
  refine then_n ?_
  refine wp_seq (rg_seq FF4 MM4 [o_] [5, 0, 1, 4] (fun Kt => Kt [(4, .bool false), (5, .int .i64 (0 : Nat)), (0, .slice p 0 cap), (1, .int .i64 (m : Nat))] []) (by kernel_rfl) (fun _ => by kernel_rfl) (fun ac5 wd5 FF5 MM5 => then_n ?_))
  refine wp_ret ?_
  repeat first | refine then_ret ?_ | refine inb_ret ?_
  exact (ret_fr FF5 0 Tryd.results7 rfl ⟨rfl, MM5.below⟩)
theorem long_S (m : Nat) (hm : m < 9223372036854775808) (Ps : List (List Nat)) (hn : Ps.length < 9223372036854775808) (p : Option Addr) (cap : Nat) (w0 : World) (h : StrsIn w0 p Ps) :
    Calls Tryd.prog 7 #[.slice p Ps.length cap, .int .i64 (m : Nat)] w0 fun e w' => e = .returned (.bool (decide (Ps.flatten.length > m))) ∧ Below w0.heap.size w0 w' := by
  rcases h with rfl | ⟨b, off, cs, T, fr, rfl, hb, hc⟩
  · rw [decide_eq_false (show ¬ ([] : List (List Nat)).flatten.length > m by simp)]
    exact long_empty m p cap w0
  · exact longm Ps m hm hn b off cap T fr cs hc w0 hb
theorem en_Texts : Enters Tryd.prog 19 := fun args w => by simp [go_sem]
set_option maxRecDepth 100000 in
theorem texts_diff (Ps Qs : List (List Nat)) (hne : Ps.length ≠ Qs.length) (p q : Option Addr) (cap cap2 : Nat) (w0 : World) :
    Calls Tryd.prog 19 #[.slice p Ps.length cap, .slice q Qs.length cap2] w0 fun e w' => e = .returned (.bool (decide (Ps = Qs))) ∧ Below w0.heap.size w0 w' := by
  refine enter_fr Tryd.func19 rfl Tryd.ntmps19 (by simp) fun ac (FF : Fr 26 ac [(0, .slice p Ps.length cap), (1, .slice q Qs.length cap2)]) => ?_
  have MM := MemS.start w0
  refine wp_seq (rg_seq FF MM [o_] [0, 1, 4] (fun Kt => Kt [(4, .bool false), (0, .slice p Ps.length cap), (1, .slice q Qs.length cap2)] []) (by kernel_rfl) (fun _ => by kernel_rfl) (fun ac1 wd1 FF1 MM1 => then_n ?_))
  refine wp_seq ?_
  refine wp_seq (rg_seq FF1 MM1 [o_, o_, o_, o_, w_ 2] [4, 0, 1, 10] (fun Kt => Ps.length ≠ Qs.length ∧ Kt [(10, .bool true), (4, .bool false), (0, .slice p Ps.length cap), (1, .slice q Qs.length cap2)] []) (by kernel_rfl) (fun _ => by kernel_rfl) (⟨hne, fun ac2 wd2 FF2 MM2 => then_n ?_⟩))
  refine wp_cond_true (FF2.ev 0 rfl) ?_
  refine wp_seq (rg_seq FF2 MM2 [o_] [4, 0, 1] (fun Kt => Kt [(4, .bool false), (0, .slice p Ps.length cap), (1, .slice q Qs.length cap2)] []) (by kernel_rfl) (fun _ => by kernel_rfl) (fun ac3 wd3 FF3 MM3 => then_n ?_))
  refine wp_ret ?_
  repeat first | refine then_ret ?_ | refine inb_ret ?_
  exact (ret_fr FF3 0 Tryd.results19 rfl ⟨by rw [decide_eq_false (fun e => hne (by rw [e]))], MM3.below⟩)
set_option maxRecDepth 100000 in
theorem texts_none (p q : Option Addr) (cap cap2 : Nat) (w0 : World) :
    Calls Tryd.prog 19 #[.slice p 0 cap, .slice q 0 cap2] w0 fun e w' => e = .returned (.bool true) ∧ Below w0.heap.size w0 w' := by
  refine enter_fr Tryd.func19 rfl Tryd.ntmps19 (by simp) fun ac (FF : Fr 26 ac [(0, .slice p 0 cap), (1, .slice q 0 cap2)]) => ?_
  have MM := MemS.start w0
  refine wp_seq (rg_seq FF MM [o_] [0, 1, 4] (fun Kt => Kt [(4, .bool false), (0, .slice p 0 cap), (1, .slice q 0 cap2)] []) (by kernel_rfl) (fun _ => by kernel_rfl) (fun ac1 wd1 FF1 MM1 => then_n ?_))
  refine wp_seq ?_
  refine wp_seq (rg_seq FF1 MM1 [o_, o_, o_, o_, w_ 3] [4, 0, 1, 10] (fun Kt => ¬ (0 ≠ 0) ∧ Kt [(10, .bool false), (4, .bool false), (0, .slice p 0 cap), (1, .slice q 0 cap2)] []) (by kernel_rfl) (fun _ => by kernel_rfl) (⟨(by simp), fun ac2 wd2 FF2 MM2 => then_n ?_⟩))
  refine wp_cond_false (FF2.ev 0 rfl) ?_
  refine wp_skip ?_
  refine then_n ?_
  refine wp_seq ?_
  refine wp_seq (rg_seq FF2 MM2 [o_] [4, 0, 1, 5] (fun Kt => Kt [(5, .int .i64 (0 : Nat)), (4, .bool false), (0, .slice p 0 cap), (1, .slice q 0 cap2)] []) (by kernel_rfl) (fun _ => by kernel_rfl) (fun ac3 wd3 FF3 MM3 => then_n ?_))
  refine wp_for2 (fun a' w' => Fr 26 a' [(5, .int .i64 (0 : Nat)), (0, .slice p 0 cap), (1, .slice q 0 cap2)] ∧ MemS (fun k => k < w0.heap.size) w0 w' [] []) (fun a' _ => 0) ⟨FF3.pick [0, 2, 3], MM3⟩ ?_
  rintro ac4 wd4 ⟨FF4, MM4⟩
  refine rg_seq FF4 MM4 [o_, o_, o_, w_ 3] [5, 0, 1, 14] (fun Kt => ¬ (0 < 0) ∧ Kt [(14, .bool false), (5, .int .i64 (0 : Nat)), (0, .slice p 0 cap), (1, .slice q 0 cap2)] []) (by kernel_rfl) (fun _ => by kernel_rfl) (⟨(by decide), fun ac5 wd5 FF5 MM5 => ?_⟩)
  refine then_n (.inr ⟨FF5.ev 0 rfl, ?_⟩)
  refine then_n ?_
  refine wp_seq (rg_seq FF5 MM5 [o_] [5, 0, 1, 4] (fun Kt => Kt [(4, .bool true), (5, .int .i64 (0 : Nat)), (0, .slice p 0 cap), (1, .slice q 0 cap2)] []) (by kernel_rfl) (fun _ => by kernel_rfl) (fun ac6 wd6 FF6 MM6 => then_n ?_))
  refine wp_ret ?_
  repeat first | refine then_ret ?_ | refine inb_ret ?_
  exact (ret_fr FF6 0 Tryd.results19 rfl ⟨rfl, MM6.below⟩)
set_option maxRecDepth 100000 in
theorem texts_two (Ps Qs : List (List Nat)) (hP : ∀ X ∈ Ps, ∀ i, X.getD i 0 < 256) (hQ : ∀ X ∈ Qs, ∀ i, X.getD i 0 < 256) (heL : Ps.length = Qs.length) (hn : Ps.length < 9223372036854775808) (pb off T9 : Nat) (fr : Nat × Nat) (cs : Array Value) (hp : ∀ j, j < Qs.length → cs[off + j]? = some (.string (bs (Qs.getD j [])))) (cap cap2 : Nat) (g of2 T8 : Nat) (fr2 : Nat × Nat) (cur : Array Value) (hq : ∀ j, j < Ps.length → cur[of2 + j]? = some (.string (bs (Ps.getD j [])))) (hD : Distinct [(g, .cells cur T8 fr2), (pb, .cells cs T9 fr)]) (w0 : World) (H : Has w0 [(g, .cells cur T8 fr2), (pb, .cells cs T9 fr)]) :
    Calls Tryd.prog 19 #[.slice (some ⟨g, of2, none⟩) Ps.length cap, .slice (some ⟨pb, off, none⟩) Qs.length cap2] w0 fun e w' => e = .returned (.bool (decide (Ps = Qs))) ∧ Below w0.heap.size w0 w' := by
  have MM := MemS.startN H hD
  refine enter_fr Tryd.func19 rfl Tryd.ntmps19 (by simp) fun ac (FF : Fr 26 ac [(0, .slice (some ⟨g, of2, none⟩) Ps.length cap), (1, .slice (some ⟨pb, off, none⟩) Qs.length cap2)]) => ?_
  refine wp_seq (rg_seq FF MM [o_] [0, 1, 4] (fun Kt => Kt [(4, .bool false), (0, .slice (some ⟨g, of2, none⟩) Ps.length cap), (1, .slice (some ⟨pb, off, none⟩) Qs.length cap2)] [(g, .cells cur T8 fr2), (pb, .cells cs T9 fr)]) (by kernel_rfl) (fun _ => by kernel_rfl) (fun ac1 wd1 FF1 MM1 => then_n ?_))
  refine wp_seq ?_
  refine wp_seq (rg_seq FF1 MM1 [o_, o_, o_, o_, w_ 3] [4, 0, 1, 10] (fun Kt => ¬ (Ps.length ≠ Qs.length) ∧ Kt [(10, .bool false), (4, .bool false), (0, .slice (some ⟨g, of2, none⟩) Ps.length cap), (1, .slice (some ⟨pb, off, none⟩) Qs.length cap2)] [(g, .cells cur T8 fr2), (pb, .cells cs T9 fr)]) (by kernel_rfl) (fun _ => by kernel_rfl) (⟨(by omega), fun ac2 wd2 FF2 MM2 => then_n ?_⟩))
  refine wp_cond_false (FF2.ev 0 rfl) ?_
  refine wp_skip ?_
  refine then_n ?_
  refine wp_seq ?_
  refine wp_seq (rg_seq FF2 MM2 [o_] [4, 0, 1, 5] (fun Kt => Kt [(5, .int .i64 (0 : Nat)), (4, .bool false), (0, .slice (some ⟨g, of2, none⟩) Ps.length cap), (1, .slice (some ⟨pb, off, none⟩) Qs.length cap2)] [(g, .cells cur T8 fr2), (pb, .cells cs T9 fr)]) (by kernel_rfl) (fun _ => by kernel_rfl) (fun ac3 wd3 FF3 MM3 => then_n ?_))
  refine wp_for2 (fun a' w' => ∃ i : Nat, i ≤ Ps.length ∧ (∀ j, j < i → Ps.getD j [] = Qs.getD j []) ∧ Fr 26 a' [(5, .int .i64 (i : Nat)), (0, .slice (some ⟨g, of2, none⟩) Ps.length cap), (1, .slice (some ⟨pb, off, none⟩) Qs.length cap2)] ∧ MemS (fun k => k < w0.heap.size ∧ ∀ x ∈ [(g, Obj.cells cur T8 fr2), (pb, .cells cs T9 fr)], x.1 ≠ k) w0 w' [(g, .cells cur T8 fr2), (pb, .cells cs T9 fr)] []) (fun a' _ => (Ps.length - cnt 5 a').toNat) ⟨0, by omega, fun j hj => absurd hj (Nat.not_lt_zero _), FF3.pick [0, 2, 3], MM3⟩ ?_
  rintro ac4 wd4 ⟨i, hi, he, FF4, MM4⟩
  have hc := cnt_of (FF4.get 0 rfl)
  refine rg_seq FF4 MM4 [o_, o_, o_, o_] [5, 0, 1, 14] (fun Kt => Kt [(14, .bool (decide (i < Ps.length))), (5, .int .i64 (i : Nat)), (0, .slice (some ⟨g, of2, none⟩) Ps.length cap), (1, .slice (some ⟨pb, off, none⟩) Qs.length cap2)] [(g, .cells cur T8 fr2), (pb, .cells cs T9 fr)]) (by kernel_rfl) (fun _ => by kernel_rfl) (fun ac5 wd5 FF5 MM5 => ?_)
  by_cases hlt : i < Ps.length
  · skip
    refine then_n (.inl ⟨(FF5.ev 0 rfl).trans (dec_t hlt), ?_⟩)
    refine wp_seq (rg_draw FF5 MM5 [.inl (.slice (some ⟨g, of2, none⟩) Ps.length cap), .inl (.int .i64 (i : Nat)), .inl (.pointer (some ⟨g, of2 + i, none⟩)), .inl (.string (bs (Ps.getD i []))), .inl (.slice (some ⟨pb, off, none⟩) Qs.length cap2), .inl (.int .i64 (i : Nat)), .inl (.pointer (some ⟨pb, off + i, none⟩)), .inl (.string (bs (Qs.getD i []))), .inl (.bool (decide (bs (Ps.getD i []) ≠ bs (Qs.getD i []))))] [] [o_, o_, o_, l_ 0 (.string (bs (Ps.getD i []))), o_, o_, o_, l_ 1 (.string (bs (Qs.getD i []))), o_] [] [5, 0, 1, 25] (fun nb => [i < Ps.length, g = g, cur[of2 + i]? = some (.string (bs (Ps.getD i []))), i < Qs.length, pb = pb, cs[off + i]? = some (.string (bs (Qs.getD i [])))]) (fun nb Kt => Kt [(25, .bool (decide (bs (Ps.getD i []) ≠ bs (Qs.getD i [])))), (5, .int .i64 (i : Nat)), (0, .slice (some ⟨g, of2, none⟩) Ps.length cap), (1, .slice (some ⟨pb, off, none⟩) Qs.length cap2)] [(g, .cells cur T8 fr2), (pb, .cells cs T9 fr)]) (by kernel_rfl) (by kernel_rfl) (by kernel_rfl) (fun _ => by kernel_rfl) (fun _ _ => by kernel_rfl) trivial (fun nb => ⟨(by omega), rfl, (hq i hlt), (by omega), rfl, (hp i (by omega)), trivial⟩) (fun nb => fun ac6 wd6 FF6 MM6 => then_n ?_))
    by_cases hs25 : bs (Ps.getD i []) ≠ bs (Qs.getD i [])
    · refine wp_cond_true ((FF6.ev 0 rfl).trans (dec_t hs25)) ?_
      have hne : ¬ Ps = Qs := fun e => hs25 (by rw [e])
      refine wp_seq (rg_seq FF6 MM6 [o_] [5, 0, 1, 4] (fun Kt => Kt [(4, .bool false), (5, .int .i64 (i : Nat)), (0, .slice (some ⟨g, of2, none⟩) Ps.length cap), (1, .slice (some ⟨pb, off, none⟩) Qs.length cap2)] [(g, .cells cur T8 fr2), (pb, .cells cs T9 fr)]) (by kernel_rfl) (fun _ => by kernel_rfl) (fun ac7 wd7 FF7 MM7 => then_n ?_))
      refine wp_ret ?_
      repeat first | refine then_ret ?_ | refine inb_ret ?_
      exact (ret_fr FF7 0 Tryd.results19 rfl ⟨by rw [decide_eq_false hne], MM7.belowN H (fun x hx => hx)⟩)
    · refine wp_cond_false ((FF6.ev 0 rfl).trans (dec_f hs25)) ?_
      have heq : Ps.getD i [] = Qs.getD i [] := bs_inj (getD_lt hP hlt) (getD_lt hQ (by omega)) (Classical.not_not.1 hs25)
      refine wp_skip ?_
      refine inb_n (then_n ?_)
      refine rg_seq FF6 MM6 [o_, o_, o_] [5, 0, 1] (fun Kt => i + 1 < 9223372036854775808 ∧ Kt [(5, .int .i64 (i + 1 : Nat)), (0, .slice (some ⟨g, of2, none⟩) Ps.length cap), (1, .slice (some ⟨pb, off, none⟩) Qs.length cap2)] [(g, .cells cur T8 fr2), (pb, .cells cs T9 fr)]) (by kernel_rfl) (fun _ => by kernel_rfl) (⟨(by omega), fun ac8 wd8 FF8 MM8 => ?_⟩)
      have hd := cnt_of (FF8.get 0 rfl)
      refine then_n ⟨⟨i + 1, by omega, fun j hj => (Nat.lt_succ_iff_lt_or_eq.1 hj).elim (he j) (fun e => by subst e; exact heq), FF8.pick [0, 1, 2], MM8⟩, ?_⟩
      rw [hc, hd]; omega
  · skip
    refine then_n (.inr ⟨(FF5.ev 0 rfl).trans (dec_f hlt), ?_⟩)
    refine then_n ?_
    refine wp_seq (rg_seq FF5 MM5 [o_] [5, 0, 1, 4] (fun Kt => Kt [(4, .bool true), (5, .int .i64 (i : Nat)), (0, .slice (some ⟨g, of2, none⟩) Ps.length cap), (1, .slice (some ⟨pb, off, none⟩) Qs.length cap2)] [(g, .cells cur T8 fr2), (pb, .cells cs T9 fr)]) (by kernel_rfl) (fun _ => by kernel_rfl) (fun ac9 wd9 FF9 MM9 => then_n ?_))
    refine wp_ret ?_
    repeat first | refine then_ret ?_ | refine inb_ret ?_
    exact (ret_fr FF9 0 Tryd.results19 rfl ⟨by rw [decide_eq_true (ext_getL heL fun j hj => he j (by omega))], MM9.belowN H (fun x hx => hx)⟩)
set_option maxRecDepth 100000 in
theorem texts_one (Ps Qs : List (List Nat)) (hP : ∀ X ∈ Ps, ∀ i, X.getD i 0 < 256) (hQ : ∀ X ∈ Qs, ∀ i, X.getD i 0 < 256) (heL : Ps.length = Qs.length) (hn : Ps.length < 9223372036854775808) (pb off T9 : Nat) (fr : Nat × Nat) (cs : Array Value) (hp : ∀ j, j < Qs.length → cs[off + j]? = some (.string (bs (Qs.getD j [])))) (cap cap2 : Nat) (of2 : Nat) (hq : ∀ j, j < Ps.length → cs[of2 + j]? = some (.string (bs (Ps.getD j [])))) (w0 : World) (hb : w0.heap[pb]? = some (.cells cs T9 fr)) :
    Calls Tryd.prog 19 #[.slice (some ⟨pb, of2, none⟩) Ps.length cap, .slice (some ⟨pb, off, none⟩) Qs.length cap2] w0 fun e w' => e = .returned (.bool (decide (Ps = Qs))) ∧ Below w0.heap.size w0 w' := by
  have MM := MemS.start1 hb
  refine enter_fr Tryd.func19 rfl Tryd.ntmps19 (by simp) fun ac (FF : Fr 26 ac [(0, .slice (some ⟨pb, of2, none⟩) Ps.length cap), (1, .slice (some ⟨pb, off, none⟩) Qs.length cap2)]) => ?_
  refine wp_seq (rg_seq FF MM [o_] [0, 1, 4] (fun Kt => Kt [(4, .bool false), (0, .slice (some ⟨pb, of2, none⟩) Ps.length cap), (1, .slice (some ⟨pb, off, none⟩) Qs.length cap2)] [(pb, .cells cs T9 fr)]) (by kernel_rfl) (fun _ => by kernel_rfl) (fun ac1 wd1 FF1 MM1 => then_n ?_))
  refine wp_seq ?_
  refine wp_seq (rg_seq FF1 MM1 [o_, o_, o_, o_, w_ 3] [4, 0, 1, 10] (fun Kt => ¬ (Ps.length ≠ Qs.length) ∧ Kt [(10, .bool false), (4, .bool false), (0, .slice (some ⟨pb, of2, none⟩) Ps.length cap), (1, .slice (some ⟨pb, off, none⟩) Qs.length cap2)] [(pb, .cells cs T9 fr)]) (by kernel_rfl) (fun _ => by kernel_rfl) (⟨(by omega), fun ac2 wd2 FF2 MM2 => then_n ?_⟩))
  refine wp_cond_false (FF2.ev 0 rfl) ?_
  refine wp_skip ?_
  refine then_n ?_
  refine wp_seq ?_
  refine wp_seq (rg_seq FF2 MM2 [o_] [4, 0, 1, 5] (fun Kt => Kt [(5, .int .i64 (0 : Nat)), (4, .bool false), (0, .slice (some ⟨pb, of2, none⟩) Ps.length cap), (1, .slice (some ⟨pb, off, none⟩) Qs.length cap2)] [(pb, .cells cs T9 fr)]) (by kernel_rfl) (fun _ => by kernel_rfl) (fun ac3 wd3 FF3 MM3 => then_n ?_))
  refine wp_for2 (fun a' w' => ∃ i : Nat, i ≤ Ps.length ∧ (∀ j, j < i → Ps.getD j [] = Qs.getD j []) ∧ Fr 26 a' [(5, .int .i64 (i : Nat)), (0, .slice (some ⟨pb, of2, none⟩) Ps.length cap), (1, .slice (some ⟨pb, off, none⟩) Qs.length cap2)] ∧ MemS (fun k => k < w0.heap.size ∧ k ≠ pb) w0 w' [(pb, .cells cs T9 fr)] []) (fun a' _ => (Ps.length - cnt 5 a').toNat) ⟨0, by omega, fun j hj => absurd hj (Nat.not_lt_zero _), FF3.pick [0, 2, 3], MM3⟩ ?_
  rintro ac4 wd4 ⟨i, hi, he, FF4, MM4⟩
  have hc := cnt_of (FF4.get 0 rfl)
  refine rg_seq FF4 MM4 [o_, o_, o_, o_] [5, 0, 1, 14] (fun Kt => Kt [(14, .bool (decide (i < Ps.length))), (5, .int .i64 (i : Nat)), (0, .slice (some ⟨pb, of2, none⟩) Ps.length cap), (1, .slice (some ⟨pb, off, none⟩) Qs.length cap2)] [(pb, .cells cs T9 fr)]) (by kernel_rfl) (fun _ => by kernel_rfl) (fun ac5 wd5 FF5 MM5 => ?_)
  by_cases hlt : i < Ps.length
  · skip
    refine then_n (.inl ⟨(FF5.ev 0 rfl).trans (dec_t hlt), ?_⟩)
    refine wp_seq (rg_draw FF5 MM5 [.inl (.slice (some ⟨pb, of2, none⟩) Ps.length cap), .inl (.int .i64 (i : Nat)), .inl (.pointer (some ⟨pb, of2 + i, none⟩)), .inl (.string (bs (Ps.getD i []))), .inl (.slice (some ⟨pb, off, none⟩) Qs.length cap2), .inl (.int .i64 (i : Nat)), .inl (.pointer (some ⟨pb, off + i, none⟩)), .inl (.string (bs (Qs.getD i []))), .inl (.bool (decide (bs (Ps.getD i []) ≠ bs (Qs.getD i []))))] [] [o_, o_, o_, l_ 0 (.string (bs (Ps.getD i []))), o_, o_, o_, l_ 0 (.string (bs (Qs.getD i []))), o_] [] [5, 0, 1, 25] (fun nb => [i < Ps.length, pb = pb, cs[of2 + i]? = some (.string (bs (Ps.getD i []))), i < Qs.length, pb = pb, cs[off + i]? = some (.string (bs (Qs.getD i [])))]) (fun nb Kt => Kt [(25, .bool (decide (bs (Ps.getD i []) ≠ bs (Qs.getD i [])))), (5, .int .i64 (i : Nat)), (0, .slice (some ⟨pb, of2, none⟩) Ps.length cap), (1, .slice (some ⟨pb, off, none⟩) Qs.length cap2)] [(pb, .cells cs T9 fr)]) (by kernel_rfl) (by kernel_rfl) (by kernel_rfl) (fun _ => by kernel_rfl) (fun _ _ => by kernel_rfl) trivial (fun nb => ⟨(by omega), rfl, (hq i hlt), (by omega), rfl, (hp i (by omega)), trivial⟩) (fun nb => fun ac6 wd6 FF6 MM6 => then_n ?_))
    by_cases hs25 : bs (Ps.getD i []) ≠ bs (Qs.getD i [])
    · refine wp_cond_true ((FF6.ev 0 rfl).trans (dec_t hs25)) ?_
      have hne : ¬ Ps = Qs := fun e => hs25 (by rw [e])
      refine wp_seq (rg_seq FF6 MM6 [o_] [5, 0, 1, 4] (fun Kt => Kt [(4, .bool false), (5, .int .i64 (i : Nat)), (0, .slice (some ⟨pb, of2, none⟩) Ps.length cap), (1, .slice (some ⟨pb, off, none⟩) Qs.length cap2)] [(pb, .cells cs T9 fr)]) (by kernel_rfl) (fun _ => by kernel_rfl) (fun ac7 wd7 FF7 MM7 => then_n ?_))
      refine wp_ret ?_
      repeat first | refine then_ret ?_ | refine inb_ret ?_
      exact (ret_fr FF7 0 Tryd.results19 rfl ⟨by rw [decide_eq_false hne], MM7.below1 0 rfl hb⟩)
    · refine wp_cond_false ((FF6.ev 0 rfl).trans (dec_f hs25)) ?_
      have heq : Ps.getD i [] = Qs.getD i [] := bs_inj (getD_lt hP hlt) (getD_lt hQ (by omega)) (Classical.not_not.1 hs25)
      refine wp_skip ?_
      refine inb_n (then_n ?_)
      refine rg_seq FF6 MM6 [o_, o_, o_] [5, 0, 1] (fun Kt => i + 1 < 9223372036854775808 ∧ Kt [(5, .int .i64 (i + 1 : Nat)), (0, .slice (some ⟨pb, of2, none⟩) Ps.length cap), (1, .slice (some ⟨pb, off, none⟩) Qs.length cap2)] [(pb, .cells cs T9 fr)]) (by kernel_rfl) (fun _ => by kernel_rfl) (⟨(by omega), fun ac8 wd8 FF8 MM8 => ?_⟩)
      have hd := cnt_of (FF8.get 0 rfl)
      refine then_n ⟨⟨i + 1, by omega, fun j hj => (Nat.lt_succ_iff_lt_or_eq.1 hj).elim (he j) (fun e => by subst e; exact heq), FF8.pick [0, 1, 2], MM8⟩, ?_⟩
      rw [hc, hd]; omega
  · skip
    refine then_n (.inr ⟨(FF5.ev 0 rfl).trans (dec_f hlt), ?_⟩)
    refine then_n ?_
    refine wp_seq (rg_seq FF5 MM5 [o_] [5, 0, 1, 4] (fun Kt => Kt [(4, .bool true), (5, .int .i64 (i : Nat)), (0, .slice (some ⟨pb, of2, none⟩) Ps.length cap), (1, .slice (some ⟨pb, off, none⟩) Qs.length cap2)] [(pb, .cells cs T9 fr)]) (by kernel_rfl) (fun _ => by kernel_rfl) (fun ac9 wd9 FF9 MM9 => then_n ?_))
    refine wp_ret ?_
    repeat first | refine then_ret ?_ | refine inb_ret ?_
    exact (ret_fr FF9 0 Tryd.results19 rfl ⟨by rw [decide_eq_true (ext_getL heL fun j hj => he j (by omega))], MM9.below1 0 rfl hb⟩)
/-- Are two rows of texts the same, wherever they lie? -/
theorem texts_S (Ps Qs : List (List Nat)) (hP : ∀ X ∈ Ps, ∀ i, X.getD i 0 < 256) (hQ : ∀ X ∈ Qs, ∀ i, X.getD i 0 < 256) (hn : Ps.length < 9223372036854775808) (p q : Option Addr) (cap cap2 : Nat) (w0 : World) (h1 : StrsIn w0 p Ps) (h2 : StrsIn w0 q Qs) :
    Calls Tryd.prog 19 #[.slice p Ps.length cap, .slice q Qs.length cap2] w0 fun e w' => e = .returned (.bool (decide (Ps = Qs))) ∧ Below w0.heap.size w0 w' := by
  by_cases heL : Ps.length = Qs.length
  · rcases h1 with rfl | ⟨g, of2, cur, T8, fr2, rfl, hg, hq⟩
    · obtain rfl : Qs = [] := List.eq_nil_of_length_eq_zero heL.symm
      exact texts_none p q cap cap2 w0
    · rcases h2 with rfl | ⟨b, off, cs, T, fr, rfl, hb, hc⟩
      · obtain rfl : Ps = [] := List.eq_nil_of_length_eq_zero heL
        exact texts_none _ q cap cap2 w0
      · by_cases hbg : b = g
        · subst hbg
          obtain ⟨rfl, rfl, rfl⟩ : cur = cs ∧ T8 = T ∧ fr2 = fr := by
            have := hg.symm.trans hb
            simp only [Option.some.injEq, Obj.cells.injEq] at this
            exact this
          exact texts_one Ps Qs hP hQ heL hn b off T8 fr2 cur hc cap cap2 of2 hq w0 hb
        · refine texts_two Ps Qs hP hQ heL hn b off T fr cs hc cap cap2 g of2 T8 fr2 cur hq ⟨fun y hy => ?_, fun y hy => (nomatch hy), trivial⟩ w0 fun i x hx => ?_
          · obtain rfl := List.mem_singleton.1 hy
            exact hbg
          · match i, hx with
            | 0, hx => cases hx; exact hg
            | 1, hx => cases hx; exact hb
            | i + 2, hx => simp at hx
  · exact texts_diff Ps Qs heL p q cap cap2 w0

end Go.Proofs.YtkpindnekaijfaaDoor
