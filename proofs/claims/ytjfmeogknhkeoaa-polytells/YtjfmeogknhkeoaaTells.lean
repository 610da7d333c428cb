/- PolyTells: the walk. -/
import Derived.Test.YtjfmeogknhkeoaaP9
import Derived.Test.YtjfmeogknhkeoaaEvH
namespace Go.Proofs.Ytjfmeogknhkeoaa
open Go.RowKit

/-- Strings, as values. -/
def strV (Ps : List (List Nat)) : List Value := Ps.map fun X => .string (bs X)
theorem strV_len (Ps : List (List Nat)) : (strV Ps).length = Ps.length * 1 := by simp [strV]
theorem strV_one (Ps : List (List Nat)) : ∀ u ∈ strV Ps, u.oneCell' = true := fun u hu => by
  obtain ⟨x, _, rfl⟩ := List.mem_map.1 hu; rfl
theorem strV_get (Ps : List (List Nat)) (j : Nat) (h : j < Ps.length) : (strV Ps)[j]? = some (.string (bs (Ps.getD j []))) := by simp [strV, h]
theorem flat_le (Ps : List (List Nat)) (i : Nat) : (Ps.take i).flatten.length ≤ Ps.flatten.length := by
  conv => rhs; rw [← List.take_append_drop i Ps, List.flatten_append, List.length_append]
  omega
theorem own_cells {Ps : List (List Nat)} {cur : Array Value} (h : cur.toList.take (Ps.length * 1) = [] ++ strV Ps) : ∀ j, j < Ps.length → cur[j]? = some (.string (bs (Ps.getD j []))) := fun j hj => by
  have e := congrArg (fun l => l[j]?) h
  simp only [List.nil_append, Nat.mul_one] at e
  rw [List.getElem?_take, if_pos hj, strV_get Ps j hj] at e
  rw [show cur[j]? = cur.toList[j]? by simp, e]
set_option maxRecDepth 100000 in
theorem long_any (Ps : List (List Nat)) (_hP : ∀ X ∈ Ps, ∀ i, X.getD i 0 < 256) (hn : Ps.length < 9223372036854775808) (pb off cap T9 : Nat) (fr : Nat × Nat) (cs : Array Value) (hp : ∀ j, j < Ps.length → cs[off + j]? = some (.string (bs (Ps.getD j [])))) (w0 : World) (hb : w0.heap[pb]? = some (.cells cs T9 fr)) :
    Calls Try.prog 8 #[.slice (some ⟨pb, off, none⟩) Ps.length cap, .int .i64 (400 : Nat)] w0 fun e w' => e = .returned (.bool (decide (Ps.flatten.length > 400))) ∧ Below w0.heap.size w0 w' := by
  have MM := MemS.start1 hb
  refine enter_fr Try.func8 rfl Try.ntmps8 (by simp) fun ac (FF : Fr 26 ac [(0, .slice (some ⟨pb, off, none⟩) Ps.length cap), (1, .int .i64 (400 : Nat))]) => ?_
  refine wp_seq (rg_seq FF MM [o_] [0, 1, 4] (fun Kt => Kt [(4, .bool false), (0, .slice (some ⟨pb, off, none⟩) Ps.length cap), (1, .int .i64 (400 : Nat))] [(pb, .cells cs T9 fr)]) (by kernel_rfl) (fun _ => by kernel_rfl) (fun ac1 wd1 FF1 MM1 => then_n ?_))
  refine wp_seq ?_
  refine wp_seq (rg_seq FF1 MM1 [o_] [4, 0, 1, 5] (fun Kt => Kt [(5, .int .i64 (0 : Nat)), (4, .bool false), (0, .slice (some ⟨pb, off, none⟩) Ps.length cap), (1, .int .i64 (400 : Nat))] [(pb, .cells cs T9 fr)]) (by kernel_rfl) (fun _ => by kernel_rfl) (fun ac2 wd2 FF2 MM2 => then_n ?_))
  refine wp_for2 (fun a' w' => ∃ i : Nat, i ≤ Ps.length ∧ (Ps.take i).flatten.length ≤ 400 ∧ Fr 26 a' [(5, .int .i64 (i : Nat)), (0, .slice (some ⟨pb, off, none⟩) Ps.length cap), (1, .int .i64 (400 - (Ps.take i).flatten.length : Nat))] ∧ MemS (fun k => k < w0.heap.size ∧ k ≠ pb) w0 w' [(pb, .cells cs T9 fr)] []) (fun a' _ => (Ps.length - cnt 5 a').toNat) ⟨0, by omega, by simp, FF2.pick [0, 2, 3], MM2⟩ ?_
  rintro ac3 wd3 ⟨i, hi, hs, FF3, MM3⟩
  have hc := cnt_of (FF3.get 0 rfl)
  refine rg_seq FF3 MM3 [o_, o_, o_, o_] [5, 0, 1, 9] (fun Kt => Kt [(9, .bool (decide (i < Ps.length))), (5, .int .i64 (i : Nat)), (0, .slice (some ⟨pb, off, none⟩) Ps.length cap), (1, .int .i64 (400 - (Ps.take i).flatten.length : Nat))] [(pb, .cells cs T9 fr)]) (by kernel_rfl) (fun _ => by kernel_rfl) (fun ac4 wd4 FF4 MM4 => ?_)
  by_cases hlt : i < Ps.length
  · skip
    refine then_n (.inl ⟨(FF4.ev 0 rfl).trans (dec_t hlt), ?_⟩)
    refine wp_seq ?_
    have hft := congrArg List.length (flat_take Ps i hlt)
    rw [List.length_append] at hft
    have hfl := flat_le Ps (i + 1)
    refine wp_seq (rg_seq FF4 MM4 [o_, o_, o_, l_ 0 (.string (bs (Ps.getD i []))), t_ (.int .i64 ((Ps.getD i []).length : Nat)), o_, o_] [5, 0, 1, 18] (fun Kt => i < Ps.length ∧ pb = pb ∧ cs[off + i]? = some (.string (bs (Ps.getD i []))) ∧ Value.int .i64 ((bs (Ps.getD i [])).size : Nat) = .int .i64 ((Ps.getD i []).length : Nat) ∧ Kt [(18, .bool (decide (((Ps.getD i []).length) > (400 - (Ps.take i).flatten.length)))), (5, .int .i64 (i : Nat)), (0, .slice (some ⟨pb, off, none⟩) Ps.length cap), (1, .int .i64 (400 - (Ps.take i).flatten.length : Nat))] [(pb, .cells cs T9 fr)]) (by kernel_rfl) (fun _ => by kernel_rfl) (⟨(by omega), rfl, (hp i hlt), (vI (bs_size _)), fun ac5 wd5 FF5 MM5 => then_n ?_⟩))
    by_cases hs18 : ((Ps.getD i []).length) > (400 - (Ps.take i).flatten.length)
    · refine wp_cond_true ((FF5.ev 0 rfl).trans (dec_t hs18)) ?_
      refine wp_seq (rg_seq FF5 MM5 [o_] [5, 0, 1, 4] (fun Kt => Kt [(4, .bool true), (5, .int .i64 (i : Nat)), (0, .slice (some ⟨pb, off, none⟩) Ps.length cap), (1, .int .i64 (400 - (Ps.take i).flatten.length : Nat))] [(pb, .cells cs T9 fr)]) (by kernel_rfl) (fun _ => by kernel_rfl) (fun ac6 wd6 FF6 MM6 => then_n ?_))
      refine wp_ret ?_
      repeat first | refine then_ret ?_ | refine inb_ret ?_
      exact (ret_fr FF6 0 Try.results8 rfl ⟨by rw [decide_eq_true (by omega)], MM6.below1 0 rfl hb⟩)
    · refine wp_cond_false ((FF5.ev 0 rfl).trans (dec_f hs18)) ?_
      refine wp_skip ?_
      refine then_n ?_
      refine rg_seq FF5 MM5 [o_, o_, o_, o_, l_ 0 (.string (bs (Ps.getD i []))), t_ (.int .i64 ((Ps.getD i []).length : Nat)), t_ (.int .i64 (400 - (Ps.take (i + 1)).flatten.length : Nat)), o_] [5, 0, 1] (fun Kt => i < Ps.length ∧ pb = pb ∧ cs[off + i]? = some (.string (bs (Ps.getD i []))) ∧ Value.int .i64 ((bs (Ps.getD i [])).size : Nat) = .int .i64 ((Ps.getD i []).length : Nat) ∧ ((Ps.getD i []).length) ≤ (400 - (Ps.take i).flatten.length) ∧ (400 - (Ps.take i).flatten.length) - ((Ps.getD i []).length) < 9223372036854775808 ∧ Value.int .i64 ((400 - (Ps.take i).flatten.length) - ((Ps.getD i []).length) : Nat) = .int .i64 (400 - (Ps.take (i + 1)).flatten.length : Nat) ∧ Kt [(1, .int .i64 (400 - (Ps.take (i + 1)).flatten.length : Nat)), (5, .int .i64 (i : Nat)), (0, .slice (some ⟨pb, off, none⟩) Ps.length cap)] [(pb, .cells cs T9 fr)]) (by kernel_rfl) (fun _ => by kernel_rfl) (⟨(by omega), rfl, (hp i hlt), (vI (bs_size _)), (by omega), (by omega), (vI (by omega)), fun ac7 wd7 FF7 MM7 => ?_⟩)
      have hs2 : (Ps.take (i + 1)).flatten.length ≤ 400 := by omega
      refine inb_n (then_n ?_)
      refine rg_seq FF7 MM7 [o_, o_, o_] [1, 5, 0] (fun Kt => i + 1 < 9223372036854775808 ∧ Kt [(5, .int .i64 (i + 1 : Nat)), (1, .int .i64 (400 - (Ps.take (i + 1)).flatten.length : Nat)), (0, .slice (some ⟨pb, off, none⟩) Ps.length cap)] [(pb, .cells cs T9 fr)]) (by kernel_rfl) (fun _ => by kernel_rfl) (⟨(by omega), fun ac8 wd8 FF8 MM8 => ?_⟩)
      have hd := cnt_of (FF8.get 0 rfl)
      refine then_n ⟨⟨i + 1, by omega, hs2, FF8.pick [0, 2, 1], MM8⟩, ?_⟩
      rw [hc, hd]; omega
  · skip
    refine then_n (.inr ⟨(FF4.ev 0 rfl).trans (dec_f hlt), ?_⟩)
    obtain rfl : i = Ps.length := by omega
    rw [List.take_length] at hs
    refine then_n ?_
    refine wp_seq (rg_seq FF4 MM4 [o_] [5, 0, 1, 4] (fun Kt => Kt [(4, .bool false), (5, .int .i64 (Ps.length : Nat)), (0, .slice (some ⟨pb, off, none⟩) Ps.length cap), (1, .int .i64 (400 - (Ps.take Ps.length).flatten.length : Nat))] [(pb, .cells cs T9 fr)]) (by kernel_rfl) (fun _ => by kernel_rfl) (fun ac9 wd9 FF9 MM9 => then_n ?_))
    refine wp_ret ?_
    repeat first | refine then_ret ?_ | refine inb_ret ?_
    exact (ret_fr FF9 0 Try.results8 rfl ⟨by rw [decide_eq_false (by omega)], MM9.below1 0 rfl hb⟩)
set_option maxRecDepth 100000 in
theorem long_empty (p : Option Addr) (cap : Nat) (w0 : World) :
    Calls Try.prog 8 #[.slice p 0 cap, .int .i64 (400 : Nat)] w0 fun e w' => e = .returned (.bool false) ∧ Below w0.heap.size w0 w' := by
  refine enter_fr Try.func8 rfl Try.ntmps8 (by simp) fun ac (FF : Fr 26 ac [(0, .slice p 0 cap), (1, .int .i64 (400 : Nat))]) => ?_
  have MM := MemS.start w0
  refine wp_seq (rg_seq FF MM [o_] [0, 1, 4] (fun Kt => Kt [(4, .bool false), (0, .slice p 0 cap), (1, .int .i64 (400 : Nat))] []) (by kernel_rfl) (fun _ => by kernel_rfl) (fun ac1 wd1 FF1 MM1 => then_n ?_))
  refine wp_seq ?_
  refine wp_seq (rg_seq FF1 MM1 [o_] [4, 0, 1, 5] (fun Kt => Kt [(5, .int .i64 (0 : Nat)), (4, .bool false), (0, .slice p 0 cap), (1, .int .i64 (400 : Nat))] []) (by kernel_rfl) (fun _ => by kernel_rfl) (fun ac2 wd2 FF2 MM2 => then_n ?_))
  refine wp_for2 (fun a' w' => Fr 26 a' [(5, .int .i64 (0 : Nat)), (0, .slice p 0 cap), (1, .int .i64 (400 : Nat))] ∧ MemS (fun k => k < w0.heap.size) w0 w' [] []) (fun a' _ => 0) ⟨FF2.pick [0, 2, 3], MM2⟩ ?_
  rintro ac3 wd3 ⟨FF3, MM3⟩
  refine rg_seq FF3 MM3 [o_, o_, o_, w_ 3] [5, 0, 1, 9] (fun Kt => ¬ (0 < 0) ∧ Kt [(9, .bool false), (5, .int .i64 (0 : Nat)), (0, .slice p 0 cap), (1, .int .i64 (400 : Nat))] []) (by kernel_rfl) (fun _ => by kernel_rfl) (⟨(by decide), fun ac4 wd4 FF4 MM4 => ?_⟩)
  refine then_n (.inr ⟨FF4.ev 0 rfl, ?_⟩)
  refine then_n ?_
  refine wp_seq (rg_seq FF4 MM4 [o_] [5, 0, 1, 4] (fun Kt => Kt [(4, .bool false), (5, .int .i64 (0 : Nat)), (0, .slice p 0 cap), (1, .int .i64 (400 : Nat))] []) (by kernel_rfl) (fun _ => by kernel_rfl) (fun ac5 wd5 FF5 MM5 => then_n ?_))
  refine wp_ret ?_
  repeat first | refine then_ret ?_ | refine inb_ret ?_
  exact (ret_fr FF5 0 Try.results8 rfl ⟨rfl, MM5.below⟩)
set_option maxRecDepth 100000 in
theorem texts_any (Ps : List (List Nat)) (_hP : ∀ X ∈ Ps, ∀ i, X.getD i 0 < 256) (hn : Ps.length < 9223372036854775808) (pb off cap T9 : Nat) (fr : Nat × Nat) (cs : Array Value) (hp : ∀ j, j < Ps.length → cs[off + j]? = some (.string (bs (Ps.getD j [])))) (g gcap : Nat) (cur : Array Value) (hq : ∀ j, j < Ps.length → cur[j]? = some (.string (bs (Ps.getD j [])))) (hD : Distinct [(g, .cells cur 9), (pb, .cells cs T9 fr)]) (w0 : World) (H : Has w0 [(g, .cells cur 9), (pb, .cells cs T9 fr)]) :
    Calls Try.prog 12 #[.slice (some ⟨g, 0, none⟩) Ps.length gcap, .slice (some ⟨pb, off, none⟩) Ps.length cap] w0 fun e w' => e = .returned (.bool true) ∧ Below w0.heap.size w0 w' := by
  have MM := MemS.startN H hD
  refine enter_fr Try.func12 rfl Try.ntmps12 (by simp) fun ac (FF : Fr 26 ac [(0, .slice (some ⟨g, 0, none⟩) Ps.length gcap), (1, .slice (some ⟨pb, off, none⟩) Ps.length cap)]) => ?_
  refine wp_seq (rg_seq FF MM [o_] [0, 1, 4] (fun Kt => Kt [(4, .bool false), (0, .slice (some ⟨g, 0, none⟩) Ps.length gcap), (1, .slice (some ⟨pb, off, none⟩) Ps.length cap)] [(g, .cells cur 9), (pb, .cells cs T9 fr)]) (by kernel_rfl) (fun _ => by kernel_rfl) (fun ac1 wd1 FF1 MM1 => then_n ?_))
  refine wp_seq ?_
  refine wp_seq (rg_seq FF1 MM1 [o_, o_, o_, o_, w_ 3] [4, 0, 1, 10] (fun Kt => ¬ (Ps.length ≠ Ps.length) ∧ Kt [(10, .bool false), (4, .bool false), (0, .slice (some ⟨g, 0, none⟩) Ps.length gcap), (1, .slice (some ⟨pb, off, none⟩) Ps.length cap)] [(g, .cells cur 9), (pb, .cells cs T9 fr)]) (by kernel_rfl) (fun _ => by kernel_rfl) (⟨(by simp), fun ac2 wd2 FF2 MM2 => then_n ?_⟩))
  refine wp_cond_false (FF2.ev 0 rfl) ?_
  refine wp_skip ?_
  refine then_n ?_
  refine wp_seq ?_
  refine wp_seq (rg_seq FF2 MM2 [o_] [4, 0, 1, 5] (fun Kt => Kt [(5, .int .i64 (0 : Nat)), (4, .bool false), (0, .slice (some ⟨g, 0, none⟩) Ps.length gcap), (1, .slice (some ⟨pb, off, none⟩) Ps.length cap)] [(g, .cells cur 9), (pb, .cells cs T9 fr)]) (by kernel_rfl) (fun _ => by kernel_rfl) (fun ac3 wd3 FF3 MM3 => then_n ?_))
  refine wp_for2 (fun a' w' => ∃ i : Nat, i ≤ Ps.length ∧ Fr 26 a' [(5, .int .i64 (i : Nat)), (0, .slice (some ⟨g, 0, none⟩) Ps.length gcap), (1, .slice (some ⟨pb, off, none⟩) Ps.length cap)] ∧ MemS (fun k => k < w0.heap.size ∧ ∀ x ∈ [(g, Obj.cells cur 9), (pb, .cells cs T9 fr)], x.1 ≠ k) w0 w' [(g, .cells cur 9), (pb, .cells cs T9 fr)] []) (fun a' _ => (Ps.length - cnt 5 a').toNat) ⟨0, by omega, FF3.pick [0, 2, 3], MM3⟩ ?_
  rintro ac4 wd4 ⟨i, hi, FF4, MM4⟩
  have hc := cnt_of (FF4.get 0 rfl)
  refine rg_seq FF4 MM4 [o_, o_, o_, o_] [5, 0, 1, 14] (fun Kt => Kt [(14, .bool (decide (i < Ps.length))), (5, .int .i64 (i : Nat)), (0, .slice (some ⟨g, 0, none⟩) Ps.length gcap), (1, .slice (some ⟨pb, off, none⟩) Ps.length cap)] [(g, .cells cur 9), (pb, .cells cs T9 fr)]) (by kernel_rfl) (fun _ => by kernel_rfl) (fun ac5 wd5 FF5 MM5 => ?_)
  by_cases hlt : i < Ps.length
  · skip
    refine then_n (.inl ⟨(FF5.ev 0 rfl).trans (dec_t hlt), ?_⟩)
    refine wp_seq (rg_draw FF5 MM5 [.inl (.slice (some ⟨g, 0, none⟩) Ps.length gcap), .inl (.int .i64 (i : Nat)), .inl (.pointer (some ⟨g, i, none⟩)), .inl (.string (bs (Ps.getD i []))), .inl (.slice (some ⟨pb, off, none⟩) Ps.length cap), .inl (.int .i64 (i : Nat)), .inl (.pointer (some ⟨pb, off + i, none⟩)), .inl (.string (bs (Ps.getD i []))), .inl (.bool false)] [] [o_, o_, w_ 1, l_ 0 (.string (bs (Ps.getD i []))), o_, o_, o_, l_ 1 (.string (bs (Ps.getD i []))), w_ 3] [] [5, 0, 1, 25] (fun nb => [i < Ps.length, g = g, cur[i]? = some (.string (bs (Ps.getD i []))), i < Ps.length, pb = pb, cs[off + i]? = some (.string (bs (Ps.getD i []))), ¬ (bs (Ps.getD i []) ≠ bs (Ps.getD i []))]) (fun nb Kt => Kt [(25, .bool false), (5, .int .i64 (i : Nat)), (0, .slice (some ⟨g, 0, none⟩) Ps.length gcap), (1, .slice (some ⟨pb, off, none⟩) Ps.length cap)] [(g, .cells cur 9), (pb, .cells cs T9 fr)]) (by kernel_rfl) (by kernel_rfl) (by kernel_rfl) (fun _ => by kernel_rfl) (fun _ _ => by kernel_rfl) trivial (fun nb => ⟨(by omega), rfl, (hq i hlt), (by omega), rfl, (hp i hlt), (by simp), trivial⟩) (fun nb => fun ac6 wd6 FF6 MM6 => then_n ?_))
    refine wp_cond_false (FF6.ev 0 rfl) ?_
    refine wp_skip ?_
    refine inb_n (then_n ?_)
    refine rg_seq FF6 MM6 [o_, o_, o_] [5, 0, 1] (fun Kt => i + 1 < 9223372036854775808 ∧ Kt [(5, .int .i64 (i + 1 : Nat)), (0, .slice (some ⟨g, 0, none⟩) Ps.length gcap), (1, .slice (some ⟨pb, off, none⟩) Ps.length cap)] [(g, .cells cur 9), (pb, .cells cs T9 fr)]) (by kernel_rfl) (fun _ => by kernel_rfl) (⟨(by omega), fun ac7 wd7 FF7 MM7 => ?_⟩)
    have hd := cnt_of (FF7.get 0 rfl)
    refine then_n ⟨⟨i + 1, by omega, FF7.pick [0, 1, 2], MM7⟩, ?_⟩
    rw [hc, hd]; omega
  · skip
    refine then_n (.inr ⟨(FF5.ev 0 rfl).trans (dec_f hlt), ?_⟩)
    refine then_n ?_
    refine wp_seq (rg_seq FF5 MM5 [o_] [5, 0, 1, 4] (fun Kt => Kt [(4, .bool true), (5, .int .i64 (i : Nat)), (0, .slice (some ⟨g, 0, none⟩) Ps.length gcap), (1, .slice (some ⟨pb, off, none⟩) Ps.length cap)] [(g, .cells cur 9), (pb, .cells cs T9 fr)]) (by kernel_rfl) (fun _ => by kernel_rfl) (fun ac8 wd8 FF8 MM8 => then_n ?_))
    refine wp_ret ?_
    repeat first | refine then_ret ?_ | refine inb_ret ?_
    exact (ret_fr FF8 0 Try.results12 rfl ⟨rfl, MM8.belowN H (fun x hx => hx)⟩)
set_option maxRecDepth 100000 in
theorem texts_empty (g : Nat) (p : Option Addr) (cap : Nat) (w0 : World) :
    Calls Try.prog 12 #[.slice (some ⟨g, 0, none⟩) 0 0, .slice p 0 cap] w0 fun e w' => e = .returned (.bool true) ∧ Below w0.heap.size w0 w' := by
  refine enter_fr Try.func12 rfl Try.ntmps12 (by simp) fun ac (FF : Fr 26 ac [(0, .slice (some ⟨g, 0, none⟩) 0 0), (1, .slice p 0 cap)]) => ?_
  have MM := MemS.start w0
  refine wp_seq (rg_seq FF MM [o_] [0, 1, 4] (fun Kt => Kt [(4, .bool false), (0, .slice (some ⟨g, 0, none⟩) 0 0), (1, .slice p 0 cap)] []) (by kernel_rfl) (fun _ => by kernel_rfl) (fun ac1 wd1 FF1 MM1 => then_n ?_))
  refine wp_seq ?_
  refine wp_seq (rg_seq FF1 MM1 [o_, o_, o_, o_, w_ 3] [4, 0, 1, 10] (fun Kt => ¬ (0 ≠ 0) ∧ Kt [(10, .bool false), (4, .bool false), (0, .slice (some ⟨g, 0, none⟩) 0 0), (1, .slice p 0 cap)] []) (by kernel_rfl) (fun _ => by kernel_rfl) (⟨(by simp), fun ac2 wd2 FF2 MM2 => then_n ?_⟩))
  refine wp_cond_false (FF2.ev 0 rfl) ?_
  refine wp_skip ?_
  refine then_n ?_
  refine wp_seq ?_
  refine wp_seq (rg_seq FF2 MM2 [o_] [4, 0, 1, 5] (fun Kt => Kt [(5, .int .i64 (0 : Nat)), (4, .bool false), (0, .slice (some ⟨g, 0, none⟩) 0 0), (1, .slice p 0 cap)] []) (by kernel_rfl) (fun _ => by kernel_rfl) (fun ac3 wd3 FF3 MM3 => then_n ?_))
  refine wp_for2 (fun a' w' => Fr 26 a' [(5, .int .i64 (0 : Nat)), (0, .slice (some ⟨g, 0, none⟩) 0 0), (1, .slice p 0 cap)] ∧ MemS (fun k => k < w0.heap.size) w0 w' [] []) (fun a' _ => 0) ⟨FF3.pick [0, 2, 3], MM3⟩ ?_
  rintro ac4 wd4 ⟨FF4, MM4⟩
  refine rg_seq FF4 MM4 [o_, o_, o_, w_ 3] [5, 0, 1, 14] (fun Kt => ¬ (0 < 0) ∧ Kt [(14, .bool false), (5, .int .i64 (0 : Nat)), (0, .slice (some ⟨g, 0, none⟩) 0 0), (1, .slice p 0 cap)] []) (by kernel_rfl) (fun _ => by kernel_rfl) (⟨(by decide), fun ac5 wd5 FF5 MM5 => ?_⟩)
  refine then_n (.inr ⟨FF5.ev 0 rfl, ?_⟩)
  refine then_n ?_
  refine wp_seq (rg_seq FF5 MM5 [o_] [5, 0, 1, 4] (fun Kt => Kt [(4, .bool true), (5, .int .i64 (0 : Nat)), (0, .slice (some ⟨g, 0, none⟩) 0 0), (1, .slice p 0 cap)] []) (by kernel_rfl) (fun _ => by kernel_rfl) (fun ac6 wd6 FF6 MM6 => then_n ?_))
  refine wp_ret ?_
  repeat first | refine then_ret ?_ | refine inb_ret ?_
  exact (ret_fr FF6 0 Try.results12 rfl ⟨rfl, MM6.below⟩)
theorem parts_at (Ps : List (List Nat)) {w : World} {pb off T9 : Nat} {fr : Nat × Nat} {cs : Array Value} (hp : ∀ j, j < Ps.length → cs[off + j]? = some (.string (bs (Ps.getD j [])))) (hb : w.heap[pb]? = some (.cells cs T9 fr)) :
    ∀ (j : Nat) u, (strV Ps)[j]? = some u → w.cell? ((⟨pb, off, none⟩ : Addr).add j) = some u := fun j u hu => by
  rcases Nat.lt_or_ge j Ps.length with h | h
  · rw [add_off, cell_of hb, hp j h, ← hu, strV_get Ps j h]
  · rw [List.getElem?_eq_none (by simp [strV]; exact h)] at hu; cases hu
set_option maxRecDepth 100000 in
theorem tells_long (K : List Nat) (_hK : Bytes 32 K) (Ps : List (List Nat)) (hP : ∀ X ∈ Ps, ∀ i, X.getD i 0 < 256) (hn : Ps.length < 9223372036854775808) (pb off cap T9 : Nat) (fr : Nat × Nat) (cs : Array Value) (hp : ∀ j, j < Ps.length → cs[off + j]? = some (.string (bs (Ps.getD j [])))) (hL : Ps.flatten.length > 400) (w0 : World) (hb : w0.heap[pb]? = some (.cells cs T9 fr)) :
    Calls Try.prog 3 #[.agg (cn .u8 K), .slice (some ⟨pb, off, none⟩) Ps.length cap] w0 fun e w' => e = .returned (.bool true) ∧ Below w0.heap.size w0 w' := by
  have MM := MemS.start1 hb
  refine enter_fr Try.func3 rfl Try.ntmps3 (by simp) fun ac (FF : Fr 41 ac [(0, .agg (cn .u8 K)), (1, .slice (some ⟨pb, off, none⟩) Ps.length cap)]) => ?_
  refine wp_seq (rg_seq FF MM [o_, o_] [1, 2, 4] (fun Kt => ∀ b1, Kt [(4, .bool false), (2, .pointer (some ⟨b1, 0, none⟩)), (1, .slice (some ⟨pb, off, none⟩) Ps.length cap)] [(b1, .cells (cn .u8 K) 23), (pb, .cells cs T9 fr)]) (by kernel_rfl) (fun _ => by kernel_rfl) (fun b1 => fun ac1 wd1 FF1 MM1 => then_n ?_))
  refine wp_seq ?_
  refine wp_seq (rg_seq FF1 MM1 [o_, u_ 1 (.bool true)] [4, 2, 1, 9] (fun Kt => CallP Try.prog 8 [.slice (some ⟨pb, off, none⟩) Ps.length cap, .int .i64 (400 : Nat)] [(b1, .cells (cn .u8 K) 23), (pb, .cells cs T9 fr)] (.bool true) ∧ Kt [(9, .bool true), (4, .bool false), (2, .pointer (some ⟨b1, 0, none⟩)), (1, .slice (some ⟨pb, off, none⟩) Ps.length cap)] [(b1, .cells (cn .u8 K) 23), (pb, .cells cs T9 fr)]) (by kernel_rfl) (fun _ => by kernel_rfl) (⟨⟨ent8, fun w H => by have h0 := long_any Ps hP hn pb off cap T9 fr cs hp w (H 1 _ rfl); rw [decide_eq_true hL] at h0; exact h0⟩, fun ac2 wd2 FF2 MM2 => then_n ?_⟩))
  refine wp_cond_true (FF2.ev 0 rfl) ?_
  refine wp_seq (rg_seq FF2 MM2 [t_ (.bool true), o_] [4, 2, 1] (fun Kt => CallP Try.prog 9 [] [] (.bool true) ∧ Kt [(4, .bool true), (2, .pointer (some ⟨b1, 0, none⟩)), (1, .slice (some ⟨pb, off, none⟩) Ps.length cap)] [(b1, .cells (cn .u8 K) 23), (pb, .cells cs T9 fr)]) (by kernel_rfl) (fun _ => by kernel_rfl) (⟨(callP_of ent9 wakes_any _), fun ac3 wd3 FF3 MM3 => then_n ?_⟩))
  refine wp_ret ?_
  repeat first | refine then_ret ?_ | refine inb_ret ?_
  exact (ret_fr FF3 0 Try.results3 rfl ⟨rfl, MM3.below1 1 rfl hb⟩)
set_option maxRecDepth 100000 in
theorem tells_short (K : List Nat) (hK : Bytes 32 K) (Ps : List (List Nat)) (hP : ∀ X ∈ Ps, ∀ i, X.getD i 0 < 256) (hn : Ps.length < 9223372036854775808) (pb off cap T9 : Nat) (fr : Nat × Nat) (cs : Array Value) (hp : ∀ j, j < Ps.length → cs[off + j]? = some (.string (bs (Ps.getD j [])))) (hne : 0 < Ps.length) (hby : Ps.length * 16 ≤ 140737488355328) (hL : ¬ Ps.flatten.length > 400) (w0 : World) (hb : w0.heap[pb]? = some (.cells cs T9 fr)) :
    Calls Try.prog 3 #[.agg (cn .u8 K), .slice (some ⟨pb, off, none⟩) Ps.length cap] w0 fun e w' => e = .returned (.bool true) ∧ Below w0.heap.size w0 w' := by
  have MM := MemS.start1 hb
  refine enter_fr Try.func3 rfl Try.ntmps3 (by simp) fun ac (FF : Fr 41 ac [(0, .agg (cn .u8 K)), (1, .slice (some ⟨pb, off, none⟩) Ps.length cap)]) => ?_
  refine wp_seq (rg_seq FF MM [o_, o_] [1, 2, 4] (fun Kt => ∀ b1, Kt [(4, .bool false), (2, .pointer (some ⟨b1, 0, none⟩)), (1, .slice (some ⟨pb, off, none⟩) Ps.length cap)] [(b1, .cells (cn .u8 K) 23), (pb, .cells cs T9 fr)]) (by kernel_rfl) (fun _ => by kernel_rfl) (fun b1 => fun ac1 wd1 FF1 MM1 => then_n ?_))
  refine wp_seq ?_
  refine wp_seq (rg_seq FF1 MM1 [o_, u_ 1 (.bool false)] [4, 2, 1, 9] (fun Kt => CallP Try.prog 8 [.slice (some ⟨pb, off, none⟩) Ps.length cap, .int .i64 (400 : Nat)] [(b1, .cells (cn .u8 K) 23), (pb, .cells cs T9 fr)] (.bool false) ∧ Kt [(9, .bool false), (4, .bool false), (2, .pointer (some ⟨b1, 0, none⟩)), (1, .slice (some ⟨pb, off, none⟩) Ps.length cap)] [(b1, .cells (cn .u8 K) 23), (pb, .cells cs T9 fr)]) (by kernel_rfl) (fun _ => by kernel_rfl) (⟨⟨ent8, fun w H => by have h0 := long_any Ps hP hn pb off cap T9 fr cs hp w (H 1 _ rfl); rw [decide_eq_false hL] at h0; exact h0⟩, fun ac2 wd2 FF2 MM2 => then_n ?_⟩))
  refine wp_cond_false (FF2.ev 0 rfl) ?_
  refine wp_skip ?_
  refine then_n ?_
  refine wp_seq (rg_seq FF2 MM2 [o_] [4, 2, 1, 5] (fun Kt => Kt [(5, .string (bs [])), (4, .bool false), (2, .pointer (some ⟨b1, 0, none⟩)), (1, .slice (some ⟨pb, off, none⟩) Ps.length cap)] [(b1, .cells (cn .u8 K) 23), (pb, .cells cs T9 fr)]) (by kernel_rfl) (fun _ => by kernel_rfl) (fun ac3 wd3 FF3 MM3 => then_n ?_))
  refine wp_seq ?_
  refine wp_seq (rg_seq FF3 MM3 [o_] [5, 4, 2, 1, 6] (fun Kt => Kt [(6, .int .i64 (0 : Nat)), (5, .string (bs [])), (4, .bool false), (2, .pointer (some ⟨b1, 0, none⟩)), (1, .slice (some ⟨pb, off, none⟩) Ps.length cap)] [(b1, .cells (cn .u8 K) 23), (pb, .cells cs T9 fr)]) (by kernel_rfl) (fun _ => by kernel_rfl) (fun ac4 wd4 FF4 MM4 => then_n ?_))
  refine wp_for2 (fun a' w' => ∃ i : Nat, i ≤ Ps.length ∧ Fr 41 a' [(6, .int .i64 (i : Nat)), (5, .string (bs ((Ps.take i).flatten))), (4, .bool false), (2, .pointer (some ⟨b1, 0, none⟩)), (1, .slice (some ⟨pb, off, none⟩) Ps.length cap)] ∧ MemS (fun k => k < w0.heap.size ∧ k ≠ pb) w0 w' [(b1, .cells (cn .u8 K) 23), (pb, .cells cs T9 fr)] []) (fun a' _ => (Ps.length - cnt 6 a').toNat) ⟨0, by omega, FF4.pick [0, 1, 2, 3, 4], MM4⟩ ?_
  rintro ac5 wd5 ⟨i, hi, FF5, MM5⟩
  have hc := cnt_of (FF5.get 0 rfl)
  refine rg_seq FF5 MM5 [o_, o_, o_, o_] [6, 5, 4, 2, 1, 14] (fun Kt => Kt [(14, .bool (decide (i < Ps.length))), (6, .int .i64 (i : Nat)), (5, .string (bs ((Ps.take i).flatten))), (4, .bool false), (2, .pointer (some ⟨b1, 0, none⟩)), (1, .slice (some ⟨pb, off, none⟩) Ps.length cap)] [(b1, .cells (cn .u8 K) 23), (pb, .cells cs T9 fr)]) (by kernel_rfl) (fun _ => by kernel_rfl) (fun ac6 wd6 FF6 MM6 => ?_)
  by_cases hlt : i < Ps.length
  · skip
    refine then_n (.inl ⟨(FF6.ev 0 rfl).trans (dec_t hlt), ?_⟩)
    have hft := congrArg List.length (flat_take Ps i hlt)
    rw [List.length_append] at hft
    have hfl := flat_le Ps (i + 1)
    refine rg_seq FF6 MM6 [o_, o_, o_, o_, l_ 1 (.string (bs (Ps.getD i []))), t_ (.string (bs ((Ps.take (i + 1)).flatten))), o_] [6, 5, 4, 2, 1] (fun Kt => i < Ps.length ∧ pb = pb ∧ cs[off + i]? = some (.string (bs (Ps.getD i []))) ∧ (bs ((Ps.take i).flatten)).size + (bs (Ps.getD i [])).size ≤ 9223372036854775807 ∧ Value.string (bs ((Ps.take i).flatten) ++ bs (Ps.getD i [])) = .string (bs ((Ps.take (i + 1)).flatten)) ∧ Kt [(5, .string (bs ((Ps.take (i + 1)).flatten))), (6, .int .i64 (i : Nat)), (4, .bool false), (2, .pointer (some ⟨b1, 0, none⟩)), (1, .slice (some ⟨pb, off, none⟩) Ps.length cap)] [(b1, .cells (cn .u8 K) 23), (pb, .cells cs T9 fr)]) (by kernel_rfl) (fun _ => by kernel_rfl) (⟨(by omega), rfl, (hp i hlt), (by simp only [bs_size]; omega), (vS2 ((bs_app _ _).trans (congrArg bs (flat_take Ps i hlt).symm))), fun ac7 wd7 FF7 MM7 => ?_⟩)
    refine inb_n (then_n ?_)
    refine rg_seq FF7 MM7 [o_, o_, o_] [5, 6, 4, 2, 1] (fun Kt => i + 1 < 9223372036854775808 ∧ Kt [(6, .int .i64 (i + 1 : Nat)), (5, .string (bs ((Ps.take (i + 1)).flatten))), (4, .bool false), (2, .pointer (some ⟨b1, 0, none⟩)), (1, .slice (some ⟨pb, off, none⟩) Ps.length cap)] [(b1, .cells (cn .u8 K) 23), (pb, .cells cs T9 fr)]) (by kernel_rfl) (fun _ => by kernel_rfl) (⟨(by omega), fun ac8 wd8 FF8 MM8 => ?_⟩)
    have hd := cnt_of (FF8.get 0 rfl)
    refine then_n ⟨⟨i + 1, by omega, FF8.pick [0, 1, 2, 3, 4], MM8⟩, ?_⟩
    rw [hc, hd]; omega
  · skip
    refine then_n (.inr ⟨(FF6.ev 0 rfl).trans (dec_f hlt), ?_⟩)
    obtain rfl : i = Ps.length := by omega
    rw [List.take_length] at FF6
    refine then_n ?_
    refine wp_seq (wp_region_list ?_)
    refine rg_part 2 FF6 MM6 [o_, o_] [6, 5, 4, 2, 1, 23, 24] (fun Kt => ∀ bq, Kt [(24, .slice (some ⟨pb, off, none⟩) Ps.length cap), (23, .slice (some ⟨bq, 0, none⟩) 0 0), (6, .int .i64 (Ps.length : Nat)), (5, .string (bs Ps.flatten)), (4, .bool false), (2, .pointer (some ⟨b1, 0, none⟩)), (1, .slice (some ⟨pb, off, none⟩) Ps.length cap)] [(bq, .cells (#[] : Array Value) 9), (b1, .cells (cn .u8 K) 23), (pb, .cells cs T9 fr)]) (by kernel_rfl) (fun _ => by kernel_rfl) (fun bq => fun ac9 wd9 FF9 MM9 => ?_)
    have hbq : w0.heap.size ≤ bq := Nat.le_of_not_lt fun h => MM9.base 0 _ rfl ⟨h, MM9.apart 0 2 _ _ rfl rfl (by decide)⟩
    have MMq := MM9.rowOf (m := 0) (k := 1) hbq (by decide) rfl
    refine st_app [6, 5, 4, 2, 1, 25] FF9 MMq (d := 25) (s := 23) (x := 24) (Y := (strV Ps)) (z := .string (bs [])) (bb := 16) rfl rfl rfl (strV_len Ps) (parts_at Ps hp (MMq.get 1 rfl)) (strV_one Ps) hne Try.underlying24 (by kernel_rfl) rfl (by decide) (by simp only [maxLen]; omega) (by omega) rfl rfl (by decide) fun ac11 wd11 rv10 (FF11 : Fr 41 ac11 [(25, rv10), (6, .int .i64 (Ps.length : Nat)), (5, .string (bs Ps.flatten)), (4, .bool false), (2, .pointer (some ⟨b1, 0, none⟩)), (1, .slice (some ⟨pb, off, none⟩) Ps.length cap)]) (MM11 : MemS (fun k => k < w0.heap.size ∧ k ≠ pb) w0 wd11 [(b1, .cells (cn .u8 K) 23), (pb, .cells cs T9 fr)] [(rv10, 9, 1, (0 + Ps.length), ([] ++ (strV Ps)))]) => ?_
    rcases MM11.rowForm with ⟨_, hz⟩ | ⟨g, gcap, rfl⟩
    · exact absurd hz (by omega)
    obtain ⟨cur, MMf, hg1, hg2, hg3, hg4, hg5, hg6⟩ := MM11.freeze
    rw [Nat.zero_add] at hg5
    rw [Nat.zero_add] at FF11
    have hq := own_cells hg5
    refine rg_part 1 FF11 MMf [o_] [6, 5, 4, 2, 1, 7] (fun Kt => Kt [(7, .slice (some ⟨g, 0, none⟩) Ps.length gcap), (6, .int .i64 (Ps.length : Nat)), (5, .string (bs Ps.flatten)), (4, .bool false), (2, .pointer (some ⟨b1, 0, none⟩)), (1, .slice (some ⟨pb, off, none⟩) Ps.length cap)] [(g, .cells cur 9), (b1, .cells (cn .u8 K) 23), (pb, .cells cs T9 fr)]) (by kernel_rfl) (fun _ => by kernel_rfl) (fun ac12 wd12 FF12 MM12 => ?_)
    refine wpl_nil (then_n ?_)
    have hT : ∀ i, Ps.flatten.getD i 0 < 256 := flat_lt hP
    have hDg : Distinct [(g, .cells cur 9), (pb, .cells cs T9 fr)] := ⟨fun y hy => (by obtain rfl := List.mem_singleton.1 hy; exact MM12.apart 2 0 _ _ rfl rfl (by decide)), fun y hy => (nomatch hy), trivial⟩
    refine wp_seq (rg_draw FF12 MM12 [.inl (.agg (cn .u8 K)), .inl (.slice (some ⟨g, 0, none⟩) Ps.length gcap), .inl (.agg (cn .u8 (polyN K Ps.flatten))), .inl (.agg (cn .u8 K)), .inl (.string (bs Ps.flatten)), .inl (.agg (cn .u8 (polyN K Ps.flatten))), .inl (.bool true), .inl (.bool true), .inl (.slice (some ⟨g, 0, none⟩) Ps.length gcap), .inl (.slice (some ⟨pb, off, none⟩) Ps.length cap), .inl (.bool true), .inl (.bool true), .inl (.bool true), .inl (.bool true), .inl (.bool true), .inl (.bool true)] [] [b_ 1, o_, u_ 1 (.agg (cn .u8 (polyN K Ps.flatten))), b_ 1, o_, t_ (.agg (cn .u8 (polyN K Ps.flatten))), f_ (.bool true), o_, o_, o_, u_ 1 (.bool true), o_, o_, t_ (.bool true), o_, o_] [] [6, 5, 4, 1] (fun nb => [b1 = b1, (cn .u8 K).size = 32, CallP Try.prog 10 [.agg (cn .u8 K), .slice (some ⟨g, 0, none⟩) Ps.length gcap] [(g, .cells cur 9), (b1, .cells (cn .u8 K) 23), (pb, .cells cs T9 fr)] (.agg (cn .u8 (polyN K Ps.flatten))), b1 = b1, (cn .u8 K).size = 32, CallP Try.prog 11 [.agg (cn .u8 K), .string (bs Ps.flatten)] [] (.agg (cn .u8 (polyN K Ps.flatten))), RunV Try.prog [(28, .agg (cn .u8 (polyN K Ps.flatten))), (31, .agg (cn .u8 (polyN K Ps.flatten))), (7, .slice (some ⟨g, 0, none⟩) Ps.length gcap), (6, .int .i64 (Ps.length : Nat)), (5, .string (bs Ps.flatten)), (2, .pointer (some ⟨b1, 0, none⟩)), (1, .slice (some ⟨pb, off, none⟩) Ps.length cap)] [(g, .cells cur 9), (b1, .cells (cn .u8 K) 23), (pb, .cells cs T9 fr)] (opAt Try.f3 9 6) (.bool true), CallP Try.prog 12 [.slice (some ⟨g, 0, none⟩) Ps.length gcap, .slice (some ⟨pb, off, none⟩) Ps.length cap] [(g, .cells cur 9), (b1, .cells (cn .u8 K) 23), (pb, .cells cs T9 fr)] (.bool true), CallP Try.prog 9 [] [] (.bool true)]) (fun nb Kt => Kt [(4, .bool true), (6, .int .i64 (Ps.length : Nat)), (5, .string (bs Ps.flatten)), (1, .slice (some ⟨pb, off, none⟩) Ps.length cap)] [(g, .cells cur 9), (b1, .cells (cn .u8 K) 23), (pb, .cells cs T9 fr)]) (by kernel_rfl) (by kernel_rfl) (by kernel_rfl) (fun _ => by kernel_rfl) (fun _ _ => by kernel_rfl) trivial (fun nb => ⟨rfl, ((cn_size _ _).trans hK.len), ⟨ent10, fun w H => sum_any K hK Ps hP hn g gcap 9 (0, 0) cur hq w (H 0 _ rfl)⟩, rfl, ((cn_size _ _).trans hK.len), (callP_of ent11 (rPoly_any K Ps.flatten hK hT (by omega)) _), (eqA_ok (t := 28) (t' := 28) (e := 5) (m := 16) (k := .u8) (x := (.tmp 28)) (y := (.tmp 31)) (by kernel_rfl) Try.underlying28 Try.underlying5 (by kernel_rfl) (by kernel_rfl) (by kernel_rfl) rfl rfl (tagTo_len _ _) (tagTo_len _ _) (decide_eq_true rfl)), ⟨ent12, fun w H => texts_any Ps hP hn pb off cap T9 fr cs hp g gcap cur hq hDg w (fun i x hx => by match i, hx with | 0, hx => exact (by cases hx; exact H 0 _ rfl) | 1, hx => exact (by cases hx; exact H 2 _ rfl) | i + 2, hx => exact (by simp at hx))⟩, (callP_of ent9 wakes_any _), trivial⟩) (fun nb => fun ac13 wd13 FF13 MM13 => then_n ?_))
    refine wp_ret ?_
    repeat first | refine then_ret ?_ | refine inb_ret ?_
    exact (ret_fr FF13 0 Try.results3 rfl ⟨rfl, MM13.below1 2 rfl hb⟩)
set_option maxRecDepth 100000 in
theorem tells_empty (K : List Nat) (hK : Bytes 32 K) (p : Option Addr) (cap : Nat) (w0 : World) :
    Calls Try.prog 3 #[.agg (cn .u8 K), .slice p 0 cap] w0 fun e w' => e = .returned (.bool true) ∧ Below w0.heap.size w0 w' := by
  refine enter_fr Try.func3 rfl Try.ntmps3 (by simp) fun ac (FF : Fr 41 ac [(0, .agg (cn .u8 K)), (1, .slice p 0 cap)]) => ?_
  have MM := MemS.start w0
  refine wp_seq (rg_seq FF MM [o_, o_] [1, 2, 4] (fun Kt => ∀ b1, Kt [(4, .bool false), (2, .pointer (some ⟨b1, 0, none⟩)), (1, .slice p 0 cap)] [(b1, .cells (cn .u8 K) 23)]) (by kernel_rfl) (fun _ => by kernel_rfl) (fun b1 => fun ac1 wd1 FF1 MM1 => then_n ?_))
  refine wp_seq ?_
  refine wp_seq (rg_seq FF1 MM1 [o_, t_ (.bool false)] [4, 2, 1, 9] (fun Kt => CallP Try.prog 8 [.slice p 0 cap, .int .i64 (400 : Nat)] [] (.bool false) ∧ Kt [(9, .bool false), (4, .bool false), (2, .pointer (some ⟨b1, 0, none⟩)), (1, .slice p 0 cap)] [(b1, .cells (cn .u8 K) 23)]) (by kernel_rfl) (fun _ => by kernel_rfl) (⟨(callP_of ent8 (long_empty p cap) _), fun ac2 wd2 FF2 MM2 => then_n ?_⟩))
  refine wp_cond_false (FF2.ev 0 rfl) ?_
  refine wp_skip ?_
  refine then_n ?_
  refine wp_seq (rg_seq FF2 MM2 [o_] [4, 2, 1, 5] (fun Kt => Kt [(5, .string (bs [])), (4, .bool false), (2, .pointer (some ⟨b1, 0, none⟩)), (1, .slice p 0 cap)] [(b1, .cells (cn .u8 K) 23)]) (by kernel_rfl) (fun _ => by kernel_rfl) (fun ac3 wd3 FF3 MM3 => then_n ?_))
  refine wp_seq ?_
  refine wp_seq (rg_seq FF3 MM3 [o_] [5, 4, 2, 1, 6] (fun Kt => Kt [(6, .int .i64 (0 : Nat)), (5, .string (bs [])), (4, .bool false), (2, .pointer (some ⟨b1, 0, none⟩)), (1, .slice p 0 cap)] [(b1, .cells (cn .u8 K) 23)]) (by kernel_rfl) (fun _ => by kernel_rfl) (fun ac4 wd4 FF4 MM4 => then_n ?_))
  refine wp_for2 (fun a' w' => Fr 41 a' [(6, .int .i64 (0 : Nat)), (5, .string (bs [])), (4, .bool false), (2, .pointer (some ⟨b1, 0, none⟩)), (1, .slice p 0 cap)] ∧ MemS (fun k => k < w0.heap.size) w0 w' [(b1, .cells (cn .u8 K) 23)] []) (fun a' _ => 0) ⟨FF4.pick [0, 1, 2, 3, 4], MM4⟩ ?_
  rintro ac5 wd5 ⟨FF5, MM5⟩
  refine rg_seq FF5 MM5 [o_, o_, o_, w_ 3] [6, 5, 4, 2, 1, 14] (fun Kt => ¬ (0 < 0) ∧ Kt [(14, .bool false), (6, .int .i64 (0 : Nat)), (5, .string (bs [])), (4, .bool false), (2, .pointer (some ⟨b1, 0, none⟩)), (1, .slice p 0 cap)] [(b1, .cells (cn .u8 K) 23)]) (by kernel_rfl) (fun _ => by kernel_rfl) (⟨(by decide), fun ac6 wd6 FF6 MM6 => ?_⟩)
  refine then_n (.inr ⟨FF6.ev 0 rfl, ?_⟩)
  refine then_n ?_
  refine wp_seq (wp_region_list ?_)
  refine rg_part 1 FF6 MM6 [o_] [6, 5, 4, 2, 1, 23] (fun Kt => ∀ bq, Kt [(23, .slice (some ⟨bq, 0, none⟩) 0 0), (6, .int .i64 (0 : Nat)), (5, .string (bs [])), (4, .bool false), (2, .pointer (some ⟨b1, 0, none⟩)), (1, .slice p 0 cap)] [(bq, .cells (#[] : Array Value) 9), (b1, .cells (cn .u8 K) 23)]) (by kernel_rfl) (fun _ => by kernel_rfl) (fun bq => fun ac7 wd7 FF7 MM7 => ?_)
  refine rg_part 3 FF7 MM7 [o_, f_ (.slice (some ⟨bq, 0, none⟩) 0 0), o_] [6, 5, 4, 2, 1, 7] (fun Kt => RunV Try.prog [(24, .slice p 0 cap), (23, .slice (some ⟨bq, 0, none⟩) 0 0), (6, .int .i64 (0 : Nat)), (5, .string (bs [])), (4, .bool false), (2, .pointer (some ⟨b1, 0, none⟩)), (1, .slice p 0 cap)] [(bq, .cells (#[] : Array Value) 9), (b1, .cells (cn .u8 K) 23)] (opAt Try.f3 8 2) (.slice (some ⟨bq, 0, none⟩) 0 0) ∧ Kt [(7, .slice (some ⟨bq, 0, none⟩) 0 0), (6, .int .i64 (0 : Nat)), (5, .string (bs [])), (4, .bool false), (2, .pointer (some ⟨b1, 0, none⟩)), (1, .slice p 0 cap)] [(bq, .cells (#[] : Array Value) 9), (b1, .cells (cn .u8 K) 23)]) (by kernel_rfl) (fun _ => by kernel_rfl) (⟨(app0_ok (s := .tmp 23) (x := .tmp 24) (t := 24) (e := 9) (by kernel_rfl) rfl rfl Try.underlying24 (by kernel_rfl) (Nat.le_refl _)), fun ac8 wd8 FF8 MM8 => ?_⟩)
  refine wpl_nil (then_n ?_)
  refine wp_seq (rg_draw FF8 MM8 [.inl (.agg (cn .u8 K)), .inl (.slice (some ⟨bq, 0, none⟩) 0 0), .inl (.agg (cn .u8 (polyN K []))), .inl (.agg (cn .u8 K)), .inl (.string (bs [])), .inl (.agg (cn .u8 (polyN K []))), .inl (.bool true), .inl (.bool true), .inl (.slice (some ⟨bq, 0, none⟩) 0 0), .inl (.slice p 0 cap), .inl (.bool true), .inl (.bool true), .inl (.bool true), .inl (.bool true), .inl (.bool true), .inl (.bool true)] [] [b_ 1, o_, u_ 1 (.agg (cn .u8 (polyN K []))), b_ 1, o_, t_ (.agg (cn .u8 (polyN K []))), f_ (.bool true), o_, o_, o_, t_ (.bool true), o_, o_, t_ (.bool true), o_, o_] [] [6, 5, 4, 1] (fun nb => [b1 = b1, (cn .u8 K).size = 32, CallP Try.prog 10 [.agg (cn .u8 K), .slice (some ⟨bq, 0, none⟩) 0 0] [(bq, .cells (#[] : Array Value) 9), (b1, .cells (cn .u8 K) 23)] (.agg (cn .u8 (polyN K []))), b1 = b1, (cn .u8 K).size = 32, CallP Try.prog 11 [.agg (cn .u8 K), .string (bs [])] [] (.agg (cn .u8 (polyN K []))), RunV Try.prog [(28, .agg (cn .u8 (polyN K []))), (31, .agg (cn .u8 (polyN K []))), (7, .slice (some ⟨bq, 0, none⟩) 0 0), (6, .int .i64 (0 : Nat)), (5, .string (bs [])), (2, .pointer (some ⟨b1, 0, none⟩)), (1, .slice p 0 cap)] [(bq, .cells (#[] : Array Value) 9), (b1, .cells (cn .u8 K) 23)] (opAt Try.f3 9 6) (.bool true), CallP Try.prog 12 [.slice (some ⟨bq, 0, none⟩) 0 0, .slice p 0 cap] [] (.bool true), CallP Try.prog 9 [] [] (.bool true)]) (fun nb Kt => Kt [(4, .bool true), (6, .int .i64 (0 : Nat)), (5, .string (bs [])), (1, .slice p 0 cap)] [(bq, .cells (#[] : Array Value) 9), (b1, .cells (cn .u8 K) 23)]) (by kernel_rfl) (by kernel_rfl) (by kernel_rfl) (fun _ => by kernel_rfl) (fun _ _ => by kernel_rfl) trivial (fun nb => ⟨rfl, ((cn_size _ _).trans hK.len), ⟨ent10, fun w H => sum_any K hK [] (fun X h => (nomatch h)) (by decide) bq 0 9 (0, 0) #[] (fun j h => (by simp at h)) w (H 0 _ rfl)⟩, rfl, ((cn_size _ _).trans hK.len), (callP_of ent11 (rPoly_any K [] hK (fun i => by simp) (by decide)) _), (eqA_ok (t := 28) (t' := 28) (e := 5) (m := 16) (k := .u8) (x := (.tmp 28)) (y := (.tmp 31)) (by kernel_rfl) Try.underlying28 Try.underlying5 (by kernel_rfl) (by kernel_rfl) (by kernel_rfl) rfl rfl (tagTo_len _ _) (tagTo_len _ _) (decide_eq_true rfl)), (callP_of ent12 (texts_empty bq p cap) _), (callP_of ent9 wakes_any _), trivial⟩) (fun nb => fun ac9 wd9 FF9 MM9 => then_n ?_))
  refine wp_ret ?_
  repeat first | refine then_ret ?_ | refine inb_ret ?_
  exact (ret_fr FF9 0 Try.results3 rfl ⟨rfl, MM9.below⟩)

end Go.Proofs.Ytjfmeogknhkeoaa
