/- Long, of any row and limit. -/
import Derived.Test.YtcmoohkkaibgkaaA1
import Derived.Test.YtcmoohkkaibgkaaEvI
namespace Go.Proofs.Ytcmoohkkaibgkaa
open Go.RowKit

theorem flat_le5 (Ps : List (List Nat)) (i : Nat) : (Ps.take i).flatten.length ≤ Ps.flatten.length := by
  conv => rhs; rw [← List.take_append_drop i Ps, List.flatten_append, List.length_append]
  omega
set_option maxRecDepth 100000 in
theorem longm (Ps : List (List Nat)) (m : Nat) (hm : m < 9223372036854775808) (hn : Ps.length < 9223372036854775808) (pb off cap T9 : Nat) (fr : Nat × Nat) (cs : Array Value) (hp : ∀ j, j < Ps.length → cs[off + j]? = some (.string (bs (Ps.getD j [])))) (w0 : World) (hb : w0.heap[pb]? = some (.cells cs T9 fr)) :
    Calls Try.prog 7 #[.slice (some ⟨pb, off, none⟩) Ps.length cap, .int .i64 (m : Nat)] w0 fun e w' => e = .returned (.bool (decide (Ps.flatten.length > m))) ∧ Below w0.heap.size w0 w' := by
  have MM := MemS.start1 hb
  refine enter_fr Try.func7 rfl Try.ntmps7 (by simp) fun ac (FF : Fr 26 ac [(0, .slice (some ⟨pb, off, none⟩) Ps.length cap), (1, .int .i64 (m : Nat))]) => ?_
  refine wp_seq (rg_seq FF MM [o_] [0, 1, 4] (fun Kt => Kt [(4, .bool false), (0, .slice (some ⟨pb, off, none⟩) Ps.length cap), (1, .int .i64 (m : Nat))] [(pb, .cells cs T9 fr)]) (by kernel_rfl) (fun _ => by kernel_rfl) (fun ac1 wd1 FF1 MM1 => then_n ?_))
  refine wp_seq ?_
  refine wp_seq (rg_seq FF1 MM1 [o_] [4, 0, 1, 5] (fun Kt => Kt [(5, .int .i64 (0 : Nat)), (4, .bool false), (0, .slice (some ⟨pb, off, none⟩) Ps.length cap), (1, .int .i64 (m : Nat))] [(pb, .cells cs T9 fr)]) (by kernel_rfl) (fun _ => by kernel_rfl) (fun ac2 wd2 FF2 MM2 => then_n ?_))
  refine wp_for2 (fun a' w' => ∃ i : Nat, i ≤ Ps.length ∧ (Ps.take i).flatten.length ≤ m ∧ Fr 26 a' [(5, .int .i64 (i : Nat)), (0, .slice (some ⟨pb, off, none⟩) Ps.length cap), (1, .int .i64 (m - (Ps.take i).flatten.length : Nat))] ∧ MemS (fun k => k < w0.heap.size ∧ k ≠ pb) w0 w' [(pb, .cells cs T9 fr)] []) (fun a' _ => (Ps.length - cnt 5 a').toNat) ⟨0, by omega, by simp, FF2.pick [0, 2, 3], MM2⟩ ?_
  rintro ac3 wd3 ⟨i, hi, hs, FF3, MM3⟩
  have hc := cnt_of (FF3.get 0 rfl)
  refine rg_seq FF3 MM3 [o_, o_, o_, o_] [5, 0, 1, 9] (fun Kt => Kt [(9, .bool (decide (i < Ps.length))), (5, .int .i64 (i : Nat)), (0, .slice (some ⟨pb, off, none⟩) Ps.length cap), (1, .int .i64 (m - (Ps.take i).flatten.length : Nat))] [(pb, .cells cs T9 fr)]) (by kernel_rfl) (fun _ => by kernel_rfl) (fun ac4 wd4 FF4 MM4 => ?_)
  by_cases hlt : i < Ps.length
  · skip
    refine then_n (.inl ⟨(FF4.ev 0 rfl).trans (dec_t hlt), ?_⟩)
    refine wp_seq ?_
    have hft := congrArg List.length (flat_take Ps i hlt)
    rw [List.length_append] at hft
    have hfl := flat_le5 Ps (i + 1)
    refine wp_seq (rg_seq FF4 MM4 [o_, o_, o_, l_ 0 (.string (bs (Ps.getD i []))), t_ (.int .i64 ((Ps.getD i []).length : Nat)), o_, o_] [5, 0, 1, 18] (fun Kt => i < Ps.length ∧ pb = pb ∧ cs[off + i]? = some (.string (bs (Ps.getD i []))) ∧ Value.int .i64 ((bs (Ps.getD i [])).size : Nat) = .int .i64 ((Ps.getD i []).length : Nat) ∧ Kt [(18, .bool (decide (((Ps.getD i []).length) > (m - (Ps.take i).flatten.length)))), (5, .int .i64 (i : Nat)), (0, .slice (some ⟨pb, off, none⟩) Ps.length cap), (1, .int .i64 (m - (Ps.take i).flatten.length : Nat))] [(pb, .cells cs T9 fr)]) (by kernel_rfl) (fun _ => by kernel_rfl) (⟨(by omega), rfl, (hp i hlt), (vI (bs_size _)), fun ac5 wd5 FF5 MM5 => then_n ?_⟩))
    by_cases hs18 : ((Ps.getD i []).length) > (m - (Ps.take i).flatten.length)
    · refine wp_cond_true ((FF5.ev 0 rfl).trans (dec_t hs18)) ?_
      refine wp_seq (rg_seq FF5 MM5 [o_] [5, 0, 1, 4] (fun Kt => Kt [(4, .bool true), (5, .int .i64 (i : Nat)), (0, .slice (some ⟨pb, off, none⟩) Ps.length cap), (1, .int .i64 (m - (Ps.take i).flatten.length : Nat))] [(pb, .cells cs T9 fr)]) (by kernel_rfl) (fun _ => by kernel_rfl) (fun ac6 wd6 FF6 MM6 => then_n ?_))
      refine wp_ret ?_
      repeat first | refine then_ret ?_ | refine inb_ret ?_
      exact (ret_fr FF6 0 Try.results7 rfl ⟨by rw [decide_eq_true (by omega)], MM6.below1 0 rfl hb⟩)
    · refine wp_cond_false ((FF5.ev 0 rfl).trans (dec_f hs18)) ?_
      refine wp_skip ?_
      refine then_n ?_
      refine rg_seq FF5 MM5 [o_, o_, o_, o_, l_ 0 (.string (bs (Ps.getD i []))), t_ (.int .i64 ((Ps.getD i []).length : Nat)), t_ (.int .i64 (m - (Ps.take (i + 1)).flatten.length : Nat)), o_] [5, 0, 1] (fun Kt => i < Ps.length ∧ pb = pb ∧ cs[off + i]? = some (.string (bs (Ps.getD i []))) ∧ Value.int .i64 ((bs (Ps.getD i [])).size : Nat) = .int .i64 ((Ps.getD i []).length : Nat) ∧ ((Ps.getD i []).length) ≤ (m - (Ps.take i).flatten.length) ∧ (m - (Ps.take i).flatten.length) - ((Ps.getD i []).length) < 9223372036854775808 ∧ Value.int .i64 ((m - (Ps.take i).flatten.length) - ((Ps.getD i []).length) : Nat) = .int .i64 (m - (Ps.take (i + 1)).flatten.length : Nat) ∧ Kt [(1, .int .i64 (m - (Ps.take (i + 1)).flatten.length : Nat)), (5, .int .i64 (i : Nat)), (0, .slice (some ⟨pb, off, none⟩) Ps.length cap)] [(pb, .cells cs T9 fr)]) (by kernel_rfl) (fun _ => by kernel_rfl) (⟨(by omega), rfl, (hp i hlt), (vI (bs_size _)), (by omega), (by omega), (vI (by omega)), fun ac7 wd7 FF7 MM7 => ?_⟩)
      have hs2 : (Ps.take (i + 1)).flatten.length ≤ m := by omega
      refine inb_n (then_n ?_)
      refine rg_seq FF7 MM7 [o_, o_, o_] [1, 5, 0] (fun Kt => i + 1 < 9223372036854775808 ∧ Kt [(5, .int .i64 (i + 1 : Nat)), (1, .int .i64 (m - (Ps.take (i + 1)).flatten.length : Nat)), (0, .slice (some ⟨pb, off, none⟩) Ps.length cap)] [(pb, .cells cs T9 fr)]) (by kernel_rfl) (fun _ => by kernel_rfl) (⟨(by omega), fun ac8 wd8 FF8 MM8 => ?_⟩)
      have hd := cnt_of (FF8.get 0 rfl)
      refine then_n ⟨⟨i + 1, by omega, hs2, FF8.pick [0, 2, 1], MM8⟩, ?_⟩
      rw [hc, hd]; omega
  · skip
    refine then_n (.inr ⟨(FF4.ev 0 rfl).trans (dec_f hlt), ?_⟩)
    obtain rfl : i = Ps.length := by omega
    rw [List.take_length] at hs
    refine then_n ?_
    refine wp_seq (rg_seq FF4 MM4 [o_] [5, 0, 1, 4] (fun Kt => Kt [(4, .bool false), (5, .int .i64 (Ps.length : Nat)), (0, .slice (some ⟨pb, off, none⟩) Ps.length cap), (1, .int .i64 (m - (Ps.take Ps.length).flatten.length : Nat))] [(pb, .cells cs T9 fr)]) (by kernel_rfl) (fun _ => by kernel_rfl) (fun ac9 wd9 FF9 MM9 => then_n ?_))
    refine wp_ret ?_
    repeat first | refine then_ret ?_ | refine inb_ret ?_
    exact (ret_fr FF9 0 Try.results7 rfl ⟨by rw [decide_eq_false (by omega)], MM9.below1 0 rfl hb⟩)
theorem at2 (T0 T1 : List Nat) : ∀ j, j < [T0, T1].length → (#[.string (bs T0), .string (bs T1)] : Array Value)[0 + j]? = some (.string (bs ([T0, T1].getD j []))) := fun j h => by
  have : j = 0 ∨ j = 1 := by simp at h; omega
  rcases this with rfl | rfl <;> rfl
theorem at3 (T0 T1 T2 : List Nat) : ∀ j, j < [T0, T1, T2].length → (#[.string (bs T0), .string (bs T1), .string (bs T2)] : Array Value)[0 + j]? = some (.string (bs ([T0, T1, T2].getD j []))) := fun j h => by
  have : j = 0 ∨ j = 1 ∨ j = 2 := by simp at h; omega
  rcases this with rfl | rfl | rfl <;> rfl
theorem at4 (T0 T1 T2 T3 : List Nat) : ∀ j, j < [T0, T1, T2, T3].length → (#[.string (bs T0), .string (bs T1), .string (bs T2), .string (bs T3)] : Array Value)[0 + j]? = some (.string (bs ([T0, T1, T2, T3].getD j []))) := fun j h => by
  have : j = 0 ∨ j = 1 ∨ j = 2 ∨ j = 3 := by simp at h; omega
  rcases this with rfl | rfl | rfl | rfl <;> rfl

end Go.Proofs.Ytcmoohkkaibgkaa
