/- ShaLengths: the walk. -/
import Derived.Test.YthjbbbjdpoggiaaDoorS5
namespace Go.Proofs.YthjbbbjdpoggiaaDoor
open Go.RowKit

theorem at1s (X : List Nat) : ∀ j, j < [X].length → (#[.string (bs X)] : Array Value)[0 + j]? = some (.string (bs ([X].getD j []))) := fun j h => by rw [Nat.zero_add]; exact parts1 X j h
theorem repb_lt {n b : Nat} (h : b < 256) (i : Nat) : (List.replicate n b).getD i 0 < 256 := by
  rw [List.getD_eq_getElem?_getD, List.getElem?_replicate]
  split
  · exact h
  · decide
theorem genL_rep (n b : Nat) : genL n (fun _ => b) n = List.replicate n b := by
  refine List.ext_getElem (by simp [genL]) fun i h1 h2 => ?_
  have : i < n := by simpa [genL] using h1
  simp [genL, this]
set_option maxRecDepth 100000 in
theorem shalengths_any (Tg : TypeId) (fg : Nat × Nat) (n b : Nat) (hn : n < 256) (hb : b < 256) (w0 : World) (hg : w0.heap[0]? = some (.cells (cn .u32 kTab) Tg fg)) :
    Calls Tryd.prog 5 #[.int .u8 (n : Nat), .int .u8 (b : Nat)] w0 fun e w' => e = .returned (.bool true) ∧ Below w0.heap.size w0 w' := by
  have MM := MemS.start1 hg
  refine enter_fr Tryd.func5 rfl Tryd.ntmps5 (by simp) fun ac (FF : Fr 32 ac [(0, .int .u8 (n : Nat)), (1, .int .u8 (b : Nat))]) => ?_
  refine wp_seq (rg_seq FF MM [o_] [0, 1, 4] (fun Kt => Kt [(4, .bool false), (0, .int .u8 (n : Nat)), (1, .int .u8 (b : Nat))] [(0, .cells (cn .u32 kTab) Tg fg)]) (by kernel_rfl) (fun _ => by kernel_rfl) (fun ac1 wd1 FF1 MM1 => then_n ?_))
  refine wp_seq (rg_seq FF1 MM1 [o_, n_ (.slice none n n) (.cells (cn .u8 (List.replicate n 0)) 5), o_] [4, 1, 5] (fun Kt => RunN Tryd.prog [(8, .int .u8 (n : Nat)), (4, .bool false), (0, .int .u8 (n : Nat)), (1, .int .u8 (b : Nat))] [(0, .cells (cn .u32 kTab) Tg fg)] (opAt Tryd.f5 1 1) (mkOf (.slice none n n)) (.cells (cn .u8 (List.replicate n 0)) 5) ∧ ∀ bs_, Kt [(5, .slice (some ⟨bs_, 0, none⟩) n n), (4, .bool false), (1, .int .u8 (b : Nat))] [(bs_, .cells (cn .u8 (List.replicate n 0)) 5), (0, .cells (cn .u32 kTab) Tg fg)]) (by kernel_rfl) (fun _ => by kernel_rfl) (⟨(make_ok (t := 32) (e := 5) (p := (.tmp 8)) (q := (.tmp 8)) (by kernel_rfl) rfl rfl Tryd.underlying32 (by kernel_rfl) (by have := hn; omega)), fun bs_ => fun ac2 wd2 FF2 MM2 => then_n ?_⟩))
  have MMr4 : MemS (fun k => k < w0.heap.size ∧ k ≠ 0) w0 wd2 [(bs_, .cells (cn .u8 (genL n (fun _ => b) 0)) 5), (0, .cells (cn .u32 kTab) Tg fg)] [] := by rw [← genL_zero n (fun _ => b)]; exact MM2
  refine wp_seq ?_
  refine wp_seq (rg_seq FF2 MMr4 [o_] [5, 4, 1, 6] (fun Kt => Kt [(6, .int .i64 (0 : Nat)), (5, .slice (some ⟨bs_, 0, none⟩) n n), (4, .bool false), (1, .int .u8 (b : Nat))] [(bs_, .cells (cn .u8 (genL n (fun _ => b) 0)) 5), (0, .cells (cn .u32 kTab) Tg fg)]) (by kernel_rfl) (fun _ => by kernel_rfl) (fun ac3 wd3 FF3 MM3 => then_n ?_))
  refine wp_for2 (fun a' w' => ∃ i : Nat, i ≤ n ∧ Fr 32 a' [(6, .int .i64 (i : Nat)), (5, .slice (some ⟨bs_, 0, none⟩) n n), (4, .bool false), (1, .int .u8 (b : Nat))] ∧ MemS (fun k => k < w0.heap.size ∧ k ≠ 0) w0 w' [(bs_, .cells (cn .u8 (genL n (fun _ => b) i)) 5), (0, .cells (cn .u32 kTab) Tg fg)] []) (fun a' _ => (n - cnt 6 a').toNat) ⟨0, Nat.zero_le _, FF3.pick [0, 1, 2, 3], MM3⟩ ?_
  rintro ac4 wd4 ⟨i, hi, FF4, MM4⟩
  have hc := cnt_of (FF4.get 0 rfl)
  refine rg_seq FF4 MM4 [o_, o_, o_, o_] [6, 5, 4, 1, 13] (fun Kt => Kt [(13, .bool (decide (i < n))), (6, .int .i64 (i : Nat)), (5, .slice (some ⟨bs_, 0, none⟩) n n), (4, .bool false), (1, .int .u8 (b : Nat))] [(bs_, .cells (cn .u8 (genL n (fun _ => b) i)) 5), (0, .cells (cn .u32 kTab) Tg fg)]) (by kernel_rfl) (fun _ => by kernel_rfl) (fun ac5 wd5 FF5 MM5 => ?_)
  by_cases hlt : i < n
  · skip
    refine then_n (.inl ⟨(FF5.ev 0 rfl).trans (dec_t hlt), ?_⟩)
    refine rg_seq FF5 MM5 [o_, o_, o_, w_ 1, s_ 0 (.cells (cn .u8 (genL n (fun _ => b) (i + 1))) 5)] [6, 5, 4, 1] (fun Kt => i < n ∧ bs_ = bs_ ∧ i < (cn .u8 (genL n (fun _ => b) i)).size ∧ (((0, 0)).2 = 0 ∨ i < ((0, 0)).1) ∧ (cn .u8 (genL n (fun _ => b) i)).setIfInBounds i (.int .u8 (b : Nat)) = cn .u8 (genL n (fun _ => b) (i + 1)) ∧ Kt [(6, .int .i64 (i : Nat)), (5, .slice (some ⟨bs_, 0, none⟩) n n), (4, .bool false), (1, .int .u8 (b : Nat))] [(bs_, .cells (cn .u8 (genL n (fun _ => b) (i + 1))) 5), (0, .cells (cn .u32 kTab) Tg fg)]) (by kernel_rfl) (fun _ => by kernel_rfl) (⟨(by omega), rfl, (by rw [cn_size, (genL_len _ _ _)]; have := hlt; omega), (.inl rfl), ((cn_set _ _ _ _).trans (congrArg _ (genL_step _ _ i hlt rfl))), fun ac6 wd6 FF6 MM6 => ?_⟩)
    refine inb_n (then_n ?_)
    refine rg_seq FF6 MM6 [o_, o_, o_] [6, 5, 4, 1] (fun Kt => i + 1 < 9223372036854775808 ∧ Kt [(6, .int .i64 (i + 1 : Nat)), (5, .slice (some ⟨bs_, 0, none⟩) n n), (4, .bool false), (1, .int .u8 (b : Nat))] [(bs_, .cells (cn .u8 (genL n (fun _ => b) (i + 1))) 5), (0, .cells (cn .u32 kTab) Tg fg)]) (by kernel_rfl) (fun _ => by kernel_rfl) (⟨(by omega), fun ac7 wd7 FF7 MM7 => ?_⟩)
    have hd := cnt_of (FF7.get 0 rfl)
    refine then_n ⟨⟨i + 1, by omega, FF7.pick [0, 1, 2, 3], MM7⟩, ?_⟩
    rw [hc, hd]; omega
  · skip
    refine then_n (.inr ⟨(FF5.ev 0 rfl).trans (dec_f hlt), ?_⟩)
    have hie : i = n := by omega
    rw [hie] at MM5
    have MMb : MemS (fun k => k < w0.heap.size ∧ k ≠ 0) w0 wd5 [(bs_, .cells (cn .u8 (List.replicate n b)) 5), (0, .cells (cn .u32 kTab) Tg fg)] [] := by rw [← genL_rep n b]; exact MM5
    refine then_n ?_
    refine wp_seq (rg_seq FF5 MMb [o_, l_ 0 (.string (bs (List.replicate n b))), t_ (.agg (cn .u8 (shaN (List.replicate n b)))), o_, b_ 0] [5, 4, 1, 7] (fun Kt => bs_ = bs_ ∧ StrAt (cn .u8 (List.replicate n b)) 0 n (bs (List.replicate n b)) ∧ CallP Tryd.prog 9 [.string (bs (List.replicate n b))] [] (.agg (cn .u8 (shaN (List.replicate n b)))) ∧ ∀ bk, bk = bk ∧ (cn .u8 (List.replicate 32 0)).size = 32 ∧ (cn .u8 (shaN (List.replicate n b))).size = 32 ∧ (cn .u8 (shaN (List.replicate n b))).all (·.oneCell') = true ∧ (0, 0).2 = 0 ∧ Kt [(7, .pointer (some ⟨bk, 0, none⟩)), (5, .slice (some ⟨bs_, 0, none⟩) n n), (4, .bool false), (1, .int .u8 (b : Nat))] [(bk, .cells (cn .u8 (shaN (List.replicate n b))) 26), (bs_, .cells (cn .u8 (List.replicate n b)) 5), (0, .cells (cn .u32 kTab) Tg fg)]) (by kernel_rfl) (fun _ => by kernel_rfl) (⟨rfl, (str_all (List.length_replicate ..) (repb_lt hb)), (callP_of en_rsum (rsum_any (List.replicate n b) (repb_lt hb) (by rw [List.length_replicate]; omega)) _), fun bk => ⟨rfl, ((cn_size _ _).trans (List.length_replicate ..)), ((cn_size _ _).trans (shaN_bytes _).len), (cn_one _ _), rfl, fun ac8 wd8 FF8 MM8 => then_n ?_⟩⟩))
    refine wp_seq (rg_draw FF8 MM8 [.inl (.slice (some ⟨bs_, 0, none⟩) n n), .inl (.string (bs (List.replicate n b))), .inr (.cells (#[.string (bs (List.replicate n b))] : Array Value) 9, fun b => .slice (some ⟨b, 0, none⟩) 1 1), .inl (.agg (cn .u8 (shaN (List.replicate n b)))), .inl (.agg (cn .u8 (shaN (List.replicate n b)))), .inl (.bool true), .inl (.bool true), .inl (.bool true), .inl (.bool true), .inl (.bool true)] [] [o_, l_ 1 (.string (bs (List.replicate n b))), o_, u_ 1 (.agg (cn .u8 (shaN (List.replicate n b)))), b_ 0, f_ (.bool true), o_, u_ 1 (.bool true), o_, o_] [] [7, 5, 4, 1] (fun nb => [bs_ = bs_, StrAt (cn .u8 (List.replicate n b)) 0 n (bs (List.replicate n b)), CallP Tryd.prog 8 [.slice (some ⟨(nb 2), 0, none⟩) 1 1] [((nb 2), .cells (#[.string (bs (List.replicate n b))] : Array Value) 9), (bk, .cells (cn .u8 (shaN (List.replicate n b))) 26), (bs_, .cells (cn .u8 (List.replicate n b)) 5), (0, .cells (cn .u32 kTab) Tg fg)] (.agg (cn .u8 (shaN (List.replicate n b)))), bk = bk, (cn .u8 (shaN (List.replicate n b))).size = 32, RunV Tryd.prog [(26, .agg (cn .u8 (shaN (List.replicate n b)))), (27, .agg (cn .u8 (shaN (List.replicate n b)))), (7, .pointer (some ⟨bk, 0, none⟩)), (5, .slice (some ⟨bs_, 0, none⟩) n n), (1, .int .u8 (b : Nat))] [(bk, .cells (cn .u8 (shaN (List.replicate n b))) 26), (bs_, .cells (cn .u8 (List.replicate n b)) 5), (0, .cells (cn .u32 kTab) Tg fg)] (opAt Tryd.f5 7 5) (.bool true), CallP Tryd.prog 7 [] [(bk, .cells (cn .u8 (shaN (List.replicate n b))) 26), (bs_, .cells (cn .u8 (List.replicate n b)) 5), (0, .cells (cn .u32 kTab) Tg fg)] (.bool true)]) (fun nb Kt => Kt [(4, .bool true), (7, .pointer (some ⟨bk, 0, none⟩)), (5, .slice (some ⟨bs_, 0, none⟩) n n), (1, .int .u8 (b : Nat))] [(bk, .cells (cn .u8 (shaN (List.replicate n b))) 26), (bs_, .cells (cn .u8 (List.replicate n b)) 5), (0, .cells (cn .u32 kTab) Tg fg)]) (by kernel_rfl) (by kernel_rfl) (by kernel_rfl) (fun _ => by kernel_rfl) (fun _ _ => by kernel_rfl) trivial (fun nb => ⟨rfl, (str_all (List.length_replicate ..) (repb_lt hb)), ⟨en_ssum, fun w Hw => by have h0 := ssum_any Tg fg [List.replicate n b] (lt1 (repb_lt hb)) (by simp) _ 0 1 _ _ _ (at1s _) (by simp; omega) w (Hw 3 _ rfl) (Hw 0 _ rfl); rw [show [List.replicate n b].flatten = List.replicate n b by simp] at h0; exact h0⟩, rfl, ((cn_size _ _).trans (shaN_bytes _).len), (eqA_ok (t := 26) (t' := 26) (e := 5) (m := 32) (k := .u8) (x := (.tmp 26)) (y := (.tmp 27)) (by kernel_rfl) Tryd.underlying26 Tryd.underlying5 (by kernel_rfl) (by kernel_rfl) (by kernel_rfl) rfl rfl (shaN_bytes _).len (shaN_bytes _).len (decide_eq_true rfl)), ⟨en_wakes6, fun w Hw => wakes6 Tg fg w (Hw 2 _ rfl)⟩, trivial⟩) (fun nb => fun ac9 wd9 FF9 MM9 => then_n ?_))
    refine wp_ret ?_
    repeat first | refine then_ret ?_ | refine inb_ret ?_
    exact (ret_fr FF9 0 Tryd.results5 rfl ⟨rfl, MM9.below1 2 rfl hg⟩)

end Go.Proofs.YthjbbbjdpoggiaaDoor
