/- ShaParts: the walk. -/
import Derived.Test.YthjbbbjdpoggiaaDoorS5
namespace Go.Proofs.YthjbbbjdpoggiaaDoor
open Go.RowKit

theorem at1s (X : List Nat) : ∀ j, j < [X].length → (#[.string (bs X)] : Array Value)[0 + j]? = some (.string (bs ([X].getD j []))) := fun j h => by rw [Nat.zero_add]; exact parts1 X j h
theorem at4s (A B C D : List Nat) : ∀ j, j < [A, B, C, D].length → (#[.string (bs A), .string (bs B), .string (bs C), .string (bs D)] : Array Value)[0 + j]? = some (.string (bs ([A, B, C, D].getD j []))) := fun j h => by
  have : j = 0 ∨ j = 1 ∨ j = 2 ∨ j = 3 := by simp at h; omega
  rcases this with rfl | rfl | rfl | rfl <;> rfl
theorem lt4 {A B C D : List Nat} (h1 : ∀ i, A.getD i 0 < 256) (h2 : ∀ i, B.getD i 0 < 256) (h3 : ∀ i, C.getD i 0 < 256) (h4 : ∀ i, D.getD i 0 < 256) : ∀ V ∈ [A, B, C, D], ∀ i, V.getD i 0 < 256 := fun V hV => by
  simp only [List.mem_cons, List.not_mem_nil, or_false] at hV
  rcases hV with rfl | rfl | rfl | rfl <;> assumption
set_option maxRecDepth 100000 in
theorem shaparts_long (Tg : TypeId) (fg : Nat × Nat) (X : List Nat) (u v : Nat) (_hX : ∀ i, X.getD i 0 < 256) (_hu : u < 256) (_hv : v < 256) (hL : X.length > 400) (w0 : World) (hg : w0.heap[0]? = some (.cells (cn .u32 kTab) Tg fg)) :
    Calls Tryd.prog 4 #[.string (bs X), .int .u8 (u : Nat), .int .u8 (v : Nat)] w0 fun e w' => e = .returned (.bool true) ∧ Below w0.heap.size w0 w' := by
  have MM := MemS.start1 hg
  refine enter_fr Tryd.func4 rfl Tryd.ntmps4 (by simp) fun ac (FF : Fr 48 ac [(0, .string (bs X)), (1, .int .u8 (u : Nat)), (2, .int .u8 (v : Nat))]) => ?_
  refine wp_seq (rg_seq FF MM [o_] [0, 1, 2, 6] (fun Kt => Kt [(6, .bool false), (0, .string (bs X)), (1, .int .u8 (u : Nat)), (2, .int .u8 (v : Nat))] [(0, .cells (cn .u32 kTab) Tg fg)]) (by kernel_rfl) (fun _ => by kernel_rfl) (fun ac1 wd1 FF1 MM1 => then_n ?_))
  refine wp_seq ?_
  refine wp_seq (rg_seq FF1 MM1 [o_, t_ (.int .i64 (X.length : Nat)), w_ 2] [6, 0, 1, 2, 11] (fun Kt => Value.int .i64 ((bs X).size : Nat) = .int .i64 (X.length : Nat) ∧ X.length > 400 ∧ Kt [(11, .bool true), (6, .bool false), (0, .string (bs X)), (1, .int .u8 (u : Nat)), (2, .int .u8 (v : Nat))] [(0, .cells (cn .u32 kTab) Tg fg)]) (by kernel_rfl) (fun _ => by kernel_rfl) (⟨(vI (bs_size _)), hL, fun ac2 wd2 FF2 MM2 => then_n ?_⟩))
  refine wp_cond_true (FF2.ev 0 rfl) ?_
  refine wp_seq (rg_seq FF2 MM2 [u_ 1 (.bool true), o_] [6, 0, 1, 2] (fun Kt => CallP Tryd.prog 7 [] [(0, .cells (cn .u32 kTab) Tg fg)] (.bool true) ∧ Kt [(6, .bool true), (0, .string (bs X)), (1, .int .u8 (u : Nat)), (2, .int .u8 (v : Nat))] [(0, .cells (cn .u32 kTab) Tg fg)]) (by kernel_rfl) (fun _ => by kernel_rfl) (⟨⟨en_wakes6, fun w Hw => wakes6 Tg fg w (Hw 0 _ rfl)⟩, fun ac3 wd3 FF3 MM3 => then_n ?_⟩))
  refine wp_ret ?_
  repeat first | refine then_ret ?_ | refine inb_ret ?_
  exact (ret_fr FF3 0 Tryd.results4 rfl ⟨rfl, MM3.below1 0 rfl hg⟩)
set_option maxRecDepth 100000 in
theorem shaparts_short (Tg : TypeId) (fg : Nat × Nat) (X : List Nat) (u v : Nat) (hX : ∀ i, X.getD i 0 < 256) (hu : u < 256) (hv : v < 256) (hL : ¬ X.length > 400) (w0 : World) (hg : w0.heap[0]? = some (.cells (cn .u32 kTab) Tg fg)) :
    Calls Tryd.prog 4 #[.string (bs X), .int .u8 (u : Nat), .int .u8 (v : Nat)] w0 fun e w' => e = .returned (.bool true) ∧ Below w0.heap.size w0 w' := by
  have MM := MemS.start1 hg
  refine enter_fr Tryd.func4 rfl Tryd.ntmps4 (by simp) fun ac (FF : Fr 48 ac [(0, .string (bs X)), (1, .int .u8 (u : Nat)), (2, .int .u8 (v : Nat))]) => ?_
  refine wp_seq (rg_seq FF MM [o_] [0, 1, 2, 6] (fun Kt => Kt [(6, .bool false), (0, .string (bs X)), (1, .int .u8 (u : Nat)), (2, .int .u8 (v : Nat))] [(0, .cells (cn .u32 kTab) Tg fg)]) (by kernel_rfl) (fun _ => by kernel_rfl) (fun ac1 wd1 FF1 MM1 => then_n ?_))
  refine wp_seq ?_
  refine wp_seq (rg_seq FF1 MM1 [o_, t_ (.int .i64 (X.length : Nat)), w_ 3] [6, 0, 1, 2, 11] (fun Kt => Value.int .i64 ((bs X).size : Nat) = .int .i64 (X.length : Nat) ∧ ¬ (X.length > 400) ∧ Kt [(11, .bool false), (6, .bool false), (0, .string (bs X)), (1, .int .u8 (u : Nat)), (2, .int .u8 (v : Nat))] [(0, .cells (cn .u32 kTab) Tg fg)]) (by kernel_rfl) (fun _ => by kernel_rfl) (⟨(vI (bs_size _)), hL, fun ac2 wd2 FF2 MM2 => then_n ?_⟩))
  refine wp_cond_false (FF2.ev 0 rfl) ?_
  refine wp_skip ?_
  refine then_n ?_
  refine wp_seq (rg_seq FF2 MM2 [o_, w_ 1, o_, t_ (.int .i64 (X.length : Nat)), o_, o_, o_] [6, 0, 2, 7] (fun Kt => u < 9223372036854775808 ∧ Value.int .i64 ((bs X).size : Nat) = .int .i64 (X.length : Nat) ∧ X.length + 1 < 9223372036854775808 ∧ (X.length + 1) ≠ 0 ∧ Kt [(7, .int .i64 (u % (X.length + 1) : Nat)), (6, .bool false), (0, .string (bs X)), (2, .int .u8 (v : Nat))] [(0, .cells (cn .u32 kTab) Tg fg)]) (by kernel_rfl) (fun _ => by kernel_rfl) (⟨(by have := hu; omega), (vI (bs_size _)), (by omega), (by have := hu; omega), fun ac3 wd3 FF3 MM3 => then_n ?_⟩))
  obtain ⟨i, hi⟩ : ∃ i, u % (X.length + 1) = i := ⟨_, rfl⟩
  have hile : i ≤ X.length := by have := Nat.mod_lt u (show X.length + 1 > 0 by omega); omega
  rw [hi] at FF3
  refine wp_seq (rg_seq FF3 MM3 [o_, o_, w_ 1, o_, t_ (.int .i64 (X.length : Nat)), o_, o_, o_, o_, o_, o_] [7, 6, 0, 8] (fun Kt => v < 9223372036854775808 ∧ Value.int .i64 ((bs X).size : Nat) = .int .i64 (X.length : Nat) ∧ i ≤ X.length ∧ X.length - i < 9223372036854775808 ∧ (X.length - i) + 1 < 9223372036854775808 ∧ ((X.length - i) + 1) ≠ 0 ∧ i + (v % ((X.length - i) + 1)) < 9223372036854775808 ∧ Kt [(8, .int .i64 (i + (v % ((X.length - i) + 1)) : Nat)), (7, .int .i64 (i : Nat)), (6, .bool false), (0, .string (bs X))] [(0, .cells (cn .u32 kTab) Tg fg)]) (by kernel_rfl) (fun _ => by kernel_rfl) (⟨(by have := hv; omega), (vI (bs_size _)), (by have := hile; omega), (by have := hile; omega), (by have := hile; omega), (by have := hv; have := hile; omega), (by have := Nat.mod_lt v (show X.length - i + 1 > 0 by omega); omega), fun ac4 wd4 FF4 MM4 => then_n ?_⟩))
  obtain ⟨j, hj⟩ : ∃ j, i + v % (X.length - i + 1) = j := ⟨_, rfl⟩
  have hjle : i ≤ j ∧ j ≤ X.length := by have := Nat.mod_lt v (show X.length - i + 1 > 0 by omega); omega
  rw [hj] at FF4
  have eX : ([(X.take i).drop 0, [], (X.take j).drop i, X.drop j] : List (List Nat)).flatten = X := by simp only [List.flatten_cons, List.flatten_nil, List.append_nil, List.nil_append, List.drop_zero]; rw [← List.append_assoc, show X.take i = (X.take j).take i by rw [List.take_take, Nat.min_eq_left hjle.1], List.take_append_drop, List.take_append_drop]
  have hXl : X.length < 2305843009213693952 := by omega
  refine wp_seq (rg_draw FF4 MM4 [.inl (.string (bs X)), .inl (.int .i64 (i : Nat)), .inl (.string (bs ((X.take i).drop 0))), .inl (.string (bs X)), .inl (.int .i64 (i : Nat)), .inl (.int .i64 (j : Nat)), .inl (.string (bs ((X.take j).drop i))), .inl (.string (bs X)), .inl (.int .i64 (j : Nat)), .inl (.string (bs (X.drop j))), .inr (.cells (#[.string (bs ((X.take i).drop 0)), .string (bs []), .string (bs ((X.take j).drop i)), .string (bs (X.drop j))] : Array Value) 9, fun b => .slice (some ⟨b, 0, none⟩) 4 4), .inl (.agg (cn .u8 (shaN X))), .inl (.string (bs X)), .inr (.cells (#[.string (bs X)] : Array Value) 9, fun b => .slice (some ⟨b, 0, none⟩) 1 1), .inl (.agg (cn .u8 (shaN X))), .inl (.bool true), .inl (.bool true), .inl (.bool true), .inl (.bool true), .inl (.bool true)] [] [o_, o_, t_ (.string (bs ((X.take i).drop 0))), o_, o_, o_, t_ (.string (bs ((X.take j).drop i))), o_, o_, t_ (.string (bs (X.drop j))), o_, u_ 1 (.agg (cn .u8 (shaN X))), o_, o_, u_ 1 (.agg (cn .u8 (shaN X))), f_ (.bool true), o_, u_ 1 (.bool true), o_, o_] [] [7, 6, 0] (fun nb => [0 ≤ i, i ≤ (bs X).size, Value.string ((bs X).extract 0 i) = .string (bs ((X.take i).drop 0)), i ≤ j, j ≤ (bs X).size, Value.string ((bs X).extract i j) = .string (bs ((X.take j).drop i)), j ≤ (bs X).size, 0 ≤ (bs X).size, Value.string ((bs X).extract j (bs X).size) = .string (bs (X.drop j)), CallP Tryd.prog 8 [.slice (some ⟨(nb 10), 0, none⟩) 4 4] [((nb 10), .cells (#[.string (bs ((X.take i).drop 0)), .string (bs []), .string (bs ((X.take j).drop i)), .string (bs (X.drop j))] : Array Value) 9), (0, .cells (cn .u32 kTab) Tg fg)] (.agg (cn .u8 (shaN X))), CallP Tryd.prog 8 [.slice (some ⟨(nb 13), 0, none⟩) 1 1] [((nb 13), .cells (#[.string (bs X)] : Array Value) 9), (0, .cells (cn .u32 kTab) Tg fg)] (.agg (cn .u8 (shaN X))), RunV Tryd.prog [(40, .agg (cn .u8 (shaN X))), (43, .agg (cn .u8 (shaN X))), (8, .int .i64 (j : Nat)), (7, .int .i64 (i : Nat)), (0, .string (bs X))] [(0, .cells (cn .u32 kTab) Tg fg)] (opAt Tryd.f4 5 15) (.bool true), CallP Tryd.prog 7 [] [(0, .cells (cn .u32 kTab) Tg fg)] (.bool true)]) (fun nb Kt => Kt [(6, .bool true), (7, .int .i64 (i : Nat)), (0, .string (bs X))] [(0, .cells (cn .u32 kTab) Tg fg)]) (by kernel_rfl) (by kernel_rfl) (by kernel_rfl) (fun _ => by kernel_rfl) (fun _ _ => by kernel_rfl) trivial (fun nb => ⟨(Nat.zero_le _), (by simp only [bs_size]; have := hile; omega), (vS2 (bs_extract _ _ _)), (by have := hile; have := hjle; omega), (by simp only [bs_size]; have := hile; have := hjle; omega), (vS2 (bs_extract _ _ _)), (by simp only [bs_size]; have := hjle; omega), (Nat.zero_le _), (vS2 (bs_from _ _)), ⟨en_ssum, fun w Hw => by have h0 := ssum_any Tg fg [(X.take i).drop 0, [], (X.take j).drop i, X.drop j] (lt4 (cut_lt X hX _ _) nil_lt (cut_lt X hX _ _) (drop_lt hX)) (by simp) _ 0 4 _ _ _ (at4s _ _ _ _) (by rw [eX]; exact hXl) w (Hw 1 _ rfl) (Hw 0 _ rfl); rw [eX] at h0; exact h0⟩, ⟨en_ssum, fun w Hw => by have h0 := ssum_any Tg fg [X] (lt1 hX) (by simp) _ 0 1 _ _ _ (at1s X) (by simpa using hXl) w (Hw 1 _ rfl) (Hw 0 _ rfl); rw [show [X].flatten = X by simp] at h0; exact h0⟩, (eqA_ok (t := 26) (t' := 26) (e := 5) (m := 32) (k := .u8) (x := (.tmp 40)) (y := (.tmp 43)) (by kernel_rfl) Tryd.underlying26 Tryd.underlying5 (by kernel_rfl) (by kernel_rfl) (by kernel_rfl) rfl rfl (shaN_bytes _).len (shaN_bytes _).len (decide_eq_true rfl)), ⟨en_wakes6, fun w Hw => wakes6 Tg fg w (Hw 0 _ rfl)⟩, trivial⟩) (fun nb => fun ac5 wd5 FF5 MM5 => then_n ?_))
  refine wp_ret ?_
  repeat first | refine then_ret ?_ | refine inb_ret ?_
  exact (ret_fr FF5 0 Tryd.results4 rfl ⟨rfl, MM5.below1 0 rfl hg⟩)

end Go.Proofs.YthjbbbjdpoggiaaDoor
