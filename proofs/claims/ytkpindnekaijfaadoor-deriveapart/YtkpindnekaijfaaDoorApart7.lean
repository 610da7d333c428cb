/- DeriveApart: the walk. -/
import Derived.Test.YtkpindnekaijfaaDoorD5
namespace Go.Proofs.YtkpindnekaijfaaDoor
open Go.RowKit

set_option maxRecDepth 100000 in
theorem deriveapart_A (O : Blks) (hD : Distinct O) (Tg : TypeId) (fg : Nat × Nat) (hK : (0, Obj.cells (cn .u32 kTab) Tg fg) ∈ O) (Ps Qs : List (List Nat)) (p q : Option Addr) (cap cap2 : Nat) (_hP : ∀ X ∈ Ps, ∀ i, X.getD i 0 < 256) (_hQ : ∀ X ∈ Qs, ∀ i, X.getD i 0 < 256) (hn : Ps.length < 9223372036854775808) (_hm : Qs.length < 9223372036854775808) (hO : StrsO O p Ps) (_hO2 : StrsO O q Qs) (hA : Ps.flatten.length > 400) (w0 : World) (H : Has w0 O) :
    Calls Tryd.prog 4 #[.slice p Ps.length cap, .slice q Qs.length cap2] w0 fun e w' => e = .returned (.bool true) ∧ Below w0.heap.size w0 w' := by
  refine enter_fr Tryd.func4 rfl Tryd.ntmps4 (by simp) fun ac (FF : Fr 34 ac [(0, .slice p Ps.length cap), (1, .slice q Qs.length cap2)]) => ?_
  have MM : MemS (fun k => k < w0.heap.size ∧ ∀ x ∈ O, x.1 ≠ k) w0 w0 O [] := MemS.startN H hD
  refine wp_seq (rg_seq FF MM [o_] [0, 1, 4] (fun Kt => Kt [(4, .bool false), (0, .slice p Ps.length cap), (1, .slice q Qs.length cap2)] O) (by kernel_rfl) (fun _ => by kernel_rfl) (fun ac1 wd1 FF1 MM1 => then_n ?_))
  refine wp_seq ?_
  refine wp_seq (rg_seq FF1 MM1 [o_, u_ 1 (.bool true), o_, o_, o_, o_, o_, o_, o_, o_, o_, o_, o_, o_, o_, o_] [4, 0, 1, 20] (fun Kt => CallP Tryd.prog 7 [.slice p Ps.length cap, .int .i64 (400 : Nat)] O (.bool true) ∧ Kt [(20, .bool true), (4, .bool false), (0, .slice p Ps.length cap), (1, .slice q Qs.length cap2)] O) (by kernel_rfl) (fun _ => by kernel_rfl) (⟨⟨en_Long, fun w Hw => by have h0 := long_S 400 (by decide) Ps hn p cap w (hO.at Hw); rw [decide_eq_true hA] at h0; exact h0⟩, fun ac2 wd2 FF2 MM2 => then_n ?_⟩))
  refine wp_cond_true (FF2.ev 0 rfl) ?_
  refine wp_seq (rg_seq FF2 MM2 [u_ 1 (.bool true), o_] [4, 0, 1] (fun Kt => CallP Tryd.prog 8 [] O (.bool true) ∧ Kt [(4, .bool true), (0, .slice p Ps.length cap), (1, .slice q Qs.length cap2)] O) (by kernel_rfl) (fun _ => by kernel_rfl) (⟨⟨en_wakes7, fun w Hw => wakes7 Tg fg w (Has.mem Hw hK)⟩, fun ac3 wd3 FF3 MM3 => then_n ?_⟩))
  refine wp_ret ?_
  repeat first | refine then_ret ?_ | refine inb_ret ?_
  exact (ret_fr FF3 0 Tryd.results4 rfl ⟨rfl, MM3.belowN H (fun x hx => hx)⟩)
set_option maxRecDepth 100000 in
theorem deriveapart_B (O : Blks) (hD : Distinct O) (Tg : TypeId) (fg : Nat × Nat) (hK : (0, Obj.cells (cn .u32 kTab) Tg fg) ∈ O) (Ps Qs : List (List Nat)) (p q : Option Addr) (cap cap2 : Nat) (_hP : ∀ X ∈ Ps, ∀ i, X.getD i 0 < 256) (_hQ : ∀ X ∈ Qs, ∀ i, X.getD i 0 < 256) (hn : Ps.length < 9223372036854775808) (hm : Qs.length < 9223372036854775808) (hO : StrsO O p Ps) (hO2 : StrsO O q Qs) (hA : ¬ Ps.flatten.length > 400) (hB : Qs.flatten.length > 400) (w0 : World) (H : Has w0 O) :
    Calls Tryd.prog 4 #[.slice p Ps.length cap, .slice q Qs.length cap2] w0 fun e w' => e = .returned (.bool true) ∧ Below w0.heap.size w0 w' := by
  refine enter_fr Tryd.func4 rfl Tryd.ntmps4 (by simp) fun ac (FF : Fr 34 ac [(0, .slice p Ps.length cap), (1, .slice q Qs.length cap2)]) => ?_
  have MM : MemS (fun k => k < w0.heap.size ∧ ∀ x ∈ O, x.1 ≠ k) w0 w0 O [] := MemS.startN H hD
  refine wp_seq (rg_seq FF MM [o_] [0, 1, 4] (fun Kt => Kt [(4, .bool false), (0, .slice p Ps.length cap), (1, .slice q Qs.length cap2)] O) (by kernel_rfl) (fun _ => by kernel_rfl) (fun ac1 wd1 FF1 MM1 => then_n ?_))
  refine wp_seq ?_
  refine wp_seq (rg_seq FF1 MM1 [o_, u_ 1 (.bool false), o_, o_, u_ 1 (.bool true), o_, o_, o_, o_, o_, o_, o_, o_, o_, o_, o_] [4, 0, 1, 20] (fun Kt => CallP Tryd.prog 7 [.slice p Ps.length cap, .int .i64 (400 : Nat)] O (.bool false) ∧ CallP Tryd.prog 7 [.slice q Qs.length cap2, .int .i64 (400 : Nat)] O (.bool true) ∧ Kt [(20, .bool true), (4, .bool false), (0, .slice p Ps.length cap), (1, .slice q Qs.length cap2)] O) (by kernel_rfl) (fun _ => by kernel_rfl) (⟨⟨en_Long, fun w Hw => by have h0 := long_S 400 (by decide) Ps hn p cap w (hO.at Hw); rw [decide_eq_false hA] at h0; exact h0⟩, ⟨en_Long, fun w Hw => by have h0 := long_S 400 (by decide) Qs hm q cap2 w (hO2.at Hw); rw [decide_eq_true hB] at h0; exact h0⟩, fun ac2 wd2 FF2 MM2 => then_n ?_⟩))
  refine wp_cond_true (FF2.ev 0 rfl) ?_
  refine wp_seq (rg_seq FF2 MM2 [u_ 1 (.bool true), o_] [4, 0, 1] (fun Kt => CallP Tryd.prog 8 [] O (.bool true) ∧ Kt [(4, .bool true), (0, .slice p Ps.length cap), (1, .slice q Qs.length cap2)] O) (by kernel_rfl) (fun _ => by kernel_rfl) (⟨⟨en_wakes7, fun w Hw => wakes7 Tg fg w (Has.mem Hw hK)⟩, fun ac3 wd3 FF3 MM3 => then_n ?_⟩))
  refine wp_ret ?_
  repeat first | refine then_ret ?_ | refine inb_ret ?_
  exact (ret_fr FF3 0 Tryd.results4 rfl ⟨rfl, MM3.belowN H (fun x hx => hx)⟩)
set_option maxRecDepth 100000 in
theorem deriveapart_C (O : Blks) (hD : Distinct O) (Tg : TypeId) (fg : Nat × Nat) (hK : (0, Obj.cells (cn .u32 kTab) Tg fg) ∈ O) (Ps Qs : List (List Nat)) (p q : Option Addr) (cap cap2 : Nat) (_hP : ∀ X ∈ Ps, ∀ i, X.getD i 0 < 256) (_hQ : ∀ X ∈ Qs, ∀ i, X.getD i 0 < 256) (hn : Ps.length < 9223372036854775808) (hm : Qs.length < 9223372036854775808) (hO : StrsO O p Ps) (hO2 : StrsO O q Qs) (hA : ¬ Ps.flatten.length > 400) (hB : ¬ Qs.flatten.length > 400) (hC : Ps.length > 100) (w0 : World) (H : Has w0 O) :
    Calls Tryd.prog 4 #[.slice p Ps.length cap, .slice q Qs.length cap2] w0 fun e w' => e = .returned (.bool true) ∧ Below w0.heap.size w0 w' := by
  refine enter_fr Tryd.func4 rfl Tryd.ntmps4 (by simp) fun ac (FF : Fr 34 ac [(0, .slice p Ps.length cap), (1, .slice q Qs.length cap2)]) => ?_
  have MM : MemS (fun k => k < w0.heap.size ∧ ∀ x ∈ O, x.1 ≠ k) w0 w0 O [] := MemS.startN H hD
  refine wp_seq (rg_seq FF MM [o_] [0, 1, 4] (fun Kt => Kt [(4, .bool false), (0, .slice p Ps.length cap), (1, .slice q Qs.length cap2)] O) (by kernel_rfl) (fun _ => by kernel_rfl) (fun ac1 wd1 FF1 MM1 => then_n ?_))
  refine wp_seq ?_
  refine wp_seq (rg_seq FF1 MM1 [o_, u_ 1 (.bool false), o_, o_, u_ 1 (.bool false), o_, o_, o_, o_, w_ 2, o_, o_, o_, o_, o_, o_] [4, 0, 1, 20] (fun Kt => CallP Tryd.prog 7 [.slice p Ps.length cap, .int .i64 (400 : Nat)] O (.bool false) ∧ CallP Tryd.prog 7 [.slice q Qs.length cap2, .int .i64 (400 : Nat)] O (.bool false) ∧ Ps.length > 100 ∧ Kt [(20, .bool true), (4, .bool false), (0, .slice p Ps.length cap), (1, .slice q Qs.length cap2)] O) (by kernel_rfl) (fun _ => by kernel_rfl) (⟨⟨en_Long, fun w Hw => by have h0 := long_S 400 (by decide) Ps hn p cap w (hO.at Hw); rw [decide_eq_false hA] at h0; exact h0⟩, ⟨en_Long, fun w Hw => by have h0 := long_S 400 (by decide) Qs hm q cap2 w (hO2.at Hw); rw [decide_eq_false hB] at h0; exact h0⟩, hC, fun ac2 wd2 FF2 MM2 => then_n ?_⟩))
  refine wp_cond_true (FF2.ev 0 rfl) ?_
  refine wp_seq (rg_seq FF2 MM2 [u_ 1 (.bool true), o_] [4, 0, 1] (fun Kt => CallP Tryd.prog 8 [] O (.bool true) ∧ Kt [(4, .bool true), (0, .slice p Ps.length cap), (1, .slice q Qs.length cap2)] O) (by kernel_rfl) (fun _ => by kernel_rfl) (⟨⟨en_wakes7, fun w Hw => wakes7 Tg fg w (Has.mem Hw hK)⟩, fun ac3 wd3 FF3 MM3 => then_n ?_⟩))
  refine wp_ret ?_
  repeat first | refine then_ret ?_ | refine inb_ret ?_
  exact (ret_fr FF3 0 Tryd.results4 rfl ⟨rfl, MM3.belowN H (fun x hx => hx)⟩)
set_option maxRecDepth 100000 in
theorem deriveapart_D (O : Blks) (hD : Distinct O) (Tg : TypeId) (fg : Nat × Nat) (hK : (0, Obj.cells (cn .u32 kTab) Tg fg) ∈ O) (Ps Qs : List (List Nat)) (p q : Option Addr) (cap cap2 : Nat) (_hP : ∀ X ∈ Ps, ∀ i, X.getD i 0 < 256) (_hQ : ∀ X ∈ Qs, ∀ i, X.getD i 0 < 256) (hn : Ps.length < 9223372036854775808) (hm : Qs.length < 9223372036854775808) (hO : StrsO O p Ps) (hO2 : StrsO O q Qs) (hA : ¬ Ps.flatten.length > 400) (hB : ¬ Qs.flatten.length > 400) (hC : ¬ Ps.length > 100) (hE : Qs.length > 100) (w0 : World) (H : Has w0 O) :
    Calls Tryd.prog 4 #[.slice p Ps.length cap, .slice q Qs.length cap2] w0 fun e w' => e = .returned (.bool true) ∧ Below w0.heap.size w0 w' := by
  refine enter_fr Tryd.func4 rfl Tryd.ntmps4 (by simp) fun ac (FF : Fr 34 ac [(0, .slice p Ps.length cap), (1, .slice q Qs.length cap2)]) => ?_
  have MM : MemS (fun k => k < w0.heap.size ∧ ∀ x ∈ O, x.1 ≠ k) w0 w0 O [] := MemS.startN H hD
  refine wp_seq (rg_seq FF MM [o_] [0, 1, 4] (fun Kt => Kt [(4, .bool false), (0, .slice p Ps.length cap), (1, .slice q Qs.length cap2)] O) (by kernel_rfl) (fun _ => by kernel_rfl) (fun ac1 wd1 FF1 MM1 => then_n ?_))
  refine wp_seq ?_
  refine wp_seq (rg_seq FF1 MM1 [o_, u_ 1 (.bool false), o_, o_, u_ 1 (.bool false), o_, o_, o_, o_, w_ 3, o_, o_, o_, o_, w_ 2, o_] [4, 0, 1, 20] (fun Kt => CallP Tryd.prog 7 [.slice p Ps.length cap, .int .i64 (400 : Nat)] O (.bool false) ∧ CallP Tryd.prog 7 [.slice q Qs.length cap2, .int .i64 (400 : Nat)] O (.bool false) ∧ ¬ (Ps.length > 100) ∧ Qs.length > 100 ∧ Kt [(20, .bool true), (4, .bool false), (0, .slice p Ps.length cap), (1, .slice q Qs.length cap2)] O) (by kernel_rfl) (fun _ => by kernel_rfl) (⟨⟨en_Long, fun w Hw => by have h0 := long_S 400 (by decide) Ps hn p cap w (hO.at Hw); rw [decide_eq_false hA] at h0; exact h0⟩, ⟨en_Long, fun w Hw => by have h0 := long_S 400 (by decide) Qs hm q cap2 w (hO2.at Hw); rw [decide_eq_false hB] at h0; exact h0⟩, hC, hE, fun ac2 wd2 FF2 MM2 => then_n ?_⟩))
  refine wp_cond_true (FF2.ev 0 rfl) ?_
  refine wp_seq (rg_seq FF2 MM2 [u_ 1 (.bool true), o_] [4, 0, 1] (fun Kt => CallP Tryd.prog 8 [] O (.bool true) ∧ Kt [(4, .bool true), (0, .slice p Ps.length cap), (1, .slice q Qs.length cap2)] O) (by kernel_rfl) (fun _ => by kernel_rfl) (⟨⟨en_wakes7, fun w Hw => wakes7 Tg fg w (Has.mem Hw hK)⟩, fun ac3 wd3 FF3 MM3 => then_n ?_⟩))
  refine wp_ret ?_
  repeat first | refine then_ret ?_ | refine inb_ret ?_
  exact (ret_fr FF3 0 Tryd.results4 rfl ⟨rfl, MM3.belowN H (fun x hx => hx)⟩)
set_option maxRecDepth 100000 in
theorem deriveapart_S (O : Blks) (hD : Distinct O) (Tg : TypeId) (fg : Nat × Nat) (hK : (0, Obj.cells (cn .u32 kTab) Tg fg) ∈ O) (Ps Qs : List (List Nat)) (p q : Option Addr) (cap cap2 : Nat) (hP : ∀ X ∈ Ps, ∀ i, X.getD i 0 < 256) (hQ : ∀ X ∈ Qs, ∀ i, X.getD i 0 < 256) (hn : Ps.length < 9223372036854775808) (hm : Qs.length < 9223372036854775808) (hO : StrsO O p Ps) (hO2 : StrsO O q Qs) (hA : ¬ Ps.flatten.length > 400) (hB : ¬ Qs.flatten.length > 400) (hC : ¬ Ps.length > 100) (hE : ¬ Qs.length > 100) (hS : Ps = Qs) (w0 : World) (H : Has w0 O) :
    Calls Tryd.prog 4 #[.slice p Ps.length cap, .slice q Qs.length cap2] w0 fun e w' => e = .returned (.bool true) ∧ Below w0.heap.size w0 w' := by
  refine enter_fr Tryd.func4 rfl Tryd.ntmps4 (by simp) fun ac (FF : Fr 34 ac [(0, .slice p Ps.length cap), (1, .slice q Qs.length cap2)]) => ?_
  have MM : MemS (fun k => k < w0.heap.size ∧ ∀ x ∈ O, x.1 ≠ k) w0 w0 O [] := MemS.startN H hD
  refine wp_seq (rg_seq FF MM [o_] [0, 1, 4] (fun Kt => Kt [(4, .bool false), (0, .slice p Ps.length cap), (1, .slice q Qs.length cap2)] O) (by kernel_rfl) (fun _ => by kernel_rfl) (fun ac1 wd1 FF1 MM1 => then_n ?_))
  refine wp_seq ?_
  refine wp_seq (rg_seq FF1 MM1 [o_, u_ 1 (.bool false), o_, o_, u_ 1 (.bool false), o_, o_, o_, o_, w_ 3, o_, o_, o_, o_, w_ 3, o_] [4, 0, 1, 20] (fun Kt => CallP Tryd.prog 7 [.slice p Ps.length cap, .int .i64 (400 : Nat)] O (.bool false) ∧ CallP Tryd.prog 7 [.slice q Qs.length cap2, .int .i64 (400 : Nat)] O (.bool false) ∧ ¬ (Ps.length > 100) ∧ ¬ (Qs.length > 100) ∧ Kt [(20, .bool false), (4, .bool false), (0, .slice p Ps.length cap), (1, .slice q Qs.length cap2)] O) (by kernel_rfl) (fun _ => by kernel_rfl) (⟨⟨en_Long, fun w Hw => by have h0 := long_S 400 (by decide) Ps hn p cap w (hO.at Hw); rw [decide_eq_false hA] at h0; exact h0⟩, ⟨en_Long, fun w Hw => by have h0 := long_S 400 (by decide) Qs hm q cap2 w (hO2.at Hw); rw [decide_eq_false hB] at h0; exact h0⟩, hC, hE, fun ac2 wd2 FF2 MM2 => then_n ?_⟩))
  refine wp_cond_false (FF2.ev 0 rfl) ?_
  refine wp_skip ?_
  refine then_n ?_
  have hpk := pk_lt hA hC
  have hqk := pk_lt hB hE
  refine wp_seq (rg_seq FF2 MM2 [o_, u_ 1 (.string (bs (packN Ps))), o_, u_ 1 (.string (bs (packN Qs))), w_ 2, o_, o_, u_ 1 (.bool true), f_ (.bool true), o_, u_ 1 (.bool true), o_, o_] [4, 0, 1] (fun Kt => CallP Tryd.prog 9 [.slice p Ps.length cap] O (.string (bs (packN Ps))) ∧ CallP Tryd.prog 9 [.slice q Qs.length cap2] O (.string (bs (packN Qs))) ∧ bs (packN Ps) = bs (packN Qs) ∧ CallP Tryd.prog 19 [.slice p Ps.length cap, .slice q Qs.length cap2] O (.bool true) ∧ RunV Tryd.prog [(29, .bool true), (28, .slice q Qs.length cap2), (27, .slice p Ps.length cap), (26, .bool true), (25, .string (bs (packN Qs))), (24, .slice q Qs.length cap2), (23, .string (bs (packN Ps))), (22, .slice p Ps.length cap), (20, .bool false), (4, .bool false), (0, .slice p Ps.length cap), (1, .slice q Qs.length cap2)] O (opAt Tryd.f4 3 8) (.bool true) ∧ CallP Tryd.prog 8 [] O (.bool true) ∧ Kt [(4, .bool true), (0, .slice p Ps.length cap), (1, .slice q Qs.length cap2)] O) (by kernel_rfl) (fun _ => by kernel_rfl) (⟨⟨en_pack, fun w Hw => pack_any Ps hP (by omega) p cap w (hO.at Hw)⟩, ⟨en_pack, fun w Hw => pack_any Qs hQ (by omega) q cap2 w (hO2.at Hw)⟩, (by rw [hS]), ⟨en_Texts, fun w Hw => by have h0 := texts_S Ps Qs hP hQ hn p q cap cap2 w (hO.at Hw) (hO2.at Hw); rw [decide_eq_true hS] at h0; exact h0⟩, (eqB_ok (t := 4) (t' := 4) (x := (.tmp 26)) (y := (.tmp 29)) (p := true) (q := true) (by kernel_rfl) Tryd.underlying4 rfl rfl), ⟨en_wakes7, fun w Hw => wakes7 Tg fg w (Has.mem Hw hK)⟩, fun ac3 wd3 FF3 MM3 => then_n ?_⟩))
  refine wp_ret ?_
  repeat first | refine then_ret ?_ | refine inb_ret ?_
  exact (ret_fr FF3 0 Tryd.results4 rfl ⟨rfl, MM3.belowN H (fun x hx => hx)⟩)
set_option maxRecDepth 100000 in
theorem deriveapart_N (O : Blks) (hD : Distinct O) (Tg : TypeId) (fg : Nat × Nat) (hK : (0, Obj.cells (cn .u32 kTab) Tg fg) ∈ O) (Ps Qs : List (List Nat)) (p q : Option Addr) (cap cap2 : Nat) (hP : ∀ X ∈ Ps, ∀ i, X.getD i 0 < 256) (hQ : ∀ X ∈ Qs, ∀ i, X.getD i 0 < 256) (hn : Ps.length < 9223372036854775808) (hm : Qs.length < 9223372036854775808) (hO : StrsO O p Ps) (hO2 : StrsO O q Qs) (hA : ¬ Ps.flatten.length > 400) (hB : ¬ Qs.flatten.length > 400) (hC : ¬ Ps.length > 100) (hE : ¬ Qs.length > 100) (hS : ¬ Ps = Qs) (w0 : World) (H : Has w0 O) :
    Calls Tryd.prog 4 #[.slice p Ps.length cap, .slice q Qs.length cap2] w0 fun e w' => e = .returned (.bool true) ∧ Below w0.heap.size w0 w' := by
  refine enter_fr Tryd.func4 rfl Tryd.ntmps4 (by simp) fun ac (FF : Fr 34 ac [(0, .slice p Ps.length cap), (1, .slice q Qs.length cap2)]) => ?_
  have MM : MemS (fun k => k < w0.heap.size ∧ ∀ x ∈ O, x.1 ≠ k) w0 w0 O [] := MemS.startN H hD
  refine wp_seq (rg_seq FF MM [o_] [0, 1, 4] (fun Kt => Kt [(4, .bool false), (0, .slice p Ps.length cap), (1, .slice q Qs.length cap2)] O) (by kernel_rfl) (fun _ => by kernel_rfl) (fun ac1 wd1 FF1 MM1 => then_n ?_))
  refine wp_seq ?_
  refine wp_seq (rg_seq FF1 MM1 [o_, u_ 1 (.bool false), o_, o_, u_ 1 (.bool false), o_, o_, o_, o_, w_ 3, o_, o_, o_, o_, w_ 3, o_] [4, 0, 1, 20] (fun Kt => CallP Tryd.prog 7 [.slice p Ps.length cap, .int .i64 (400 : Nat)] O (.bool false) ∧ CallP Tryd.prog 7 [.slice q Qs.length cap2, .int .i64 (400 : Nat)] O (.bool false) ∧ ¬ (Ps.length > 100) ∧ ¬ (Qs.length > 100) ∧ Kt [(20, .bool false), (4, .bool false), (0, .slice p Ps.length cap), (1, .slice q Qs.length cap2)] O) (by kernel_rfl) (fun _ => by kernel_rfl) (⟨⟨en_Long, fun w Hw => by have h0 := long_S 400 (by decide) Ps hn p cap w (hO.at Hw); rw [decide_eq_false hA] at h0; exact h0⟩, ⟨en_Long, fun w Hw => by have h0 := long_S 400 (by decide) Qs hm q cap2 w (hO2.at Hw); rw [decide_eq_false hB] at h0; exact h0⟩, hC, hE, fun ac2 wd2 FF2 MM2 => then_n ?_⟩))
  refine wp_cond_false (FF2.ev 0 rfl) ?_
  refine wp_skip ?_
  refine then_n ?_
  have hpk := pk_lt hA hC
  have hqk := pk_lt hB hE
  refine wp_seq (rg_seq FF2 MM2 [o_, u_ 1 (.string (bs (packN Ps))), o_, u_ 1 (.string (bs (packN Qs))), w_ 3, o_, o_, u_ 1 (.bool false), f_ (.bool true), o_, u_ 1 (.bool true), o_, o_] [4, 0, 1] (fun Kt => CallP Tryd.prog 9 [.slice p Ps.length cap] O (.string (bs (packN Ps))) ∧ CallP Tryd.prog 9 [.slice q Qs.length cap2] O (.string (bs (packN Qs))) ∧ ¬ (bs (packN Ps) = bs (packN Qs)) ∧ CallP Tryd.prog 19 [.slice p Ps.length cap, .slice q Qs.length cap2] O (.bool false) ∧ RunV Tryd.prog [(29, .bool false), (28, .slice q Qs.length cap2), (27, .slice p Ps.length cap), (26, .bool false), (25, .string (bs (packN Qs))), (24, .slice q Qs.length cap2), (23, .string (bs (packN Ps))), (22, .slice p Ps.length cap), (20, .bool false), (4, .bool false), (0, .slice p Ps.length cap), (1, .slice q Qs.length cap2)] O (opAt Tryd.f4 3 8) (.bool true) ∧ CallP Tryd.prog 8 [] O (.bool true) ∧ Kt [(4, .bool true), (0, .slice p Ps.length cap), (1, .slice q Qs.length cap2)] O) (by kernel_rfl) (fun _ => by kernel_rfl) (⟨⟨en_pack, fun w Hw => pack_any Ps hP (by omega) p cap w (hO.at Hw)⟩, ⟨en_pack, fun w Hw => pack_any Qs hQ (by omega) q cap2 w (hO2.at Hw)⟩, (fun e => hS (packN_inj (fun X hX => by have := mem_flat hX; omega) (fun X hX => by have := mem_flat hX; omega) (bs_inj (packN_lt hP) (packN_lt hQ) e))), ⟨en_Texts, fun w Hw => by have h0 := texts_S Ps Qs hP hQ hn p q cap cap2 w (hO.at Hw) (hO2.at Hw); rw [decide_eq_false hS] at h0; exact h0⟩, (eqB_ok (t := 4) (t' := 4) (x := (.tmp 26)) (y := (.tmp 29)) (p := false) (q := false) (by kernel_rfl) Tryd.underlying4 rfl rfl), ⟨en_wakes7, fun w Hw => wakes7 Tg fg w (Has.mem Hw hK)⟩, fun ac3 wd3 FF3 MM3 => then_n ?_⟩))
  refine wp_ret ?_
  repeat first | refine then_ret ?_ | refine inb_ret ?_
  exact (ret_fr FF3 0 Tryd.results4 rfl ⟨rfl, MM3.belowN H (fun x hx => hx)⟩)

end Go.Proofs.YtkpindnekaijfaaDoor
